/- WALKS: the registers that a line reads, in the code: more than one. -/
import Derived.Test.YtmkdoejpgkgpbaaDoorRoG
set_option linter.unusedVariables false
set_option linter.unusedSimpArgs false
namespace Go.Proofs.YtmkdoejpgkgpbaaDoor
open Go.RowKit Li Ro

set_option maxRecDepth 100000 in
set_option maxHeartbeats 3200000 in
theorem read_xy {s : ByteArray} {w : World} {f op r x y p : Nat} (hop : op = 7 ∨ op = 8 ∨ op = 9 ∨ op = 10 ∨ op = 11 ∨ op = 12 ∨ op = 13 ∨ op = 14 ∨ op = 23 ∨ op = 24) (hx : x < 8) (hy : y < 8) :
    Calls Tryd.prog 62 #[.pointer (some ⟨f, 0, none⟩), .agg #[.int .i64 op, .int .i64 r, .int .i64 x, .int .i64 y, .int .i64 p]] w fun e w' => e = .returned (.int .i64 ((mkR (rdO s op r x y) : Nat) : Int)) ∧ Below w.heap.size w w' := by
  have HB : Hid (∀ o : Obj, Below w.heap.size w (w.alloc o)) := fun o => (Below.refl _ _).alloc (Nat.le_refl _) _
  have HE : Hid (mkR ([x] ++ [y]) = mkR (rdO s op r x y)) := by
    show _ = _
    apply mkR_congr
    intro i hi
    rcases hop with rfl | rfl | rfl | rfl | rfl | rfl | rfl | rfl | rfl | rfl <;> simp [rdO] <;> omega
  have C1 : Hid (∀ W, Calls Tryd.prog 60 #[.int .i64 x] W fun e w' => e = .returned (.int .i64 ((mkR [x] : Nat) : Int)) ∧ w' = W) := fun W => only_at hx _ rfl W
  have C2 : Hid (∀ W, Calls Tryd.prog 60 #[.int .i64 y] W fun e w' => e = .returned (.int .i64 ((mkR [y] : Nat) : Int)) ∧ w' = W) := fun W => only_at hy _ rfl W
  have hor := mkR_bits [x] [y]
  generalize mkR (rdO s op r x y) = M at *
  generalize mkR ([x] ++ [y]) = M1 at *
  generalize mkR [x] = MX at *
  generalize mkR [y] = MY at *
  rcases hop with rfl | rfl | rfl | rfl | rfl | rfl | rfl | rfl | rfl | rfl
  all_goals
    go_enter Tryd.func62, Tryd.ntmps62
    go_wp2_with fail
    go_quiet ((first | (go_at_call_of 60 x; exact Calls.quiet_of_same (C1.out _)) | (go_at_call_of 60 y; exact Calls.quiet_of_same (C2.out _))))
    go_wp2_with fail
    go_ret
    exact ⟨ret_int' (by rw [HE.out]), below_drewN (HB.out _) _⟩
set_option maxRecDepth 100000 in
set_option maxHeartbeats 3200000 in
theorem read_ry {s : ByteArray} {w : World} {f op r x y p : Nat} (hop : op = 21) (hr : r < 8) (hy : y < 8) :
    Calls Tryd.prog 62 #[.pointer (some ⟨f, 0, none⟩), .agg #[.int .i64 op, .int .i64 r, .int .i64 x, .int .i64 y, .int .i64 p]] w fun e w' => e = .returned (.int .i64 ((mkR (rdO s op r x y) : Nat) : Int)) ∧ Below w.heap.size w w' := by
  have HB : Hid (∀ o : Obj, Below w.heap.size w (w.alloc o)) := fun o => (Below.refl _ _).alloc (Nat.le_refl _) _
  have HE : Hid (mkR ([r] ++ [y]) = mkR (rdO s op r x y)) := by
    show _ = _
    apply mkR_congr
    intro i hi
    rcases hop with rfl <;> simp [rdO] <;> omega
  have C1 : Hid (∀ W, Calls Tryd.prog 60 #[.int .i64 r] W fun e w' => e = .returned (.int .i64 ((mkR [r] : Nat) : Int)) ∧ w' = W) := fun W => only_at hr _ rfl W
  have C2 : Hid (∀ W, Calls Tryd.prog 60 #[.int .i64 y] W fun e w' => e = .returned (.int .i64 ((mkR [y] : Nat) : Int)) ∧ w' = W) := fun W => only_at hy _ rfl W
  have hor := mkR_bits [r] [y]
  generalize mkR (rdO s op r x y) = M at *
  generalize mkR ([r] ++ [y]) = M1 at *
  generalize mkR [r] = MX at *
  generalize mkR [y] = MY at *
  rcases hop with rfl
  all_goals
    go_enter Tryd.func62, Tryd.ntmps62
    go_wp2_with fail
    go_quiet ((first | (go_at_call_of 60 r; exact Calls.quiet_of_same (C1.out _)) | (go_at_call_of 60 y; exact Calls.quiet_of_same (C2.out _))))
    go_wp2_with fail
    go_ret
    exact ⟨ret_int' (by rw [HE.out]), below_drewN (HB.out _) _⟩
set_option maxRecDepth 100000 in
set_option maxHeartbeats 3200000 in
theorem read_rxy {s : ByteArray} {w : World} {f op r x y p : Nat} (hop : op = 25) (hr : r < 8) (hx : x < 8) (hy : y < 8) :
    Calls Tryd.prog 62 #[.pointer (some ⟨f, 0, none⟩), .agg #[.int .i64 op, .int .i64 r, .int .i64 x, .int .i64 y, .int .i64 p]] w fun e w' => e = .returned (.int .i64 ((mkR (rdO s op r x y) : Nat) : Int)) ∧ Below w.heap.size w w' := by
  have HB : Hid (∀ o : Obj, Below w.heap.size w (w.alloc o)) := fun o => (Below.refl _ _).alloc (Nat.le_refl _) _
  have HE : Hid (mkR ([r] ++ [x] ++ [y]) = mkR (rdO s op r x y)) := by
    show _ = _
    apply mkR_congr
    intro i hi
    rcases hop with rfl <;> simp [rdO] <;> omega
  have C1 : Hid (∀ W, Calls Tryd.prog 60 #[.int .i64 r] W fun e w' => e = .returned (.int .i64 ((mkR [r] : Nat) : Int)) ∧ w' = W) := fun W => only_at hr _ rfl W
  have C2 : Hid (∀ W, Calls Tryd.prog 60 #[.int .i64 x] W fun e w' => e = .returned (.int .i64 ((mkR [x] : Nat) : Int)) ∧ w' = W) := fun W => only_at hx _ rfl W
  have C3 : Hid (∀ W, Calls Tryd.prog 60 #[.int .i64 y] W fun e w' => e = .returned (.int .i64 ((mkR [y] : Nat) : Int)) ∧ w' = W) := fun W => only_at hy _ rfl W
  have hor := mkR_bits [r] [x]
  have hor2 := mkR_bits ([r] ++ [x]) [y]
  generalize mkR (rdO s op r x y) = M at *
  generalize mkR ([r] ++ [x] ++ [y]) = M2 at *
  generalize mkR ([r] ++ [x]) = M1 at *
  generalize mkR [r] = MR at *
  generalize mkR [x] = MX at *
  generalize mkR [y] = MY at *
  rcases hop with rfl
  all_goals
    go_enter Tryd.func62, Tryd.ntmps62
    go_wp2_with fail
    go_quiet ((first | (go_at_call_of 60 r; exact Calls.quiet_of_same (C1.out _)) | (go_at_call_of 60 x; exact Calls.quiet_of_same (C2.out _)) | (go_at_call_of 60 y; exact Calls.quiet_of_same (C3.out _))))
    go_wp2_with fail
    go_ret
    exact ⟨ret_int' (by rw [HE.out]), below_drewN (HB.out _) _⟩
set_option maxRecDepth 100000 in
set_option maxHeartbeats 3200000 in
theorem read_few {s : ByteArray} {w : World} {f op r x y p : Nat} (hop : op = 30 ∨ op = 32) (hx : x ≤ 4) :
    Calls Tryd.prog 62 #[.pointer (some ⟨f, 0, none⟩), .agg #[.int .i64 op, .int .i64 r, .int .i64 x, .int .i64 y, .int .i64 p]] w fun e w' => e = .returned (.int .i64 ((mkR (rdO s op r x y) : Nat) : Int)) ∧ Below w.heap.size w w' := by
  have HB : Hid (∀ o : Obj, Below w.heap.size w (w.alloc o)) := fun o => (Below.refl _ _).alloc (Nat.le_refl _) _
  have HE : Hid (mkR (List.range x ++ [7]) = mkR (rdO s op r x y)) := by
    show _ = _
    apply mkR_congr
    intro i hi
    rcases hop with rfl | rfl <;> simp [rdO] <;> omega
  have C1 : Hid (∀ W, Calls Tryd.prog 59 #[.int .i64 x] W fun e w' => e = .returned (.int .i64 ((mkR (List.range x) : Nat) : Int)) ∧ w' = W) := fun W => first_at (by omega) W
  have C2 : Hid (∀ (z : Int) W, z = 7 → Calls Tryd.prog 60 #[.int .i64 z] W fun e w' => e = .returned (.int .i64 ((mkR [7] : Nat) : Int)) ∧ w' = W) := fun z W hz => only_at (x := 7) (by omega) z hz W
  have hor := mkR_bits (List.range x) [7]
  generalize mkR (rdO s op r x y) = M at *
  generalize mkR (List.range x ++ [7]) = M1 at *
  generalize mkR (List.range x) = MX at *
  generalize mkR [7] = MY at *
  rcases hop with rfl | rfl
  all_goals
    go_enter Tryd.func62, Tryd.ntmps62
    go_wp2_with (first
      | (go_at_call 59; refine (C1.out _).mono ?_; rintro _ w1 ⟨rfl, hw1⟩; have hw2 := hw1.symm; subst hw2)
      | (go_at_call 60; refine (C2.out _ _ rfl).mono ?_; rintro _ w1 ⟨rfl, hw1⟩; have hw2 := hw1.symm; subst hw2))
    go_ret
    exact ⟨ret_int' (by rw [HE.out]), HB.out _⟩
set_option maxRecDepth 100000 in
set_option maxHeartbeats 3200000 in
theorem read_r0 {s : ByteArray} {w : World} {f op r x y p : Nat} (hop : op = 33) :
    Calls Tryd.prog 62 #[.pointer (some ⟨f, 0, none⟩), .agg #[.int .i64 op, .int .i64 r, .int .i64 x, .int .i64 y, .int .i64 p]] w fun e w' => e = .returned (.int .i64 ((mkR (rdO s op r x y) : Nat) : Int)) ∧ Below w.heap.size w w' := by
  have HB : Hid (∀ o : Obj, Below w.heap.size w (w.alloc o)) := fun o => (Below.refl _ _).alloc (Nat.le_refl _) _
  have HE : Hid (mkR [0] = mkR (rdO s op r x y)) := by
    show _ = _
    apply mkR_congr
    intro i hi
    rw [hop]; simp [rdO]
  have C2 : Hid (∀ (z : Int) W, z = 0 → Calls Tryd.prog 60 #[.int .i64 z] W fun e w' => e = .returned (.int .i64 ((mkR [0] : Nat) : Int)) ∧ w' = W) := fun z W hz => only_at (x := 0) (by omega) z hz W
  generalize mkR (rdO s op r x y) = M at *
  generalize mkR [0] = MY at *
  subst hop
  go_enter Tryd.func62, Tryd.ntmps62
  go_wp2_with (go_at_call 60; refine (C2.out _ _ rfl).mono ?_; rintro _ w1 ⟨rfl, hw1⟩; have hw2 := hw1.symm; subst hw2)
  go_ret
  exact ⟨ret_int' (by rw [HE.out]), HB.out _⟩
end Go.Proofs.YtmkdoejpgkgpbaaDoor
