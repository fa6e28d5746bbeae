/- WALKS: the registers that a line reads, in the code. -/
import Derived.Test.YtmkdoejpgkgpbaaDoorRoF
import Derived.Test.YtmkdoejpgkgpbaaDoorChI
set_option linter.unusedVariables false
set_option linter.unusedSimpArgs false
namespace Go.Proofs.YtmkdoejpgkgpbaaDoor
open Go.RowKit Li Ro

def tkL (p n : Nat) : List Nat := List.range p ++ (if n = 1 then [7] else [])
theorem tkF_tkL (s : ByteArray) (k : Nat) : tkF s k = tkL (r1 s k) (r2 s k) := rfl
def mkR (l : List Nat) : Nat := mask (fun i => l.contains i) 8
theorem mkR_lt (l : List Nat) : mkR l < 256 := mask_lt _ 8
theorem mkR_one {x : Nat} (hx : x < 8) : 2 ^ x = mkR [x] := by
  rw [mask_one hx]
  exact mask_congr fun i _ => by rw [Bool.eq_iff_iff]; simp
theorem mkR_or (l m : List Nat) : mkR l ||| mkR m = mkR (l ++ m) := by
  unfold mkR
  rw [mask_or]
  exact mask_congr fun i _ => by rw [Bool.eq_iff_iff]; simp
theorem mkR_congr {l m : List Nat} (h : ∀ i, i < 8 → (i ∈ l ↔ i ∈ m)) : mkR l = mkR m := mask_congr fun i hi => by rw [Bool.eq_iff_iff]; simp [h i hi]
theorem mkR_bits (l m : List Nat) : bits BinOp.or IntKind.i64 ((mkR l : Nat) : Int) ((mkR m : Nat) : Int) = ((mkR (l ++ m) : Nat) : Int) := by
  have := mkR_lt l
  have := mkR_lt m
  rw [i64_or _ _ (by omega) (by omega), mkR_or]
theorem only_at {x : Nat} (hx : x < 8) (z : Int) (hz : z = x) (W : World) : Calls Tryd.prog 60 #[.int .i64 z] W fun e w' => e = .returned (.int .i64 ((mkR [x] : Nat) : Int)) ∧ w' = W := by
  rw [hz, ← mkR_one hx]; exact only_any (by omega)
theorem first_at {n : Nat} (hn : n ≤ 8) (W : World) : Calls Tryd.prog 59 #[.int .i64 n] W fun e w' => e = .returned (.int .i64 ((mkR (List.range n) : Nat) : Int)) ∧ w' = W := by
  have h := first_any (n := n) (w := W) hn
  rw [show mask (fun i => decide (i < n)) 8 = mkR (List.range n) from mask_congr fun i _ => by rw [Bool.eq_iff_iff]; simp] at h
  exact h
set_option maxHeartbeats 800000 in
theorem entry_any {w : World} {a0 a3 : Int} {p n : Nat} (hp : p ≤ 4) : Calls Tryd.prog 53 #[.agg #[.int .i64 a0, .int .i64 p, .int .i64 n, .int .i64 a3]] w fun e w' => e = .returned (.int .i64 ((mkR (tkL p n) : Nat) : Int)) ∧ Below w.heap.size w w' := by
  have HB : Hid (∀ o : Obj, Below w.heap.size w (w.alloc o)) := fun o => (Below.refl _ _).alloc (Nat.le_refl _) _
  have C1 : Hid (∀ W, Calls Tryd.prog 59 #[.int .i64 p] W fun e w' => e = .returned (.int .i64 ((mkR (List.range p) : Nat) : Int)) ∧ w' = W) := fun W => first_at (by omega) W
  have C2 : Hid (∀ (z : Int) W, z = 7 → Calls Tryd.prog 60 #[.int .i64 z] W fun e w' => e = .returned (.int .i64 ((mkR [7] : Nat) : Int)) ∧ w' = W) := fun z W hz => only_at (x := 7) (by omega) z hz W
  by_cases hn : n = 1
  · subst hn
    have hor := mkR_bits (List.range p) [7]
    have HE : Hid (mkR (List.range p ++ [7]) = mkR (tkL p 1)) := rfl
    generalize mkR (tkL p 1) = M at *
    generalize mkR (List.range p ++ [7]) = M1 at *
    generalize mkR (List.range p) = M2 at *
    generalize mkR [7] = M3 at *
    go_enter Tryd.func53, Tryd.ntmps53
    go_wp2_with (first
      | (go_at_call 59; refine (C1.out _).mono ?_; rintro _ w1 ⟨rfl, hw1⟩; have hw2 := hw1.symm; subst hw2)
      | (go_at_call 60; refine (C2.out _ _ rfl).mono ?_; rintro _ w1 ⟨rfl, hw1⟩; have hw2 := hw1.symm; subst hw2))
    go_ret
    exact ⟨ret_int' (by rw [HE.out]), HB.out _⟩
  · have HE : Hid (mkR (List.range p) = mkR (tkL p n)) := by show _ = _; unfold tkL; rw [if_neg hn, List.append_nil]
    have hb : ((n : Int) == 1) = false := by simp; omega
    clear hn
    generalize mkR (tkL p n) = M at *
    generalize mkR (List.range p) = M2 at *
    go_enter Tryd.func53, Tryd.ntmps53
    go_wp2_with (go_at_call 59; refine (C1.out _).mono ?_; rintro _ w1 ⟨rfl, hw1⟩; have hw2 := hw1.symm; subst hw2)
    go_ret
    exact ⟨ret_int' (by rw [HE.out]), HB.out _⟩
set_option maxRecDepth 100000 in
set_option maxHeartbeats 3200000 in
theorem read_none {s : ByteArray} {w : World} {f op r x y p : Nat} (hop : op = 1 ∨ op = 3 ∨ op = 4 ∨ op = 6 ∨ op = 17 ∨ op = 19 ∨ op = 20 ∨ op = 28) :
    Calls Tryd.prog 62 #[.pointer (some ⟨f, 0, none⟩), .agg #[.int .i64 op, .int .i64 r, .int .i64 x, .int .i64 y, .int .i64 p]] w fun e w' => e = .returned (.int .i64 ((mkR (rdO s op r x y) : Nat) : Int)) ∧ Below w.heap.size w w' := by
  have HB : Hid (∀ o : Obj, Below w.heap.size w (w.alloc o)) := fun o => (Below.refl _ _).alloc (Nat.le_refl _) _
  have HE : Hid (0 = mkR (rdO s op r x y)) := by
    show _ = _
    rw [show (0 : Nat) = mkR [] by rfl]
    apply mkR_congr
    intro i hi
    rcases hop with rfl | rfl | rfl | rfl | rfl | rfl | rfl | rfl <;> simp [rdO] <;> omega
  generalize mkR (rdO s op r x y) = M at *
  rcases hop with rfl | rfl | rfl | rfl | rfl | rfl | rfl | rfl
  all_goals
    go_enter Tryd.func62, Tryd.ntmps62
    go_wp2_with fail
    go_ret
    exact ⟨ret_int' (by rw [← HE.out]; rfl), HB.out _⟩
set_option maxRecDepth 100000 in
set_option maxHeartbeats 3200000 in
theorem read_x {s : ByteArray} {w : World} {f op r x y p : Nat} (hop : op = 2 ∨ op = 15 ∨ op = 16 ∨ op = 22 ∨ op = 26) (hx : x < 8) :
    Calls Tryd.prog 62 #[.pointer (some ⟨f, 0, none⟩), .agg #[.int .i64 op, .int .i64 r, .int .i64 x, .int .i64 y, .int .i64 p]] w fun e w' => e = .returned (.int .i64 ((mkR (rdO s op r x y) : Nat) : Int)) ∧ Below w.heap.size w w' := by
  have HB : Hid (∀ o : Obj, Below w.heap.size w (w.alloc o)) := fun o => (Below.refl _ _).alloc (Nat.le_refl _) _
  have HE : Hid (mkR [x] = mkR (rdO s op r x y)) := by
    show _ = _
    apply mkR_congr
    intro i hi
    rcases hop with rfl | rfl | rfl | rfl | rfl <;> simp [rdO] <;> omega
  have C1 : Hid (∀ W, Calls Tryd.prog 60 #[.int .i64 x] W fun e w' => e = .returned (.int .i64 ((mkR [x] : Nat) : Int)) ∧ w' = W) := fun W => only_at hx _ rfl W
  generalize mkR (rdO s op r x y) = M at *
  generalize mkR [x] = MX at *
  rcases hop with rfl | rfl | rfl | rfl | rfl
  all_goals
    go_enter Tryd.func62, Tryd.ntmps62
    go_wp2_with (go_at_call_of 60 x; refine (C1.out _).mono ?_; rintro _ w1 ⟨rfl, hw1⟩; have hw2 := hw1.symm; subst hw2)
    go_ret
    exact ⟨ret_int' (by rw [HE.out]), HB.out _⟩
set_option maxRecDepth 100000 in
set_option maxHeartbeats 3200000 in
theorem read_r {s : ByteArray} {w : World} {f op r x y p : Nat} (hop : op = 5 ∨ op = 18 ∨ op = 27) (hr : r < 8) :
    Calls Tryd.prog 62 #[.pointer (some ⟨f, 0, none⟩), .agg #[.int .i64 op, .int .i64 r, .int .i64 x, .int .i64 y, .int .i64 p]] w fun e w' => e = .returned (.int .i64 ((mkR (rdO s op r x y) : Nat) : Int)) ∧ Below w.heap.size w w' := by
  have HB : Hid (∀ o : Obj, Below w.heap.size w (w.alloc o)) := fun o => (Below.refl _ _).alloc (Nat.le_refl _) _
  have HE : Hid (mkR [r] = mkR (rdO s op r x y)) := by
    show _ = _
    apply mkR_congr
    intro i hi
    rcases hop with rfl | rfl | rfl <;> simp [rdO] <;> omega
  have C1 : Hid (∀ W, Calls Tryd.prog 60 #[.int .i64 r] W fun e w' => e = .returned (.int .i64 ((mkR [r] : Nat) : Int)) ∧ w' = W) := fun W => only_at hr _ rfl W
  generalize mkR (rdO s op r x y) = M at *
  generalize mkR [r] = MX at *
  rcases hop with rfl | rfl | rfl
  all_goals
    go_enter Tryd.func62, Tryd.ntmps62
    go_wp2_with (go_at_call_of 60 r; refine (C1.out _).mono ?_; rintro _ w1 ⟨rfl, hw1⟩; have hw2 := hw1.symm; subst hw2)
    go_ret
    exact ⟨ret_int' (by rw [HE.out]), HB.out _⟩
end Go.Proofs.YtmkdoejpgkgpbaaDoor
