/- WALKS: run: what a line lays, in the code. -/
import Derived.Test.YtmkdoejpgkgpbaaDoorRoJ
set_option linter.unusedVariables false
set_option linter.unusedSimpArgs false
namespace Go.Proofs.YtmkdoejpgkgpbaaDoor
open Go.RowKit Li Ro

/-- the set behind a line -/
def afO (op r x : Nat) (A : Pl) : Pl := fun i => lyO op r x i || (A i && !loO op x i)
theorem fnS_aft (s : ByteArray) (k i : Nat) (A : Pl) : (fnS s k).aft i A = afO (l0 s (r0 s k + i)) (l1 s (r0 s k + i)) (l2 s (r0 s k + i)) A := rfl
theorem LdAt.congr {w : World} {b o : Nat} {A A' : Pl} (h : LdAt w b o (some A)) (he : A = A') : LdAt w b o (some A') := he ▸ h
theorem Ch.size {b o : Nat} {w w1 : World} (h : Ch b o w w1) : w.heap.size ≤ w1.heap.size := h.lone.size
set_option maxRecDepth 100000 in
set_option maxHeartbeats 3200000 in
theorem run_none {w : World} {op r x y p b o : Nat} {A : Pl} {arr : Array Value} {t : TypeId} (hb : w.heap[b]? = some (.cells arr t (0, 0))) (hA : LdAt w b o (some A)) (hop : op = 17 ∨ op = 18 ∨ op = 21 ∨ op = 25 ∨ op = 27 ∨ op = 31 ∨ op = 32 ∨ op = 33) :
    Calls Tryd.prog 55 #[.pointer (some ⟨b, o, none⟩), .agg #[.int .i64 op, .int .i64 r, .int .i64 x, .int .i64 y, .int .i64 p]] w fun e w' => e = .returned (.tuple #[]) ∧ LdAt w' b o (some (afO op r x A)) ∧ Ch b o w w' := by
  have HB : Hid (∀ ob : Obj, Below w.heap.size w (w.alloc ob)) := fun ob => (Below.refl _ _).alloc (Nat.le_refl _) _
  have hlt := lt_of_block hb
  have HBK : Hid (∀ ob : Obj, (w.alloc ob).heap[b]? = some (.cells arr t (0, 0))) := fun ob => (Below.heap_alloc w ob _ hlt).trans hb
  have HAK : Hid (∀ ob : Obj, LdAt (w.alloc ob) b o (some A)) := fun ob => hA.on (HB.out ob) hlt
  have HCK : Hid (∀ ob : Obj, Ch b o w (w.alloc ob)) := fun ob => Ch.of (HB.out ob) hlt
  have HE : Hid (A = afO op r x A) := by
    show _ = _
    funext i
    rcases hop with rfl | rfl | rfl | rfl | rfl | rfl | rfl | rfl <;> simp [afO, lyO, loO]
  generalize afO op r x A = A' at *
  clear hb hA
  rcases hop with rfl | rfl | rfl | rfl | rfl | rfl | rfl | rfl
  all_goals
    go_enter Tryd.func55, Tryd.ntmps55
    go_wp2_with fail
    go_returns
    exact ⟨rfl, (HAK.out _).congr HE.out, HCK.out _⟩
set_option maxRecDepth 100000 in
set_option maxHeartbeats 3200000 in
theorem run_sts {w : World} {op r x y p b o : Nat} {A : Pl} {arr : Array Value} {t : TypeId} (hb : w.heap[b]? = some (.cells arr t (0, 0))) (hA : LdAt w b o (some A)) (hop : op = 5) (hx : x < 1024) :
    Calls Tryd.prog 55 #[.pointer (some ⟨b, o, none⟩), .agg #[.int .i64 op, .int .i64 r, .int .i64 x, .int .i64 y, .int .i64 p]] w fun e w' => e = .returned (.tuple #[]) ∧ LdAt w' b o (some (afO op r x A)) ∧ Ch b o w w' := by
  have HB : Hid (∀ ob : Obj, Below w.heap.size w (w.alloc ob)) := fun ob => (Below.refl _ _).alloc (Nat.le_refl _) _
  have hlt := lt_of_block hb
  have HBK : Hid (∀ ob : Obj, (w.alloc ob).heap[b]? = some (.cells arr t (0, 0))) := fun ob => (Below.heap_alloc w ob _ hlt).trans hb
  have HAK : Hid (∀ ob : Obj, LdAt (w.alloc ob) b o (some A)) := fun ob => hA.on (HB.out ob) hlt
  have HCK : Hid (∀ ob : Obj, Ch b o w (w.alloc ob)) := fun ob => Ch.of (HB.out ob) hlt
  have HV : Hid ((mask (fun j => A (8 + 64 * (x / 64) + j)) 64 ||| 2 ^ (x % 64)) = mask (fun j => afO op r x A (8 + 64 * (x / 64) + j)) 64) := by
    show _ = _
    rw [mask_one (show x % 64 < 64 by omega), mask_or]
    apply mask_congr
    intro j hj
    rw [hop]
    by_cases e : j = x % 64
    · have e2 : 8 + 64 * (x / 64) + j = 8 + x := by omega
      simp [afO, lyO, loO, e, show 8 + 64 * (x / 64) + x % 64 = 8 + x by omega]
    · have e2 : ¬ 8 + 64 * (x / 64) + j = 8 + x := by omega
      have e3 : (j == x % 64) = false := by rw [beq_eq_false_iff_ne]; exact e
      have e4 : (8 + 64 * (x / 64) + j == 8 + x) = false := by rw [beq_eq_false_iff_ne]; exact e2
      simp [afO, lyO, loO, e3, e4]
  have HN : Hid (∀ i, i ≠ 8 + x → afO op r x A i = A i) := fun i hi => by
    rw [hop]; simp [afO, lyO, loO, hi]
  have C : Hid (∀ ob : Obj, Calls Tryd.prog 64 #[.pointer (some ⟨b, o, none⟩), .int .i64 x] (w.alloc ob) fun e w' => e = .returned (.tuple #[]) ∧ LdAt w' b o (some (afO op r x A)) ∧ Ch b o w w') := fun ob => by
    refine (laySlot_any hx (mask_lt _ 64) ((HAK.out ob).word hx) (lb_f (HBK.out ob) _)).mono ?_
    rintro e w' ⟨rfl, rfl⟩
    refine ⟨rfl, ?_, ((HCK.out ob).set _ _ (by omega) (by omega)).drew⟩
    rw [HV.out]
    exact LdAt.slot (HBK.out ob) (HAK.out ob) hx HN.out
  generalize afO op r x A = A' at *
  clear hb hA
  subst hop
  go_enter Tryd.func55, Tryd.ntmps55
  go_wp2_with (go_at_call 64; refine (C.out _).mono ?_; rintro _ w1 ⟨rfl, hA1, hC1⟩)
  go_returns
  exact ⟨rfl, hA1, hC1⟩
set_option maxRecDepth 100000 in
set_option maxHeartbeats 3200000 in
theorem run_clr {w : World} {op r x y p b o : Nat} {A : Pl} {arr : Array Value} {t : TypeId} (hb : w.heap[b]? = some (.cells arr t (0, 0))) (hA : LdAt w b o (some A)) (hop : op = 6) (hx : x < 1024) :
    Calls Tryd.prog 55 #[.pointer (some ⟨b, o, none⟩), .agg #[.int .i64 op, .int .i64 r, .int .i64 x, .int .i64 y, .int .i64 p]] w fun e w' => e = .returned (.tuple #[]) ∧ LdAt w' b o (some (afO op r x A)) ∧ Ch b o w w' := by
  have HB : Hid (∀ ob : Obj, Below w.heap.size w (w.alloc ob)) := fun ob => (Below.refl _ _).alloc (Nat.le_refl _) _
  have hlt := lt_of_block hb
  have HBK : Hid (∀ ob : Obj, (w.alloc ob).heap[b]? = some (.cells arr t (0, 0))) := fun ob => (Below.heap_alloc w ob _ hlt).trans hb
  have HAK : Hid (∀ ob : Obj, LdAt (w.alloc ob) b o (some A)) := fun ob => hA.on (HB.out ob) hlt
  have HCK : Hid (∀ ob : Obj, Ch b o w (w.alloc ob)) := fun ob => Ch.of (HB.out ob) hlt
  have HV : Hid ((mask (fun j => A (8 + 64 * (x / 64) + j)) 64 &&& (18446744073709551615 - 2 ^ (x % 64))) = mask (fun j => afO op r x A (8 + 64 * (x / 64) + j)) 64) := by
    show _ = _
    rw [mask_one (show x % 64 < 64 by omega), show 18446744073709551615 = 2 ^ 64 - 1 from rfl, mask_andNot]
    apply mask_congr
    intro j hj
    rw [hop]
    by_cases e : j = x % 64
    · simp [afO, lyO, loO, e, show 8 + 64 * (x / 64) + x % 64 = 8 + x by omega]
    · have e2 : ¬ 8 + 64 * (x / 64) + j = 8 + x := by omega
      have e3 : (j == x % 64) = false := by rw [beq_eq_false_iff_ne]; exact e
      have e4 : (8 + 64 * (x / 64) + j == 8 + x) = false := by rw [beq_eq_false_iff_ne]; exact e2
      simp [afO, lyO, loO, e3, e4]
  have HN : Hid (∀ i, i ≠ 8 + x → afO op r x A i = A i) := fun i hi => by
    rw [hop]; simp [afO, lyO, loO, hi]
  have C : Hid (∀ ob : Obj, Calls Tryd.prog 63 #[.pointer (some ⟨b, o, none⟩), .int .i64 x] (w.alloc ob) fun e w' => e = .returned (.tuple #[]) ∧ LdAt w' b o (some (afO op r x A)) ∧ Ch b o w w') := fun ob => by
    refine (unlaySlot_any hx (mask_lt _ 64) ((HAK.out ob).word hx) (lb_f (HBK.out ob) _)).mono ?_
    rintro e w' ⟨rfl, rfl⟩
    refine ⟨rfl, ?_, ((HCK.out ob).set _ _ (by omega) (by omega)).drew⟩
    rw [HV.out]
    exact LdAt.slot (HBK.out ob) (HAK.out ob) hx HN.out
  generalize afO op r x A = A' at *
  clear hb hA
  subst hop
  go_enter Tryd.func55, Tryd.ntmps55
  go_wp2_with (go_at_call 63; refine (C.out _).mono ?_; rintro _ w1 ⟨rfl, hA1, hC1⟩)
  go_returns
  exact ⟨rfl, hA1, hC1⟩
set_option maxRecDepth 100000 in
set_option maxHeartbeats 3200000 in
theorem run_alone {w : World} {op r x y p b o : Nat} {A : Pl} {arr : Array Value} {t : TypeId} (hb : w.heap[b]? = some (.cells arr t (0, 0))) (hA : LdAt w b o (some A)) (hop : op = 19 ∨ op = 20 ∨ op = 23) (hr : r < 8) :
    Calls Tryd.prog 55 #[.pointer (some ⟨b, o, none⟩), .agg #[.int .i64 op, .int .i64 r, .int .i64 x, .int .i64 y, .int .i64 p]] w fun e w' => e = .returned (.tuple #[]) ∧ LdAt w' b o (some (afO op r x A)) ∧ Ch b o w w' := by
  have HB : Hid (∀ ob : Obj, Below w.heap.size w (w.alloc ob)) := fun ob => (Below.refl _ _).alloc (Nat.le_refl _) _
  have hlt := lt_of_block hb
  have HBK : Hid (∀ ob : Obj, (w.alloc ob).heap[b]? = some (.cells arr t (0, 0))) := fun ob => (Below.heap_alloc w ob _ hlt).trans hb
  have HAK : Hid (∀ ob : Obj, LdAt (w.alloc ob) b o (some A)) := fun ob => hA.on (HB.out ob) hlt
  have HCK : Hid (∀ ob : Obj, Ch b o w (w.alloc ob)) := fun ob => Ch.of (HB.out ob) hlt
  have HV : Hid (mkR [r] = mask (afO op r x A) 8) := by
    show _ = _
    apply mask_congr
    intro i hi
    rw [Bool.eq_iff_iff]
    rcases hop with rfl | rfl | rfl <;> simp [afO, lyO, loO, hi]
  have HN : Hid (∀ i, 8 ≤ i → afO op r x A i = A i) := fun i hi => by
    have : ¬ i = r := by omega
    have h8 : ¬ i < 8 := by omega
    rcases hop with rfl | rfl | rfl <;> simp [afO, lyO, loO, this, h8]
  have C : Hid (∀ W, Calls Tryd.prog 60 #[.int .i64 r] W fun e w' => e = .returned (.int .i64 ((mkR [r] : Nat) : Int)) ∧ w' = W) := fun W => only_at hr _ rfl W
  have k0 : w.cell? ⟨b, o + 1, none⟩ = some (.int .i64 ((mask A 8 : Nat) : Int)) := hA 1 (by omega)
  have k1 : ∀ ob : Obj, (w.alloc ob).cell? ⟨b, o + 1, none⟩ = some (.int .i64 ((mask A 8 : Nat) : Int)) := fun ob => HAK.out ob 1 (by omega)
  have f1 : ∀ ob : Obj, (w.alloc ob).frozen? ⟨b, o + 1, none⟩ = false := fun ob => lb_f (HBK.out ob) _
  have HF : Hid (∀ ob : Obj, LdAt ((w.setCell ⟨b, o + 1, none⟩ (.int .i64 ((mkR [r] : Nat) : Int))).alloc ob) b o (some (afO op r x A)) ∧ Ch b o w ((w.setCell ⟨b, o + 1, none⟩ (.int .i64 ((mkR [r] : Nat) : Int))).alloc ob)) := fun ob => by
    rw [HV.out]
    have hl' : b < (w.setCell ⟨b, o + 1, none⟩ (.int .i64 ((mask (afO op r x A) 8 : Nat) : Int))).heap.size := by rw [setCell_size]; exact hlt
    have hB' : Below (w.setCell ⟨b, o + 1, none⟩ (.int .i64 ((mask (afO op r x A) 8 : Nat) : Int))).heap.size (w.setCell ⟨b, o + 1, none⟩ (.int .i64 ((mask (afO op r x A) 8 : Nat) : Int))) ((w.setCell ⟨b, o + 1, none⟩ (.int .i64 ((mask (afO op r x A) 8 : Nat) : Int))).alloc ob) := (Below.refl _ _).alloc (Nat.le_refl _) _
    exact ⟨(LdAt.reg hb hA HN.out).on hB' hl', ((Ch.refl b o w).set _ _ (by omega) (by omega)).trans (Ch.of hB' hl')⟩
  generalize afO op r x A = A' at *
  generalize mkR [r] = M at *
  generalize mask A 8 = MA at *
  clear hb hA
  rcases hop with rfl | rfl | rfl
  all_goals
    go_enter Tryd.func55, Tryd.ntmps55
    go_wp2_with (go_at_call 60; refine (C.out _).mono ?_; rintro _ w1 ⟨rfl, hw1⟩; have hw2 := hw1.symm; subst hw2)
    go_returns
    exact ⟨rfl, HF.out _⟩
set_option maxRecDepth 100000 in
set_option maxHeartbeats 3200000 in
theorem run_call {w : World} {op r x y p b o : Nat} {A : Pl} {arr : Array Value} {t : TypeId} (hb : w.heap[b]? = some (.cells arr t (0, 0))) (hA : LdAt w b o (some A)) (hop : op = 29 ∨ op = 30) :
    Calls Tryd.prog 55 #[.pointer (some ⟨b, o, none⟩), .agg #[.int .i64 op, .int .i64 r, .int .i64 x, .int .i64 y, .int .i64 p]] w fun e w' => e = .returned (.tuple #[]) ∧ LdAt w' b o (some (afO op r x A)) ∧ Ch b o w w' := by
  have HB : Hid (∀ ob : Obj, Below w.heap.size w (w.alloc ob)) := fun ob => (Below.refl _ _).alloc (Nat.le_refl _) _
  have hlt := lt_of_block hb
  have HBK : Hid (∀ ob : Obj, (w.alloc ob).heap[b]? = some (.cells arr t (0, 0))) := fun ob => (Below.heap_alloc w ob _ hlt).trans hb
  have HAK : Hid (∀ ob : Obj, LdAt (w.alloc ob) b o (some A)) := fun ob => hA.on (HB.out ob) hlt
  have HCK : Hid (∀ ob : Obj, Ch b o w (w.alloc ob)) := fun ob => Ch.of (HB.out ob) hlt
  have HV : Hid (mkR [0] = mask (afO op r x A) 8) := by
    show _ = _
    apply mask_congr
    intro i hi
    rw [Bool.eq_iff_iff]
    rcases hop with rfl | rfl <;> simp [afO, lyO, loO, hi]
  have HN : Hid (∀ i, 8 ≤ i → afO op r x A i = A i) := fun i hi => by
    have : ¬ i = 0 := by omega
    have h8 : ¬ i < 8 := by omega
    rcases hop with rfl | rfl <;> simp [afO, lyO, loO, this, h8]
  have C : Hid (∀ (z : Int) W, z = 0 → Calls Tryd.prog 60 #[.int .i64 z] W fun e w' => e = .returned (.int .i64 ((mkR [0] : Nat) : Int)) ∧ w' = W) := fun z W hz => only_at (x := 0) (by omega) z hz W
  have k0 : w.cell? ⟨b, o + 1, none⟩ = some (.int .i64 ((mask A 8 : Nat) : Int)) := hA 1 (by omega)
  have k1 : ∀ ob : Obj, (w.alloc ob).cell? ⟨b, o + 1, none⟩ = some (.int .i64 ((mask A 8 : Nat) : Int)) := fun ob => HAK.out ob 1 (by omega)
  have f1 : ∀ ob : Obj, (w.alloc ob).frozen? ⟨b, o + 1, none⟩ = false := fun ob => lb_f (HBK.out ob) _
  have HF : Hid (∀ ob : Obj, LdAt ((w.setCell ⟨b, o + 1, none⟩ (.int .i64 ((mkR [0] : Nat) : Int))).alloc ob) b o (some (afO op r x A)) ∧ Ch b o w ((w.setCell ⟨b, o + 1, none⟩ (.int .i64 ((mkR [0] : Nat) : Int))).alloc ob)) := fun ob => by
    rw [HV.out]
    have hl' : b < (w.setCell ⟨b, o + 1, none⟩ (.int .i64 ((mask (afO op r x A) 8 : Nat) : Int))).heap.size := by rw [setCell_size]; exact hlt
    have hB' : Below (w.setCell ⟨b, o + 1, none⟩ (.int .i64 ((mask (afO op r x A) 8 : Nat) : Int))).heap.size (w.setCell ⟨b, o + 1, none⟩ (.int .i64 ((mask (afO op r x A) 8 : Nat) : Int))) ((w.setCell ⟨b, o + 1, none⟩ (.int .i64 ((mask (afO op r x A) 8 : Nat) : Int))).alloc ob) := (Below.refl _ _).alloc (Nat.le_refl _) _
    exact ⟨(LdAt.reg hb hA HN.out).on hB' hl', ((Ch.refl b o w).set _ _ (by omega) (by omega)).trans (Ch.of hB' hl')⟩
  generalize afO op r x A = A' at *
  generalize mkR [0] = M at *
  generalize mask A 8 = MA at *
  clear hb hA
  rcases hop with rfl | rfl
  all_goals
    go_enter Tryd.func55, Tryd.ntmps55
    go_wp2_with (go_at_call 60; refine (C.out _ _ rfl).mono ?_; rintro _ w1 ⟨rfl, hw1⟩; have hw2 := hw1.symm; subst hw2)
    go_returns
    exact ⟨rfl, HF.out _⟩
end Go.Proofs.YtmkdoejpgkgpbaaDoor
