/- WALKS: the code's Check. -/
import Derived.Test.YtmkdoejpgkgpbaaDoorRoQ
set_option linter.unusedVariables false
set_option linter.unusedSimpArgs false
namespace Go.Proofs.YtmkdoejpgkgpbaaDoor
open Go.RowKit Li

theorem ckR_bad {s : ByteArray} {er at' : Nat} (h : res s = some (er, at')) : ckR s = (er, at') := by unfold ckR; rw [h]
theorem ckR_ok {s : ByteArray} (h : res s = none) : ckR s = fauR s := by
  unfold ckR fauR
  rw [h]
  cases scan (opK s) (hF s) 0 with
  | some p => rfl
  | none => cases scan (flK s) (hF s) 0 <;> rfl
set_option maxRecDepth 100000 in
theorem vcheck_bad {s : ByteArray} {w : World} {b er at' : Nat} (hs : s.size ≤ 1073741824) (h : res s = some (er, at')) :
    Calls Tryd.prog 10 #[.pointer (some ⟨b, 0, none⟩), .string s] w fun e w' => e = .returned (.tuple #[.int .i64 er, .int .i64 at']) ∧ Below w.heap.size w w' := by
  have HR := Lib.hid (cread_bad (w := w) hs h)
  have hne : ((er : Int) != 0) = true := by have := res_er h; simp; omega
  clear h
  go_enter Tryd.func10, Tryd.ntmps10
  go_wp2_with (go_at_call 12; refine HR.out.mono ?_; rintro _ w1 ⟨rfl, hb1⟩)
  go_ret2
  exact ⟨rfl, hb1.alloc hb1.size _⟩
set_option maxRecDepth 100000 in
set_option maxHeartbeats 800000 in
theorem vcheck_ok {s : ByteArray} {w : World} {b er at' : Nat} (h : res s = none) (hl : LaidF w.heap.size w) (hR : fauR s = (er, at')) :
    Calls Tryd.prog 10 #[.pointer (some ⟨b, 0, none⟩), .string s] w fun e w' => e = .returned (.tuple #[.int .i64 er, .int .i64 at']) ∧ Below w.heap.size w w' := by
  have HR : Hid (Calls Tryd.prog 12 #[.string s] w fun e w' => ∃ aF nF cFc aN nN cNc aL nL cLc, e = .returned (.tuple #[.agg #[.slice aF nF cFc, .slice aN nN cNc, .slice aL nL cLc], .int .i64 0, .int .i64 0]) ∧ CdAt s w' w.heap.size (.slice aF nF cFc) (.slice aN nN cNc) (.slice aL nL cLc) ∧ Below w.heap.size w w') := by
    refine (cread_ok (w := w) h).mono ?_
    rintro e w' ⟨vF, vN, vL, he, hc, hb⟩
    obtain ⟨a1, c1, rfl⟩ := or_slice hc.funs
    obtain ⟨a2, c2, rfl⟩ := or_slice hc.nums
    obtain ⟨a3, c3, rfl⟩ := or_slice hc.lines
    exact ⟨_, _, _, _, _, _, _, _, _, he, hc, hb⟩
  have HT : Hid (∀ (W : World) aF nF cFc aN nN cNc aL nL cLc, CdAt s W w.heap.size (.slice aF nF cFc) (.slice aN nN cNc) (.slice aL nL cLc) → Below w.heap.size w W → ∀ o : Obj, Calls Tryd.prog 17 #[.agg #[.slice aF nF cFc, .slice aN nN cNc, .slice aL nL cLc]] (W.alloc o) fun e w' => e = .returned (.tuple #[.int .i64 er, .int .i64 at']) ∧ Below (W.alloc o).heap.size (W.alloc o) w') := fun W aF nF cFc aN nN cNc aL nL cLc hc hb o => by
    have hs := hb.size
    have hB : Below w.heap.size w (W.alloc o) := hb.alloc hs o
    have hz : w.heap.size ≤ (W.alloc o).heap.size := by rw [World.size_alloc]; omega
    exact fau_any ⟨hc.funs.alloc _, hc.nums.alloc _, hc.lines.alloc _⟩ (res_none h).2.2.1 ((hl.on hB).less hz) hR
  clear h hl hR
  go_enter Tryd.func10, Tryd.ntmps10
  go_wp2_with (first
    | (go_at_call 12; refine HR.out.mono ?_; rintro _ w1 ⟨aF, nF, cFc, aN, nN, cNc, aL, nL, cLc, rfl, hc1, hb1⟩; have HC1 := Lib.hid hc1; clear hc1)
    | (go_at_call 17; refine (HT.out _ _ _ _ _ _ _ _ _ _ HC1.out hb1 _).mono ?_; rintro _ w2 ⟨rfl, hb2⟩))
  go_ret2
  exact ⟨rfl, (hb1.alloc hb1.size _).trans (hb2.mono (by rw [World.size_alloc]; have := hb1.size; omega))⟩
theorem vcheck_any {s : ByteArray} {w : World} {b : Nat} (hs : s.size ≤ 1073741824) (hl : LaidF w.heap.size w) :
    Calls Tryd.prog 10 #[.pointer (some ⟨b, 0, none⟩), .string s] w fun e w' => e = .returned (.tuple #[.int .i64 (ckR s).1, .int .i64 (ckR s).2]) ∧ Below w.heap.size w w' := by
  cases h : res s with
  | none => rw [ckR_ok h]; exact vcheck_ok h hl rfl
  | some p => obtain ⟨er, at'⟩ := p; rw [ckR_bad h]; exact vcheck_bad hs h
/-- the document's Check answers so -/
def DocCk (s : ByteArray) : Prop := ∀ W : World, Calls Tryd.prog 11 #[.string s] W fun e w' => e = .returned (.tuple #[.int .i64 (ckR s).1, .int .i64 (ckR s).2]) ∧ Below W.heap.size W w'
set_option maxRecDepth 100000 in
theorem checked_any {s : ByteArray} {w : World} {b : Nat} (hd : DocCk s) (hs : s.size ≤ 1073741824) (hl : LaidF w.heap.size w) :
    Calls Tryd.prog 7 #[.pointer (some ⟨b, 0, none⟩), .string s] w fun e w' => e = .returned (.bool true) ∧ Below w.heap.size w w' := by
  have H1 := Lib.hid (vcheck_any (b := b) hs hl)
  have H2 : Hid (∀ W : World, Calls Tryd.prog 11 #[.string s] W fun e w' => e = .returned (.tuple #[.int .i64 (ckR s).1, .int .i64 (ckR s).2]) ∧ Below W.heap.size W w') := hd
  clear hl hd
  generalize ((ckR s).1 : Int) = er at *
  generalize ((ckR s).2 : Int) = at' at *
  go_enter Tryd.func7, Tryd.ntmps7
  go_wp2_with (first
    | (go_at_call 10; refine H1.out.mono ?_; rintro _ w1 ⟨rfl, hb1⟩)
    | (go_at_call 11; refine (H2.out _).mono ?_; rintro _ w2 ⟨rfl, hb2⟩))
  go_ret
  exact ⟨by simp, hb1.trans (hb2.mono hb1.size)⟩
set_option maxRecDepth 100000 in
theorem claw_any {s : ByteArray} {w : World} (hd : s.size ≤ 1073741824 → DocCk s) (hs : s.size ≤ maxLen) (hl : LaidF w.heap.size w) :
    Calls Tryd.prog 4 #[.string s] w fun e w' => e = .returned (.bool true) ∧ Below w.heap.size w w' := by
  unfold maxLen at hs
  by_cases h : s.size ≤ 1073741824
  · have HL : Hid (∀ o : Obj, Calls Tryd.prog 7 #[.pointer (some ⟨w.heap.size, 0, none⟩), .string s] (w.alloc o) fun e w' => e = .returned (.bool true) ∧ Below (w.alloc o).heap.size (w.alloc o) w') := fun o => checked_any (hd h) h ((hl.on ((Below.refl _ _).alloc (Nat.le_refl _) o)).less (by rw [World.size_alloc]; omega))
    clear hl hd
    go_enter Tryd.func4, Tryd.ntmps4
    go_wp2_with (first
      | (go_at_call 7; refine (HL.out _).mono ?_; rintro _ w1 ⟨rfl, hb1⟩)
      | (go_at_call 5; go_in))
    go_ret
    exact ⟨rfl, ((Below.refl _ _).alloc (Nat.le_refl _) _).trans (hb1.mono (by rw [World.size_alloc]; omega))⟩
  · clear hl hd
    go_enter Tryd.func4, Tryd.ntmps4
    go_wp2
    go_ret
    exact ⟨rfl, Below.refl _ _⟩
end Go.Proofs.YtmkdoejpgkgpbaaDoor
