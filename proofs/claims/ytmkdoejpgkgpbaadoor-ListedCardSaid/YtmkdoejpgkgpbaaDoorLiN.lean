/- WALKS: both Lists, the law. -/
import Derived.Test.YtmkdoejpgkgpbaaDoorLiK
set_option linter.unusedVariables false
set_option linter.unusedSimpArgs false
namespace Go.Proofs.YtmkdoejpgkgpbaaDoor
open Go.RowKit Li

set_option maxRecDepth 100000 in
theorem vlist_bad {s : ByteArray} {w : World} {b er at' : Nat} (hs : s.size ≤ 1073741824) (h : res s = some (er, at')) :
    Calls Tryd.prog 8 #[.pointer (some ⟨b, 0, none⟩), .string s] w fun e w' => e = .returned (.tuple #[.string ⟨#[]⟩, .int .i64 er, .int .i64 at']) ∧ Below w.heap.size w w' := by
  have HR := Lib.hid (cread_bad (w := w) hs h)
  have hne : ((er : Int) != 0) = true := by have := res_er h; simp; omega
  clear h
  go_enter Tryd.func8, Tryd.ntmps8
  go_wp2_with (go_at_call 12; refine HR.out.mono ?_; rintro _ w1 ⟨rfl, hb1⟩)
  go_ret3
  exact ⟨rfl, hb1.alloc hb1.size _⟩
set_option maxRecDepth 100000 in
set_option maxHeartbeats 800000 in
theorem vlist_ok {s : ByteArray} {w : World} {b : Nat} (h : res s = none) (hl : Laid w.heap.size w) :
    Calls Tryd.prog 8 #[.pointer (some ⟨b, 0, none⟩), .string s] w fun e w' => e = .returned (.tuple #[.string ⟨(txt s).toArray⟩, .int .i64 0, .int .i64 0]) ∧ Below w.heap.size w w' := by
  have HR : Hid (Calls Tryd.prog 12 #[.string s] w fun e w' => ∃ aF nF cFc aN nN cNc aL nL cLc, e = .returned (.tuple #[.agg #[.slice aF nF cFc, .slice aN nN cNc, .slice aL nL cLc], .int .i64 0, .int .i64 0]) ∧ CdAt s w' w.heap.size (.slice aF nF cFc) (.slice aN nN cNc) (.slice aL nL cLc) ∧ Below w.heap.size w w') := by
    refine (cread_ok (w := w) h).mono ?_
    rintro e w' ⟨vF, vN, vL, he, hc, hb⟩
    obtain ⟨a1, c1, rfl⟩ := or_slice hc.funs
    obtain ⟨a2, c2, rfl⟩ := or_slice hc.nums
    obtain ⟨a3, c3, rfl⟩ := or_slice hc.lines
    exact ⟨_, _, _, _, _, _, _, _, _, he, hc, hb⟩
  have HT : Hid (∀ (W : World) vF vN vL, CdAt s W w.heap.size vF vN vL → Below w.heap.size w W → ∀ o : Obj, Calls Tryd.prog 13 #[.agg #[vF, vN, vL]] (W.alloc o) fun e w' => e = .returned (.string ⟨(txt s).toArray⟩) ∧ Below (W.alloc o).heap.size (W.alloc o) w') := fun W vF vN vL hc hb o => by
    have hs := hb.size
    have hB : Below w.heap.size w (W.alloc o) := hb.alloc hs o
    have hz : w.heap.size ≤ (W.alloc o).heap.size := by rw [World.size_alloc]; omega
    exact ctext_any h ⟨hc.funs.alloc _, hc.nums.alloc _, hc.lines.alloc _⟩ ((hl.on hB).less hz)
  clear h hl
  go_enter Tryd.func8, Tryd.ntmps8
  go_wp2_with (first
    | (go_at_call 12; refine HR.out.mono ?_; rintro _ w1 ⟨aF, nF, cFc, aN, nN, cNc, aL, nL, cLc, rfl, hc1, hb1⟩; have HC1 := Lib.hid hc1; clear hc1)
    | (go_at_call 13; refine (HT.out _ _ _ _ HC1.out hb1 _).mono ?_; rintro _ w2 ⟨rfl, hb2⟩))
  go_ret3
  exact ⟨rfl, (hb1.alloc hb1.size _).trans (hb2.mono (by rw [World.size_alloc]; have := hb1.size; omega))⟩
set_option maxRecDepth 100000 in
theorem listed_any {s : ByteArray} {w : World} {b : Nat} (hs : s.size ≤ 1073741824) (hl : Laid w.heap.size w) :
    Calls Tryd.prog 6 #[.pointer (some ⟨b, 0, none⟩), .string s] w fun e w' => e = .returned (.bool true) ∧ Below w.heap.size w w' := by
  obtain ⟨t, er, at', H1, H2⟩ : ∃ (t : ByteArray) (er at' : Int), Hid (Calls Tryd.prog 8 #[.pointer (some ⟨b, 0, none⟩), .string s] w fun e w' => e = .returned (.tuple #[.string t, .int .i64 er, .int .i64 at']) ∧ Below w.heap.size w w') ∧ Hid (∀ W : World, Calls Tryd.prog 9 #[.string s] W fun e w' => e = .returned (.tuple #[.string t, .int .i64 er, .int .i64 at']) ∧ Below W.heap.size W w') := by
    cases h : res s with
    | none => exact ⟨_, _, _, vlist_ok h hl, fun W => list_ok h⟩
    | some p => obtain ⟨er, at'⟩ := p; exact ⟨_, _, _, vlist_bad hs h, fun W => list_bad hs h⟩
  clear hl
  go_enter Tryd.func6, Tryd.ntmps6
  go_wp2_with (first
    | (go_at_call 8; refine H1.out.mono ?_; rintro _ w1 ⟨rfl, hb1⟩)
    | (go_at_call 9; refine (H2.out _).mono ?_; rintro _ w2 ⟨rfl, hb2⟩))
  go_ret
  exact ⟨by simp, hb1.trans (hb2.mono hb1.size)⟩
set_option maxRecDepth 100000 in
theorem law_any {s : ByteArray} {w : World} (hs : s.size ≤ maxLen) (hl : Laid w.heap.size w) :
    Calls Tryd.prog 3 #[.string s] w fun e w' => e = .returned (.bool true) ∧ Below w.heap.size w w' := by
  unfold maxLen at hs
  by_cases h : s.size ≤ 1073741824
  · have HL : Hid (∀ o : Obj, Calls Tryd.prog 6 #[.pointer (some ⟨w.heap.size, 0, none⟩), .string s] (w.alloc o) fun e w' => e = .returned (.bool true) ∧ Below (w.alloc o).heap.size (w.alloc o) w') := fun o => listed_any h ((hl.on ((Below.refl _ _).alloc (Nat.le_refl _) o)).less (by rw [World.size_alloc]; omega))
    clear hl
    go_enter Tryd.func3, Tryd.ntmps3
    go_wp2_with (first
      | (go_at_call 6; refine (HL.out _).mono ?_; rintro _ w1 ⟨rfl, hb1⟩)
      | (go_at_call 5; go_in))
    go_ret
    exact ⟨rfl, ((Below.refl _ _).alloc (Nat.le_refl _) _).trans (hb1.mono (by rw [World.size_alloc]; omega))⟩
  · clear hl
    go_enter Tryd.func3, Tryd.ntmps3
    go_wp2
    go_ret
    exact ⟨rfl, Below.refl _ _⟩
end Go.Proofs.YtmkdoejpgkgpbaaDoor
