/- WALKS: the code's End. -/
import Derived.Test.YtmkdoejpgkgpbaaDoorChB
set_option linter.unusedVariables false
set_option linter.unusedSimpArgs false
namespace Go.Proofs.YtmkdoejpgkgpbaaDoor
open Go.RowKit Li

set_option maxRecDepth 100000 in
set_option maxHeartbeats 800000 in
theorem end_any {s : ByteArray} {w : World} {B k : Nat} {aF aN aL : Option Addr} {nF cFc nN cNc nL cLc : Nat} (hcd : CdAt s w B (.slice aF nF cFc) (.slice aN nN cNc) (.slice aL nL cLc)) (hk : k < hF s) :
    Calls Tryd.prog 42 #[.agg #[.slice aF nF cFc, .slice aN nN cNc, .slice aL nL cLc], .int .i64 k] w fun e w' => e = .returned (.int .i64 (en s k)) ∧ Below w.heap.size w w' := by
  have hFl : hF s < 65536 := n2_lt _ _
  obtain ⟨a1, c1, h1⟩ := or_slice hcd.funs
  obtain ⟨a3, c3, h3⟩ := or_slice hcd.lines
  injection h1 with q1 hnF q2
  injection h3 with q3 hnL q4
  clear q1 q2 q3 q4
  subst hnF hnL
  obtain ⟨g, cap, hsl, hg1, hg2, hg3, hg4⟩ := or_shape hcd.funs (by omega)
  injection hsl with e1 e2 e3
  subst e1 e3
  have HB : Hid (∀ o : Obj, Below w.heap.size w (w.alloc o)) := fun o => (Below.refl _ _).alloc (Nat.le_refl _) _
  by_cases hlt : k + 1 < hF s
  · have hE : Hid (en s k = r0 s (k + 1)) := by show _ = _; unfold en; rw [if_pos hlt]
    have hc : w.cell? ⟨g, (k + 1) * 4, none⟩ = some (.int .i64 (r0 s (k + 1))) := by
      rw [hcd.funs.cellAt ((k + 1) * 4) (by omega)]
      exact rowC_at (cF_len s) (i := k + 1) (o := 0) (by omega) (hF s) hlt
    have hc' : ∀ o : Obj, (w.alloc o).cell? ⟨g, (k + 1) * 4, none⟩ = some (.int .i64 (r0 s (k + 1))) := fun o => ((HB.out o).cell (p := ⟨g, _, none⟩) hg2).trans hc
    rw [hE.out]
    have g1 : decide (((hF s : Nat) : Int) - 1 ≤ (k : Int)) = false := by simp; omega
    have g2 : (k : Int) + 1 < ((hF s : Nat) : Int) := by omega
    clear hcd hE
    generalize hF s = F at *
    generalize (r0 s (k + 1) : Nat) = q at *
    generalize hL s = L at *
    go_enter Tryd.func42, Tryd.ntmps42
    go_wp2
    go_ret
    exact ⟨rfl, HB.out _⟩
  · have hE : Hid (en s k = hL s) := by show _ = _; unfold en; rw [if_neg hlt]
    rw [hE.out]
    have g1 : decide (((hF s : Nat) : Int) - 1 ≤ (k : Int)) = true := by simp; omega
    clear hcd hE
    generalize hF s = F at *
    generalize hL s = L at *
    go_enter Tryd.func42, Tryd.ntmps42
    go_wp2
    go_ret
    exact ⟨rfl, HB.out _⟩
end Go.Proofs.YtmkdoejpgkgpbaaDoor
