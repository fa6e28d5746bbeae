/- WALKS: the code's isWell, whole; lines. -/
import Derived.Test.YtmkdoejpgkgpbaaDoorChG
set_option linter.unusedVariables false
set_option linter.unusedSimpArgs false
namespace Go.Proofs.YtmkdoejpgkgpbaaDoor
open Go.RowKit Li

set_option maxRecDepth 100000 in
set_option maxHeartbeats 1600000 in
theorem isWell_last {w : World} {slots pc end' F N L cF' cN' cL' : Nat} {aF aN aL : Option Addr} {op : Nat} {q1 q2 q3 q4 : Int} (hop : op < 34) (hpe : pc + 1 = end') (he : end' < 65537) (hov : overB op = false)
    (CL : Hid (∀ o : Obj, Calls Tryd.prog 49 #[.agg #[.slice aF F cF', .slice aN N cN', .slice aL L cL'], .int .i64 pc] (w.alloc o) fun e w' => e = .returned (.agg #[.int .i64 op, .int .i64 q1, .int .i64 q2, .int .i64 q3, .int .i64 q4]) ∧ Below (w.alloc o).heap.size (w.alloc o) w')) :
    Calls Tryd.prog 43 #[.agg #[.slice aF F cF', .slice aN N cN', .slice aL L cL', .int .i64 slots, .int .i64 pc, .int .i64 end']] w fun e w' => e = .returned (.bool false) ∧ Below w.heap.size w w' := by
  have CG : Hid (∀ W : World, Calls Tryd.prog 50 #[.int .i64 op] W fun e w' => e = .returned (.bool true) ∧ w' = W) := fun W => by have := goesOn_any (op := op) (w := W); rw [hov] at this; exact this
  have g2 : decide ((34 : Int) ≤ (op : Int)) = false := by simp; omega
  have g3 : decide ((op : Int) < 0) = false := by simp
  have g1 : ((pc : Int) == (end' : Int) - 1) = true := by simp; omega
  clear hov hpe
  go_enter Tryd.func43, Tryd.ntmps43
  go_wp2_with (first
    | (go_at_call 49; refine (CL.out _).mono ?_; rintro _ w1 ⟨rfl, hb1⟩; have hs1 := Nat.le_trans (by rw [World.size_alloc]; omega : w.heap.size + 1 ≤ (w.alloc _).heap.size) hb1.size; have hbox := lb_below (lb_new w _) hb1 (by rw [World.size_alloc]; omega); have k2 : ∀ o : Obj, (w1.alloc o).cell? ⟨w.heap.size, 4, none⟩ = some (.int .i64 pc) := lb_past hbox 4 rfl; have k3 : ∀ o : Obj, (w1.alloc o).cell? ⟨w.heap.size, 5, none⟩ = some (.int .i64 end') := lb_past hbox 5 rfl; have HB1 : Hid (∀ o : Obj, Below w.heap.size w (w1.alloc o)) := (fun o => (((Below.refl _ _).alloc (Nat.le_refl _) _).trans (hb1.mono (by rw [World.size_alloc]; omega))).alloc (by omega) _))
    | (go_at_call 50; refine (CG.out _).mono ?_; rintro _ w3 ⟨rfl, hw3⟩; have hw4 := hw3.symm; subst hw4))
  go_ret
  exact ⟨rfl, HB1.out _⟩
/-- isWell = wlL -/
theorem isWell_any {s : ByteArray} {w : World} {B k pc : Nat} {aF aN aL : Option Addr} {nF cFc nN cNc nL cLc : Nat} {R : Bool} (hcd : CdAt s w B (.slice aF nF cFc) (.slice aN nN cNc) (.slice aL nL cLc)) (hpc : pc < hL s) (hpe : pc < en s k) (he : en s k < 65537) (hl : LaidF w.heap.size w) (hR : wlL s k pc = R) :
    Calls Tryd.prog 43 #[.agg #[.slice aF nF cFc, .slice aN nN cNc, .slice aL nL cLc, .int .i64 (r3 s k), .int .i64 pc, .int .i64 (en s k)]] w fun e w' => e = .returned (.bool R) ∧ Below w.heap.size w w' := by
  by_cases h1 : l0 s pc = 0 ∨ 34 ≤ l0 s pc
  · have hf : R = false := by
      rw [← hR]
      unfold wlL wlB
      rcases h1 with h1 | h1
      · rw [h1]; rfl
      · rw [decide_eq_false (show ¬ l0 s pc < 34 by omega)]; simp
    rw [hf]
    exact isWell_no hcd hpc hpe he hl h1
  · have h2 : 1 ≤ l0 s pc := by omega
    have h3 : l0 s pc < 34 := by omega
    obtain ⟨a1, c1, e1⟩ := or_slice hcd.funs
    obtain ⟨a2, c2, e2⟩ := or_slice hcd.nums
    injection e1 with q1 hnF q2
    injection e2 with q3 hnN q4
    have CL : Hid (∀ o : Obj, Calls Tryd.prog 49 #[.agg #[.slice aF nF cFc, .slice aN nN cNc, .slice aL nL cLc], .int .i64 pc] (w.alloc o) fun e w' => e = .returned (.agg #[.int .i64 (l0 s pc), .int .i64 (l1 s pc), .int .i64 (l2 s pc), .int .i64 (l3 s pc), .int .i64 (l4 s pc)]) ∧ Below (w.alloc o).heap.size (w.alloc o) w') := fun o => line_at hcd hpc _ ((Below.refl _ _).alloc (Nat.le_refl _) _)
    obtain ⟨b0, b1, b2, b3, hfl, t0, t1, t2, t3⟩ := fld_at ⟨l0 s pc, h3⟩ h2
    have HLF : Hid (∀ w', Below w.heap.size w w' → w'.cell? ⟨1, l0 s pc, none⟩ = some (.string ⟨#[b0, b1, b2, b3]⟩)) := fun w' h' => by
      have := hl w' h' (l0 s pc) h3
      rw [show fld (l0 s pc) = [b0, b1, b2, b3] from hfl] at this
      exact this
    subst hnF hnN
    by_cases hlast : pc + 1 = en s k ∧ overB (l0 s pc) = false
    · have hf : R = false := by
        rw [← hR]
        unfold wlL wlB
        rw [hlast.2, decide_eq_false (show ¬ pc + 1 < en s k by omega)]; simp
      rw [hf]
      exact isWell_last h3 hlast.1 he hlast.2 CL
    · have hnl : pc + 1 = en s k → overB (l0 s pc) = true := fun h => by
        cases ho : overB (l0 s pc) with
        | true => rfl
        | false => exact absurd ⟨h, ho⟩ hlast
      have hRR : R = (fitB (hF s) (hN s) (l1 s pc) (ruN (l0 s pc) 0) pc (r3 s k) (en s k) && (fitB (hF s) (hN s) (l2 s pc) (ruN (l0 s pc) 1) pc (r3 s k) (en s k) && (fitB (hF s) (hN s) (l3 s pc) (ruN (l0 s pc) 2) pc (r3 s k) (en s k) && fitB (hF s) (hN s) (l4 s pc) (ruN (l0 s pc) 3) pc (r3 s k) (en s k)))) := by
        rw [← hR]
        unfold wlL wlB
        have hor : (overB (l0 s pc) || decide (pc + 1 < en s k)) = true := by
          by_cases h : pc + 1 = en s k
          · rw [hnl h]; rfl
          · rw [decide_eq_true (show pc + 1 < en s k by omega)]; simp
        rw [decide_eq_true h2, decide_eq_true h3, hor]
        simp [fit4, lv, Bool.and_assoc]
      rw [hRR]
      exact isWell_fit (S := ⟨#[b0, b1, b2, b3]⟩) rfl rfl rfl rfl rfl (by exact congrArg Int.ofNat t0) (by exact congrArg Int.ofNat t1) (by exact congrArg Int.ofNat t2) (by exact congrArg Int.ofNat t3) (ruN_lt _ _) (ruN_lt _ _) (ruN_lt _ _) (ruN_lt _ _) h3 hpe he CL hnl HLF rfl rfl rfl rfl
end Go.Proofs.YtmkdoejpgkgpbaaDoor
