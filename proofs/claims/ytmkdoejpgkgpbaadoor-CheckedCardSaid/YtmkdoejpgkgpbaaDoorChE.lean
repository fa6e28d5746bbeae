/- WALKS: the code's isWell. -/
import Derived.Test.YtmkdoejpgkgpbaaDoorChD
set_option linter.unusedVariables false
set_option linter.unusedSimpArgs false
namespace Go.Proofs.YtmkdoejpgkgpbaaDoor
open Go.RowKit Li

/-- the letters of an operation's fields -/
def fld (op : Nat) : List UInt8 := (rul.getD op []).map fun r => UInt8.ofNat (ltr r)
theorem fld_at : ∀ op : Fin 34, 1 ≤ op.val → ∃ b0 b1 b2 b3, fld op.val = [b0, b1, b2, b3] ∧ b0.toNat = ltr (ruN op.val 0) ∧ b1.toNat = ltr (ruN op.val 1) ∧ b2.toNat = ltr (ruN op.val 2) ∧ b3.toNat = ltr (ruN op.val 3) := by
  intro op h
  have key : ∀ op : Fin 34, 1 ≤ op.val → fld op.val = [UInt8.ofNat (ltr (ruN op.val 0)), UInt8.ofNat (ltr (ruN op.val 1)), UInt8.ofNat (ltr (ruN op.val 2)), UInt8.ofNat (ltr (ruN op.val 3))] := by decide
  have low : ∀ r : Fin 8, (UInt8.ofNat (ltr r.val)).toNat = ltr r.val := by decide
  exact ⟨_, _, _, _, key op h, low ⟨_, ruN_lt _ _⟩, low ⟨_, ruN_lt _ _⟩, low ⟨_, ruN_lt _ _⟩, low ⟨_, ruN_lt _ _⟩⟩
/-- the variable check.fields, whatever is done from block B on -/
def LaidF (B : Nat) (w : World) : Prop := ∀ w', Below B w w' → ∀ i, i < 34 → w'.cell? ⟨1, i, none⟩ = some (.string ⟨(fld i).toArray⟩)
theorem LaidF.on {B : Nat} {w w1 : World} (h : LaidF B w) (hb : Below B w w1) : LaidF B w1 := fun w' h' => h w' (hb.trans h')
theorem LaidF.less {B B' : Nat} {w : World} (h : LaidF B w) (hb : B ≤ B') : LaidF B' w := fun w' h' => h w' (h'.mono hb)
/-- Line on the code's rows -/
theorem line_at {s : ByteArray} {w : World} {B pc : Nat} {aF aN aL : Option Addr} {nF cFc nN cNc nL cLc : Nat} (hcd : CdAt s w B (.slice aF nF cFc) (.slice aN nN cNc) (.slice aL nL cLc)) (hpc : pc < hL s) (W : World) (hW : Below w.heap.size w W) :
    Calls Tryd.prog 49 #[.agg #[.slice aF nF cFc, .slice aN nN cNc, .slice aL nL cLc], .int .i64 pc] W fun e w' => e = .returned (.agg #[.int .i64 (l0 s pc), .int .i64 (l1 s pc), .int .i64 (l2 s pc), .int .i64 (l3 s pc), .int .i64 (l4 s pc)]) ∧ Below W.heap.size W w' := by
  have hLl : hL s < 65536 := n2_lt _ _
  obtain ⟨a3, c3, h3⟩ := or_slice hcd.lines
  injection h3 with q3 hnL q4
  clear q3 q4
  subst hnL
  obtain ⟨g, cap, hsl, hg1, hg2, hg3, hg4⟩ := or_shape hcd.lines (by omega)
  injection hsl with e1 e2 e3
  subst e1 e3
  have hs := hW.size
  have hcell : ∀ o v, o < 5 → (cL s pc)[o]? = some v → W.cell? ⟨g, pc * 5 + o, none⟩ = some v := fun o v ho hv => by
    rw [hW.cell (p := ⟨g, pc * 5 + o, none⟩) hg2, hcd.lines.cellAt (pc * 5 + o) (by omega)]
    exact (rowC_at (f := cL s) (w := 5) (fun _ => rfl) ho (hL s) hpc).trans hv
  exact line_any (by omega) hpc hg3 (by omega) (hcell 0 _ (by omega) rfl) (hcell 1 _ (by omega) rfl) (hcell 2 _ (by omega) rfl) (hcell 3 _ (by omega) rfl) (hcell 4 _ (by omega) rfl)
set_option maxRecDepth 100000 in
set_option maxHeartbeats 3200000 in
theorem isWell_no {s : ByteArray} {w : World} {B pc slots end' : Nat} {aF aN aL : Option Addr} {nF cFc nN cNc nL cLc : Nat} (hcd : CdAt s w B (.slice aF nF cFc) (.slice aN nN cNc) (.slice aL nL cLc)) (hpc : pc < hL s) (hpe : pc < end') (he : end' < 65537) (hl : LaidF w.heap.size w) (hop : l0 s pc = 0 ∨ 34 ≤ l0 s pc) :
    Calls Tryd.prog 43 #[.agg #[.slice aF nF cFc, .slice aN nN cNc, .slice aL nL cLc, .int .i64 slots, .int .i64 pc, .int .i64 end']] w fun e w' => e = .returned (.bool false) ∧ Below w.heap.size w w' := by
  have CL : Hid (∀ o : Obj, Calls Tryd.prog 49 #[.agg #[.slice aF nF cFc, .slice aN nN cNc, .slice aL nL cLc], .int .i64 pc] (w.alloc o) fun e w' => e = .returned (.agg #[.int .i64 (l0 s pc), .int .i64 (l1 s pc), .int .i64 (l2 s pc), .int .i64 (l3 s pc), .int .i64 (l4 s pc)]) ∧ Below (w.alloc o).heap.size (w.alloc o) w') := fun o => line_at hcd hpc _ ((Below.refl _ _).alloc (Nat.le_refl _) _)
  have CG : Hid (∀ W : World, Calls Tryd.prog 50 #[.int .i64 (l0 s pc)] W fun e w' => e = .returned (.bool (!overB (l0 s pc))) ∧ w' = W) := fun W => goesOn_any
  have HLF := Lib.hid hl
  have hLl : hL s < 65536 := n2_lt _ _
  clear hcd hl
  rcases hop with h0 | h34
  · have hov : (!overB (l0 s pc)) = true := by rw [h0]; rfl
    rw [h0] at CL CG
    rw [h0] at hov
    generalize (l1 s pc : Int) = q1 at *
    generalize (l2 s pc : Int) = q2 at *
    generalize (l3 s pc : Int) = q3 at *
    generalize (l4 s pc : Int) = q4 at *
    have CG' : Hid (∀ (z : Int) (W : World), z = 0 → Calls Tryd.prog 50 #[.int .i64 z] W fun e w' => e = .returned (.bool true) ∧ w' = W) := fun z W hz => by
      rw [hz]; have := CG.out W; rw [hov] at this; exact this
    clear CG hov h0
    by_cases hlast : pc + 1 = end'
    · have g1 : ((pc : Int) == (end' : Int) - 1) = true := by simp; omega
      go_enter Tryd.func43, Tryd.ntmps43
      go_wp2_with (first
        | (go_at_call 49; refine (CL.out _).mono ?_; rintro _ w1 ⟨rfl, hb1⟩; have hs1 := Nat.le_trans (by rw [World.size_alloc]; omega : w.heap.size + 1 ≤ (w.alloc _).heap.size) hb1.size; have hbox := lb_below (lb_new w _) hb1 (by rw [World.size_alloc]; omega); have k2 : ∀ o : Obj, (w1.alloc o).cell? ⟨w.heap.size, 4, none⟩ = some (.int .i64 pc) := lb_past hbox 4 rfl; have k3 : ∀ o : Obj, (w1.alloc o).cell? ⟨w.heap.size, 5, none⟩ = some (.int .i64 end') := lb_past hbox 5 rfl; have HB1 : Hid (∀ o : Obj, Below w.heap.size w (w1.alloc o)) := (fun o => (((Below.refl _ _).alloc (Nat.le_refl _) _).trans (hb1.mono (by rw [World.size_alloc]; omega))).alloc (by omega) _))
        | (go_at_call 50; refine (CG'.out _ _ (by omega)).mono ?_; rintro _ w3 ⟨rfl, hw3⟩; have hw4 := hw3.symm; subst hw4))
      go_ret
      exact ⟨rfl, HB1.out _⟩
    · have g1 : ((pc : Int) == (end' : Int) - 1) = false := by simp; omega
      have he0 : fld 0 = [] := rfl
      go_enter Tryd.func43, Tryd.ntmps43
      go_wp2_with (first
        | (go_at_call 49; refine (CL.out _).mono ?_; rintro _ w1 ⟨rfl, hb1⟩; have hs1 := Nat.le_trans (by rw [World.size_alloc]; omega : w.heap.size + 1 ≤ (w.alloc _).heap.size) hb1.size; have hbox := lb_below (lb_new w _) hb1 (by rw [World.size_alloc]; omega); have k2 : ∀ o : Obj, (w1.alloc o).cell? ⟨w.heap.size, 4, none⟩ = some (.int .i64 pc) := lb_past hbox 4 rfl; have k3 : ∀ o : Obj, (w1.alloc o).cell? ⟨w.heap.size, 5, none⟩ = some (.int .i64 end') := lb_past hbox 5 rfl; have HB1 : Hid (∀ o : Obj, Below w.heap.size w (w1.alloc o)) := (fun o => (((Below.refl _ _).alloc (Nat.le_refl _) _).trans (hb1.mono (by rw [World.size_alloc]; omega))).alloc (by omega) _); have kf : ∀ o : Obj, (w1.alloc o).cell? ⟨1, 0, none⟩ = some (.string ⟨#[]⟩) := (fun o => HLF.out _ (HB1.out o) 0 (by omega)))
        | (go_at_call 50; refine (CG'.out _ _ (by omega)).mono ?_; rintro _ w3 ⟨rfl, hw3⟩; have hw4 := hw3.symm; subst hw4))
      go_region
      all_goals
        rename_i K2 hK2
        refine hK2 _ _ ?_
        clear hK2
        go_wp2_with fail
        go_ret
        exact ⟨rfl, (HB1.out _).drew⟩
  · have g2 : decide ((34 : Int) ≤ (l0 s pc : Int)) = true := by simp; omega
    have g3 : decide ((l0 s pc : Int) < 0) = false := by simp
    clear CG
    generalize (l0 s pc : Int) = q0 at *
    generalize (l1 s pc : Int) = q1 at *
    generalize (l2 s pc : Int) = q2 at *
    generalize (l3 s pc : Int) = q3 at *
    generalize (l4 s pc : Int) = q4 at *
    go_enter Tryd.func43, Tryd.ntmps43
    go_wp2_with (go_at_call 49; refine (CL.out _).mono ?_; rintro _ w1 ⟨rfl, hb1⟩; have hs1 := Nat.le_trans (by rw [World.size_alloc]; omega : w.heap.size + 1 ≤ (w.alloc _).heap.size) hb1.size; have hbox := lb_below (lb_new w _) hb1 (by rw [World.size_alloc]; omega); have k2 : ∀ o : Obj, (w1.alloc o).cell? ⟨w.heap.size, 4, none⟩ = some (.int .i64 pc) := lb_past hbox 4 rfl; have k3 : ∀ o : Obj, (w1.alloc o).cell? ⟨w.heap.size, 5, none⟩ = some (.int .i64 end') := lb_past hbox 5 rfl; have HB1 : Hid (∀ o : Obj, Below w.heap.size w (w1.alloc o)) := (fun o => (((Below.refl _ _).alloc (Nat.le_refl _) _).trans (hb1.mono (by rw [World.size_alloc]; omega))).alloc (by omega) _))
    all_goals
      go_ret
      exact ⟨rfl, HB1.out _⟩
end Go.Proofs.YtmkdoejpgkgpbaaDoor
