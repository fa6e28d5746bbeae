/- THE ROW: Checked proved of every input. -/
import Derived.Test.YtmkdoejpgkgpbaaDoorRows
import Derived.Test.YtmkdoejpgkgpbaaDoorDoF
import Derived.ProofKit
import Derived.LaidMore
import Derived.OpenShut
import Derived.Stop.Joined
import Derived.Lib.LaidTab
import Derived.ChangeMaps5
import Derived.ShutString
set_option linter.unusedVariables false
set_option linter.unusedSimpArgs false
namespace Go.Proofs.YtmkdoejpgkgpbaaDoor
open Go.ChangeShapes Go.WideShapes Go.ChangeAt Go.WideMaps Go.WideElems Go.ChangeMaps Go.RowKit Li

theorem own : ownKnob Tryd.prog.godebug = none := by kernel_rfl
theorem gN : Tryd.prog.globalNamed "slim/check.fields" = some 1 := by kernel_rfl
theorem tN : (Tryd.prog.globals[1]?).map (·.type) = some 84 := by kernel_rfl
theorem uN : Tryd.prog.underlying 84 = some (.array 34 9) := by kernel_rfl
theorem cS : Tryd.prog.cellsOf 9 = 1 := by kernel_rfl
/-- the letters that the variable holds -/
def fldV : List (List UInt8) := (List.range 34).map fld
theorem fldV_at {i : Nat} (h : i < 34) : fldV[i]? = some (fld i) := by simp [fldV, h]
theorem laid_fields : (Rows.laid_slim_check_fields : DataW Unit) = .agg (fldV.map fun l => .lit (.string l)) := rfl
/-- an array of strings -/
theorem cells_of_strs {H : Type} {enc : TypeId × Value → H} {P : Program} {w : World} {base : Nat} {sp : Nat → Bool} {held : Bool} {fuel : Nat} {t e : TypeId} {n : Nat} {cs : List Value} {ls : List (List UInt8)} {p : List MemPlace}
    (ht : P.underlying t = some (.array n e)) (he : P.underlying e = some .string) (hce : P.cellsOf e = 1) (h : DataW.trod enc P w base sp held fuel t cs = some (.agg (ls.map fun l => .lit (.string l)), p)) :
    ∀ i l, i < n → ls[i]? = some l → cs[i]? = some (.string ⟨l.toArray⟩) := by
  intro i l hi hl
  obtain ⟨xs, m, _, hx, _, hxl, hel⟩ := DataW.trod_array ht h
  have hx1 : ls.map (fun l => (DataW.lit (.string l) : DataW H)) = xs.map (·.1) := by
    have := congrArg Prod.fst hx
    simpa using this
  have h1 := hel i hi
  rw [hce, Nat.mul_one, List.getElem?_eq_getElem (by omega)] at h1
  obtain ⟨s, hs1, hs2, _⟩ := DataW.trod_string he h1
  have h2 : cs[i]? = some (.string s) := by
    have := congrArg (·[0]?) hs1
    simpa [List.getElem?_take, List.getElem?_drop] using this
  have h3 : (ls.map (fun l => (DataW.lit (.string l) : DataW H)))[i]? = some (.lit (.string l)) := by simp [hl]
  rw [hx1, List.getElem?_map, List.getElem?_eq_getElem (by omega), hs2] at h3
  simp only [Option.map_some, Option.some.injEq, DataW.lit.injEq, Lit.string.injEq] at h3
  rw [h2, ← h3]
theorem of_laid {W : World} (h : laidMetH Tryd.prog Rows.checkedRow.laid W) : LaidF W.heap.size W := by
  rw [MakeChecks.laidMetH_plain _ _ _ (by kernel_rfl)] at h
  obtain ⟨ps, ⟨g3, t3, cs3, f3, p3, q3, hg3, ht3, hv3, hd3, _, _⟩, _⟩ := h
  obtain rfl := Option.some.inj (gN.symm.trans hg3)
  obtain rfl := Option.some.inj (tN.symm.trans ht3)
  rw [laid_fields] at hd3
  have hc : ∀ i, i < 34 → W.cell? ⟨1, i, none⟩ = some (.string ⟨(fld i).toArray⟩) := fun i hi => by
    have h1 := World.var?_cell hg3 hv3 i
    have h2 := cells_of_strs uN Tryd.underlying9 cS hd3 i (fld i) hi (fldV_at hi)
    rw [h1]
    simpa using h2
  have h0 : 1 < W.heap.size := by
    have := hc 0 (by omega)
    unfold World.cell? at this
    rcases Nat.lt_or_ge 1 W.heap.size with hz | hz
    · exact hz
    · rw [Array.getElem?_eq_none (by omega)] at this; cases this
  intro w' hb i hi
  exact (hb.cell (p := ⟨1, i, none⟩) h0).trans (hc i hi)
theorem door_met (os : Os) (args : Array Value) : laidMetH Tryd.prog Rows.checkedRow.laid ((World.doorLaid Tryd.prog 34 os).forCall (fun _ _ => 0) ⟨#[], args, []⟩).memory :=
  laidMetH_of_parts3 (fuel := 8) (laidMet_of_run' 8 (by kernel_rfl) (by kernel_rfl)) (by kernel_rfl) (by kernel_rfl)
set_option maxRecDepth 100000 in
theorem lifted (os : Os) (started : os.Started) (H : Type) (enc : TypeId × Value → H) :
    ReturnsInHanded {} Tryd.checked os 4 .any (fun w args => (Rows.checkedSpec.pre enc Tryd.prog Tryd.f4 [] false w args ∧ laidMetH Tryd.prog Rows.checkedRow.laid w) ∧ sizedMet enc Tryd.prog Tryd.f4 (OpenSpec.ofChange Rows.checkedSpec) false w args)
      (Rows.checkedSpec.post enc Tryd.prog Tryd.f4 false true false false) := by
  refine returnsInHanded_of_change_and (C := Tryd.checked) (X := fun w _ => laidMetH Tryd.prog Rows.checkedRow.laid w) (fun _ _ _ hh h => h.of_heap hh) own started (by kernel_rfl) Tryd.func4
    (ChangeSpec.witness_shaped (enc := enc) (C := Tryd.checked) (os := os) (X := fun w _ => laidMetH Tryd.prog Rows.checkedRow.laid w) false (World.doorLaid Tryd.prog 34 os) #[.string ⟨#[]⟩] 8 rfl (World.shaped_of_RefB (by kernel_rfl) (by kernel_rfl)) (by kernel_rfl) (by kernel_rfl) (by kernel_rfl) (door_met os _)) ?_
  intro W base args ds gs before hval0 hW _ _ hL _
  have hval : ∀ (j : Nat) t v, Tryd.f4.params[j]? = some t → args[j]? = some v → Value.okWide Tryd.prog W .any base t v := hval0
  have hW' := hW
  obtain ⟨p, q, hA0, hV, rfl, hfz, hnd⟩ := hW
  have hA : DataW.TrodAll enc Tryd.prog W 0 (fun _ => true) true Tryd.f4.params.toList args.toList ds p := hA0
  rw [Tryd.params4] at hA hval
  obtain ⟨v0, d0, rfl, rfl, h0⟩ := trodAll_one hA
  obtain ⟨rfl, rfl⟩ := trodVars_none hV
  obtain ⟨s, rfl, rfl, rfl, ws⟩ := open_string Tryd.underlying9 (hval 0 9 v0 rfl rfl) h0
  have hl := of_laid hL
  clear hA0 hval0
  simp only [List.append_nil] at hW'
  refine (claw_any (fun h => docCk h) ws hl).mono fun e W' ⟨he, hb⟩ => ?_
  subst he
  have e1 : Rows.checkedSpec.fn H ([.lit (.string s.data.toList)] ++ []) = { results := [.lit (.bool true)], args := [.lit (.string s.data.toList)] } := by simp [Rows.checkedSpec]
  refine ⟨_, rfl, _, _, _, [], [], [], hW', ?_, ?_, ?_, hb.frame _, fun h => by cases h⟩
  · rw [e1]; exact trodAll_mk1 (shut_bool Tryd.underlying4 true)
  · rw [e1]; exact trodAll_mk1 (shut_string Tryd.underlying9 ws)
  · rw [e1]; rfl
end Go.Proofs.YtmkdoejpgkgpbaaDoor
