/- THE ROW: Listed proved of every input. -/
import Derived.Test.YtmkdoejpgkgpbaaDoorRows
import Derived.Test.YtmkdoejpgkgpbaaDoorLiN
import Derived.ProofKit
import Derived.LaidMore
import Derived.OpenShut
import Derived.Stop.Joined
import Derived.Lib.LaidTab
import Derived.ChangeMaps5
import Derived.ShutString
set_option linter.unusedVariables false
set_option linter.unusedSimpArgs false
namespace Go.Proofs.YtmkdoejpgkgpbaaDoor
open Go.ChangeShapes Go.WideShapes Go.ChangeAt Go.WideMaps Go.WideElems Go.ChangeMaps Go.RowKit Li

theorem own : ownKnob Tryd.prog.godebug = none := by kernel_rfl
theorem gN : Tryd.prog.globalNamed "slim/code.names" = some 0 := by kernel_rfl
theorem tN : (Tryd.prog.globals[0]?).map (·.type) = some 84 := by kernel_rfl
theorem uN : Tryd.prog.underlying 84 = some (.array 34 9) := by kernel_rfl
theorem cS : Tryd.prog.cellsOf 9 = 1 := by kernel_rfl
theorem uP : Tryd.prog.underlying 118 = some (.array 20 102) := by kernel_rfl
theorem uU : Tryd.prog.underlying 102 = some (.int .u64) := by kernel_rfl
theorem cU : Tryd.prog.cellsOf 102 = 1 := by kernel_rfl
theorem cP : Tryd.prog.cellsOf 118 = 20 := by kernel_rfl
/-- the names that the variable holds -/
def nmsV : List (List UInt8) := [] :: nms.drop 1
theorem nmsV_at : ∀ i : Fin 34, nmsV[i.val]? = some (nmV i.val) := by decide
theorem laid_names : (Rows.laid_slim_code_names : DataW Unit) = .agg (nmsV.map fun l => .lit (.string l)) := rfl
theorem laid_pow : (Rows.laid_internal_strconv_uint64pow10 : DataW Unit) = Lib.tabData .u64 Lib.pow10Tab := rfl
/-- an array of strings -/
theorem cells_of_strs {H : Type} {enc : TypeId × Value → H} {P : Program} {w : World} {base : Nat} {sp : Nat → Bool} {held : Bool} {fuel : Nat} {t e : TypeId} {n : Nat} {cs : List Value} {ls : List (List UInt8)} {p : List MemPlace}
    (ht : P.underlying t = some (.array n e)) (he : P.underlying e = some .string) (hce : P.cellsOf e = 1) (h : DataW.trod enc P w base sp held fuel t cs = some (.agg (ls.map fun l => .lit (.string l)), p)) :
    ∀ i l, i < n → ls[i]? = some l → cs[i]? = some (.string ⟨l.toArray⟩) := by
  intro i l hi hl
  obtain ⟨xs, m, _, hx, _, hxl, hel⟩ := DataW.trod_array ht h
  have hx1 : ls.map (fun l => (DataW.lit (.string l) : DataW H)) = xs.map (·.1) := by
    have := congrArg Prod.fst hx
    simpa using this
  have h1 := hel i hi
  rw [hce, Nat.mul_one, List.getElem?_eq_getElem (by omega)] at h1
  obtain ⟨s, hs1, hs2, _⟩ := DataW.trod_string he h1
  have h2 : cs[i]? = some (.string s) := by
    have := congrArg (·[0]?) hs1
    simpa [List.getElem?_take, List.getElem?_drop] using this
  have h3 : (ls.map (fun l => (DataW.lit (.string l) : DataW H)))[i]? = some (.lit (.string l)) := by simp [hl]
  rw [hx1, List.getElem?_map, List.getElem?_eq_getElem (by omega), hs2] at h3
  simp only [Option.map_some, Option.some.injEq, DataW.lit.injEq, Lit.string.injEq] at h3
  rw [h2, ← h3]
theorem of_laid {W : World} (h : laidMetH Tryd.prog Rows.listedRow.laid W) : Laid W.heap.size W := by
  rw [MakeChecks.laidMetH_plain _ _ _ (by kernel_rfl)] at h
  obtain ⟨ps, ⟨g0, t0, cs0, f0, p0, q0, hg0, ht0, hv0, hd0, ⟨g1, t1, cs1, f1, p1, q1, hg1, ht1, hv1, hd1, ⟨g2, t2, cs2, f2, p2, q2, hg2, ht2, hv2, hd2, ⟨g3, t3, cs3, f3, p3, q3, hg3, ht3, hv3, hd3, _, _⟩, _⟩, _⟩, _⟩, _, _⟩ := h
  obtain rfl := Option.some.inj (gN.symm.trans hg3)
  obtain rfl := Option.some.inj (tN.symm.trans ht3)
  have htab : Lib.TabIs Tryd.prog W "internal/strconv.uint64pow10" .u64 Lib.pow10Tab := by
    have e : t2 = 118 := by
      have h1 : ((Tryd.prog.globalNamed "internal/strconv.uint64pow10").bind fun g => (Tryd.prog.globals[g]?).map (·.type)) = some 118 := by kernel_rfl
      rw [hg2] at h1
      exact Option.some.inj (ht2.symm.trans h1)
    subst e
    unfold Lib.TabIs
    rw [laid_pow] at hd2
    rw [hv2, ← Lib.cells_of_tab uP uU cU cP hd2]
  rw [laid_names] at hd3
  have hc : ∀ i, i < 34 → W.cell? ⟨0, i, none⟩ = some (.string ⟨(nmV i).toArray⟩) := fun i hi => by
    have h1 := World.var?_cell hg3 hv3 i
    have h2 := cells_of_strs uN Tryd.underlying9 cS hd3 i (nmV i) hi (nmsV_at ⟨i, hi⟩)
    rw [h1]
    simpa using h2
  have h0 : 0 < W.heap.size := by
    have := hc 0 (by omega)
    unfold World.cell? at this
    rcases Nat.eq_zero_or_pos W.heap.size with hz | hz
    · rw [Array.getElem?_eq_none (by omega)] at this; cases this
    · exact hz
  intro w' hb
  exact ⟨Lib.tabBelow_of_tabIs htab w' hb, fun i hi => (hb.cell (p := ⟨0, i, none⟩) h0).trans (hc i hi)⟩
theorem door_met (os : Os) (args : Array Value) : laidMetH Tryd.prog Rows.listedRow.laid ((World.doorLaid Tryd.prog 34 os).forCall (fun _ _ => 0) ⟨#[], args, []⟩).memory :=
  laidMetH_of_parts3 (fuel := 8) (laidMet_of_run' 8 (by kernel_rfl) (by kernel_rfl)) (by kernel_rfl) (by kernel_rfl)
set_option maxRecDepth 100000 in
theorem lifted (os : Os) (started : os.Started) (H : Type) (enc : TypeId × Value → H) :
    ReturnsInHanded {} Tryd.checked os 3 .any (fun w args => (Rows.listedSpec.pre enc Tryd.prog Tryd.f3 [] false w args ∧ laidMetH Tryd.prog Rows.listedRow.laid w) ∧ sizedMet enc Tryd.prog Tryd.f3 (OpenSpec.ofChange Rows.listedSpec) false w args)
      (Rows.listedSpec.post enc Tryd.prog Tryd.f3 false true false false) := by
  refine returnsInHanded_of_change_and (C := Tryd.checked) (X := fun w _ => laidMetH Tryd.prog Rows.listedRow.laid w) (fun _ _ _ hh h => h.of_heap hh) own started (by kernel_rfl) Tryd.func3
    (ChangeSpec.witness_shaped (enc := enc) (C := Tryd.checked) (os := os) (X := fun w _ => laidMetH Tryd.prog Rows.listedRow.laid w) false (World.doorLaid Tryd.prog 34 os) #[.string ⟨#[]⟩] 8 rfl (World.shaped_of_RefB (by kernel_rfl) (by kernel_rfl)) (by kernel_rfl) (by kernel_rfl) (by kernel_rfl) (door_met os _)) ?_
  intro W base args ds gs before hval0 hW _ _ hL _
  have hval : ∀ (j : Nat) t v, Tryd.f3.params[j]? = some t → args[j]? = some v → Value.okWide Tryd.prog W .any base t v := hval0
  have hW' := hW
  obtain ⟨p, q, hA0, hV, rfl, hfz, hnd⟩ := hW
  have hA : DataW.TrodAll enc Tryd.prog W 0 (fun _ => true) true Tryd.f3.params.toList args.toList ds p := hA0
  rw [Tryd.params3] at hA hval
  obtain ⟨v0, d0, rfl, rfl, h0⟩ := trodAll_one hA
  obtain ⟨rfl, rfl⟩ := trodVars_none hV
  obtain ⟨s, rfl, rfl, rfl, ws⟩ := open_string Tryd.underlying9 (hval 0 9 v0 rfl rfl) h0
  have hl := of_laid hL
  clear hA0 hval0
  simp only [List.append_nil] at hW'
  refine (law_any ws hl).mono fun e W' ⟨he, hb⟩ => ?_
  subst he
  have e1 : Rows.listedSpec.fn H ([.lit (.string s.data.toList)] ++ []) = { results := [.lit (.bool true)], args := [.lit (.string s.data.toList)] } := by simp [Rows.listedSpec]
  refine ⟨_, rfl, _, _, _, [], [], [], hW', ?_, ?_, ?_, hb.frame _, fun h => by cases h⟩
  · rw [e1]; exact trodAll_mk1 (shut_bool Tryd.underlying4 true)
  · rw [e1]; exact trodAll_mk1 (shut_string Tryd.underlying9 ws)
  · rw [e1]; rfl
end Go.Proofs.YtmkdoejpgkgpbaaDoor
