/- THE ROW: Looped proved of every input. -/
import Derived.Test.YtjmifcnfnihhnaaGreatDoorRows
import Derived.Test.YtjmifcnfnihhnaaGreatDoorLsU
import Derived.Test.YtjmifcnfnihhnaaGreatDoorChecked
import Derived.ProofKit
import Derived.LaidMore
import Derived.OpenShut
import Derived.Stop.Joined
import Derived.Lib.LaidTab
import Derived.ChangeMaps5
import Derived.ShutString
set_option linter.unusedVariables false
set_option linter.unusedSimpArgs false
namespace Go.Proofs.YtjmifcnfnihhnaaGreatDoor
open Go.ChangeShapes Go.WideShapes Go.ChangeAt Go.WideMaps Go.WideElems Go.ChangeMaps Go.RowKit Ev

theorem looped_any {x y c : Int} (hx : Sn.I6 x) (hy : Sn.I6 y) (hc : Sn.I6 c) {w : World} (hw : Sm.Lw w) : Calls Tryz.prog 3 #[.int .i64 x, .int .i64 y, .int .i64 c] w fun e w' => e = .returned (.bool true) ∧ Below w.heap.size w w' := by
  have C : Hid (Calls Tryz.prog 4 #[.int .i64 x, .int .i64 y, .int .i64 c] w fun e w' => e = .returned (.bool true) ∧ Below w.heap.size w w') := Lib.hid (Lo.looped_low hx hy hc hw)
  clear hx hy hc hw
  go_enter Tryz.func3, Tryz.ntmps3
  go_wp2_with (first | (go_at_call 4; refine C.out.mono ?_; rintro e w1 ⟨rfl, hb⟩))
  go_ret
  exact ⟨rfl, hb⟩
theorem own : ownKnob Tryz.prog.godebug = none := by kernel_rfl
theorem gN : Tryz.prog.globalNamed "slim/words.texts" = some 1 := by kernel_rfl
theorem tN : (Tryz.prog.globals[1]?).map (·.type) = some 220 := by kernel_rfl
theorem uN : Tryz.prog.underlying 220 = some (.array 35 9) := by kernel_rfl
theorem gF : Tryz.prog.globalNamed "slim/check.fields" = some 0 := by kernel_rfl
theorem tF : (Tryz.prog.globals[0]?).map (·.type) = some 178 := by kernel_rfl
theorem uF : Tryz.prog.underlying 178 = some (.array 34 9) := by kernel_rfl
theorem cS : Tryz.prog.cellsOf 9 = 1 := by kernel_rfl
def txtL : List (List UInt8) := [[], [], [], [108, 101, 116], [114, 101, 99], [105, 110], [105, 102], [116, 104, 101, 110], [101, 108, 115, 101], [102, 117, 110], [110, 111, 116], [116, 114, 117, 101], [102, 97, 108, 115, 101], [114, 101, 97, 100], [112, 114, 105, 110, 116], [108, 101, 110], [97, 114, 114, 97, 121], [112, 117, 116], [46, 40], [60, 62], [60, 61], [62, 61], [45, 62], [40], [41], [44], [59], [61], [60], [62], [43], [45], [42], [47], [37]]
def fldL : List (List UInt8) := [[], [114, 107, 48, 48], [114, 114, 48, 48], [114, 115, 48, 48], [114, 115, 48, 48], [114, 115, 48, 48], [48, 115, 48, 48], [114, 114, 114, 48], [114, 114, 114, 48], [114, 114, 114, 48], [114, 114, 114, 42], [114, 114, 114, 42], [114, 114, 114, 48], [114, 114, 114, 48], [114, 114, 114, 48], [114, 114, 48, 48], [114, 114, 48, 48], [48, 108, 48, 48], [114, 108, 48, 48], [114, 42, 48, 48], [114, 42, 102, 48], [114, 42, 114, 48], [114, 114, 42, 48], [114, 114, 114, 42], [114, 114, 114, 42], [114, 114, 114, 42], [114, 114, 48, 48], [114, 48, 48, 42], [114, 48, 48, 42], [48, 102, 48, 48], [48, 97, 48, 48], [48, 102, 48, 48], [48, 97, 48, 48], [48, 48, 48, 48]]
theorem txtL_texts : Sm.texts = txtL.map fun l => Sc.s (l.map (·.toNat)) := rfl
theorem fldL_flds : Sm.flds = fldL.map fun l => Sc.s (l.map (·.toNat)) := rfl
theorem laid_texts : (Rows.laid_slim_words_texts : DataW Unit) = .agg (txtL.map fun l => .lit (.string l)) := rfl
theorem laid_fields : (Rows.laid_slim_check_fields : DataW Unit) = .agg (fldL.map fun l => .lit (.string l)) := rfl
/-- an array of strings -/
theorem cells_of_strs {H : Type} {enc : TypeId × Value → H} {P : Program} {w : World} {base : Nat} {sp : Nat → Bool} {held : Bool} {fuel : Nat} {t e : TypeId} {n : Nat} {cs : List Value} {ls : List (List UInt8)} {p : List MemPlace}
    (ht : P.underlying t = some (.array n e)) (he : P.underlying e = some .string) (hce : P.cellsOf e = 1) (h : DataW.trod enc P w base sp held fuel t cs = some (.agg (ls.map fun l => .lit (.string l)), p)) :
    ∀ i l, i < n → ls[i]? = some l → cs[i]? = some (.string ⟨l.toArray⟩) := by
  intro i l hi hl
  obtain ⟨xs, m, _, hx, _, hxl, hel⟩ := DataW.trod_array ht h
  have hx1 : ls.map (fun l => (DataW.lit (.string l) : DataW H)) = xs.map (·.1) := by
    have := congrArg Prod.fst hx
    simpa using this
  have h1 := hel i hi
  rw [hce, Nat.mul_one, List.getElem?_eq_getElem (by omega)] at h1
  obtain ⟨s, hs1, hs2, _⟩ := DataW.trod_string he h1
  have h2 : cs[i]? = some (.string s) := by
    have := congrArg (·[0]?) hs1
    simpa [List.getElem?_take, List.getElem?_drop] using this
  have h3 : (ls.map (fun l => (DataW.lit (.string l) : DataW H)))[i]? = some (.lit (.string l)) := by simp [hl]
  rw [hx1, List.getElem?_map, List.getElem?_eq_getElem (by omega), hs2] at h3
  simp only [Option.map_some, Option.some.injEq, DataW.lit.injEq, Lit.string.injEq] at h3
  rw [h2, ← h3]
theorem of_laid {W : World} (h : laidMetH Tryz.prog Rows.loopedRow.laid W) : Sm.Lw W := by
  rw [MakeChecks.laidMetH_plain _ _ _ (by kernel_rfl)] at h
  obtain ⟨ps, ⟨g3, t3, cs3, f3, p3, q3, hg3, ht3, hv3, hd3, ⟨g4, t4, cs4, f4, p4, q4, hg4, ht4, hv4, hd4, _, _⟩, _⟩, _⟩ := h
  obtain rfl := Option.some.inj (gN.symm.trans hg3)
  obtain rfl := Option.some.inj (tN.symm.trans ht3)
  obtain rfl := Option.some.inj (gF.symm.trans hg4)
  obtain rfl := Option.some.inj (tF.symm.trans ht4)
  rw [laid_texts] at hd3
  rw [laid_fields] at hd4
  refine ⟨fun i x hx => ?_, fun i x hx => ?_⟩
  · rw [txtL_texts, List.getElem?_map] at hx
    cases hl : txtL[i]? with
    | none => rw [hl] at hx; cases hx
    | some l =>
      rw [hl] at hx
      cases hx
      have hi : i < 35 := (List.getElem?_eq_some_iff.1 hl).1
      have h1 := World.var?_cell hg3 hv3 i
      have h2 := cells_of_strs uN Tryz.underlying9 cS hd3 i l hi hl
      refine ⟨.string ⟨l.toArray⟩, ?_, fun env ρ => ⟨_, rfl, rfl⟩⟩
      rw [h1]
      simpa using h2
  · rw [fldL_flds, List.getElem?_map] at hx
    cases hl : fldL[i]? with
    | none => rw [hl] at hx; cases hx
    | some l =>
      rw [hl] at hx
      cases hx
      have hi : i < 34 := (List.getElem?_eq_some_iff.1 hl).1
      have h1 := World.var?_cell hg4 hv4 i
      have h2 := cells_of_strs uF Tryz.underlying9 cS hd4 i l hi hl
      refine ⟨.string ⟨l.toArray⟩, ?_, fun env ρ => ⟨_, rfl, rfl⟩⟩
      rw [h1]
      simpa using h2
theorem door_met (os : Os) (args : Array Value) : laidMetH Tryz.prog Rows.loopedRow.laid ((World.doorLaid Tryz.prog 19 os).forCall (fun _ _ => 0) ⟨#[], args, []⟩).memory :=
  laidMetH_of_parts3 (fuel := 8) (laidMet_of_run' 8 (by kernel_rfl) (by kernel_rfl)) (by kernel_rfl) (by kernel_rfl)
theorem wf_i64 {n : Int} (h : (Lit.int .i64 n).wf = true) : -9223372036854775808 ≤ n ∧ n ≤ 9223372036854775807 := by
  simp [Lit.wf, IntKind.min, IntKind.max, IntKind.signed, IntKind.bits] at h
  omega
set_option maxRecDepth 100000 in
theorem lifted (os : Os) (started : os.Started) (H : Type) (enc : TypeId × Value → H) :
    ReturnsInHanded {} Tryz.checked os 3 .any (fun w args => (Rows.loopedSpec.pre enc Tryz.prog Tryz.f3 [] false w args ∧ laidMetH Tryz.prog Rows.loopedRow.laid w) ∧ sizedMet enc Tryz.prog Tryz.f3 (OpenSpec.ofChange Rows.loopedSpec) false w args)
      (Rows.loopedSpec.post enc Tryz.prog Tryz.f3 false true false false) := by
  refine returnsInHanded_of_change_and (C := Tryz.checked) (X := fun w _ => laidMetH Tryz.prog Rows.loopedRow.laid w) (fun _ _ _ hh h => h.of_heap hh) own started (by kernel_rfl) Tryz.func3
    (ChangeSpec.witness_shaped (enc := enc) (C := Tryz.checked) (os := os) (X := fun w _ => laidMetH Tryz.prog Rows.loopedRow.laid w) false (World.doorLaid Tryz.prog 19 os) #[.int .i64 0, .int .i64 0, .int .i64 0] 8 rfl (World.shaped_of_RefB (by kernel_rfl) (by kernel_rfl)) (by kernel_rfl) (by kernel_rfl) (by kernel_rfl) (door_met os _)) ?_
  intro W base args ds gs before hval0 hW _ _ hL _
  have hval : ∀ (j : Nat) t v, Tryz.f3.params[j]? = some t → args[j]? = some v → Value.okWide Tryz.prog W .any base t v := hval0
  have hW' := hW
  obtain ⟨p, q, hA0, hV, rfl, hfz, hnd⟩ := hW
  have hA : DataW.TrodAll enc Tryz.prog W 0 (fun _ => true) true Tryz.f3.params.toList args.toList ds p := hA0
  rw [Tryz.params3] at hA hval
  obtain ⟨v0, v1, v2, d0, d1, d2, p0, p1, p2, rfl, rfl, rfl, h0, h1, h2⟩ := trodAll_three hA
  obtain ⟨rfl, rfl⟩ := trodVars_none hV
  obtain ⟨x, rfl, rfl, rfl, wx⟩ := open_int Tryz.underlying3 (hval 0 3 v0 rfl rfl) h0
  obtain ⟨y, rfl, rfl, rfl, wy⟩ := open_int Tryz.underlying3 (hval 1 3 v1 rfl rfl) h1
  obtain ⟨c, rfl, rfl, rfl, wc⟩ := open_int Tryz.underlying3 (hval 2 3 v2 rfl rfl) h2
  have hl := of_laid hL
  clear hA0 hval0
  simp only [List.append_nil, List.nil_append] at hW'
  refine (looped_any (wf_i64 wx) (wf_i64 wy) (wf_i64 wc) hl).mono fun e W' ⟨he, hb⟩ => ?_
  subst he
  have e1 : Rows.loopedSpec.fn H ([.lit (.int .i64 x), .lit (.int .i64 y), .lit (.int .i64 c)] ++ []) = { results := [.lit (.bool true)], args := [.lit (.int .i64 x), .lit (.int .i64 y), .lit (.int .i64 c)] } := by simp [Rows.loopedSpec]
  refine ⟨_, rfl, _, _, _, [], [], [], hW', ?_, ?_, ?_, hb.frame _, fun h => by cases h⟩
  · rw [e1]; exact trodAll_mk1 (shut_bool Tryz.underlying4 true)
  · rw [e1]; exact trodAll_mk3 (shut_int Tryz.underlying3 wx) (shut_int Tryz.underlying3 wy) (shut_int Tryz.underlying3 wc)
  · rw [e1]; rfl
end Go.Proofs.YtjmifcnfnihhnaaGreatDoor
