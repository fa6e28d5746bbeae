/- THE ROW: Known proved of every input. -/
import Derived.Test.YtgfhddhkillchaaGreatDoorRows
import Derived.Test.YtgfhddhkillchaaGreatDoorEvU
import Derived.Test.YtgfhddhkillchaaGreatDoorEkA
import Derived.Test.YtgfhddhkillchaaGreatDoorEkB
import Derived.Test.YtgfhddhkillchaaGreatDoorEkC
import Derived.Test.YtgfhddhkillchaaGreatDoorEkD
import Derived.Test.YtgfhddhkillchaaGreatDoorEkE
import Derived.Test.YtgfhddhkillchaaGreatDoorEkF
import Derived.Test.YtgfhddhkillchaaGreatDoorEkG
import Derived.Test.YtgfhddhkillchaaGreatDoorEkH
import Derived.Test.YtgfhddhkillchaaGreatDoorEkI
import Derived.Test.YtgfhddhkillchaaGreatDoorEkJ
import Derived.ProofKit
import Derived.LaidMore
import Derived.OpenShut
import Derived.Stop.Joined
import Derived.Lib.LaidTab
import Derived.ChangeMaps5
import Derived.ShutString
set_option linter.unusedVariables false
set_option linter.unusedSimpArgs false
namespace Go.Proofs.YtgfhddhkillchaaGreatDoor
open Go.ChangeShapes Go.WideShapes Go.ChangeAt Go.WideMaps Go.WideElems Go.ChangeMaps Go.RowKit Ev

theorem each_text : ∀ k, k < 50 → isI (fk k) (rI k) = true ∧ isC (fk k) (rC k) = true ∧ isT (rK k) = true
  | 0, _ => ⟨i0, c0, t0⟩
  | 1, _ => ⟨i1, c1, t1⟩
  | 2, _ => ⟨i2, c2, t2⟩
  | 3, _ => ⟨i3, c3, t3⟩
  | 4, _ => ⟨i4, c4, t4⟩
  | 5, _ => ⟨i5, c5, t5⟩
  | 6, _ => ⟨i6, c6, t6⟩
  | 7, _ => ⟨i7, c7, t7⟩
  | 8, _ => ⟨i8, c8, t8⟩
  | 9, _ => ⟨i9, c9, t9⟩
  | 10, _ => ⟨i10, c10, t10⟩
  | 11, _ => ⟨i11, c11, t11⟩
  | 12, _ => ⟨i12, c12, t12⟩
  | 13, _ => ⟨i13, c13, t13⟩
  | 14, _ => ⟨i14, c14, t14⟩
  | 15, _ => ⟨i15, c15, t15⟩
  | 16, _ => ⟨i16, c16, t16⟩
  | 17, _ => ⟨i17, c17, t17⟩
  | 18, _ => ⟨i18, c18, t18⟩
  | 19, _ => ⟨i19, c19, t19⟩
  | 20, _ => ⟨i20, c20, t20⟩
  | 21, _ => ⟨i21, c21, t21⟩
  | 22, _ => ⟨i22, c22, t22⟩
  | 23, _ => ⟨i23, c23, t23⟩
  | 24, _ => ⟨i24, c24, t24⟩
  | 25, _ => ⟨i25, c25, t25⟩
  | 26, _ => ⟨i26, c26, t26⟩
  | 27, _ => ⟨i27, c27, t27⟩
  | 28, _ => ⟨i28, c28, t28⟩
  | 29, _ => ⟨i29, c29, t29⟩
  | 30, _ => ⟨i30, c30, t30⟩
  | 31, _ => ⟨i31, c31, t31⟩
  | 32, _ => ⟨i32, c32, t32⟩
  | 33, _ => ⟨i33, c33, t33⟩
  | 34, _ => ⟨i34, c34, t34⟩
  | 35, _ => ⟨i35, c35, t35⟩
  | 36, _ => ⟨i36, c36, t36⟩
  | 37, _ => ⟨i37, c37, t37⟩
  | 38, _ => ⟨i38, c38, t38⟩
  | 39, _ => ⟨i39, c39, t39⟩
  | 40, _ => ⟨i40, c40, t40⟩
  | 41, _ => ⟨i41, c41, t41⟩
  | 42, _ => ⟨i42, c42, t42⟩
  | 43, _ => ⟨i43, c43, t43⟩
  | 44, _ => ⟨i44, c44, t44⟩
  | 45, _ => ⟨i45, c45, t45⟩
  | 46, _ => ⟨i46, c46, t46⟩
  | 47, _ => ⟨i47, c47, t47⟩
  | 48, _ => ⟨i48, c48, t48⟩
  | 49, _ => ⟨i49, c49, t49⟩
  | n + 50, h => by omega
theorem known_any {c : Int} (hc : -9223372036854775808 ≤ c ∧ c ≤ 9223372036854775807) {w : World} (hw : Lw w) : Calls Tryz.prog 3 #[.int .i64 c] w fun e w' => e = .returned (.bool true) ∧ Below w.heap.size w w' := by
  obtain ⟨k, hk, hp⟩ := pick_is hc
  obtain ⟨h1, h2, h3⟩ := each_text k hk
  exact known_k h1 h2 h3 hp hw
theorem own : ownKnob Tryz.prog.godebug = none := by kernel_rfl
theorem gN : Tryz.prog.globalNamed "slim/words.texts" = some 0 := by kernel_rfl
theorem tN : (Tryz.prog.globals[0]?).map (·.type) = some 185 := by kernel_rfl
theorem uN : Tryz.prog.underlying 185 = some (.array 35 9) := by kernel_rfl
theorem cS : Tryz.prog.cellsOf 9 = 1 := by kernel_rfl
def txtL : List (List UInt8) := [[], [], [], [108, 101, 116], [114, 101, 99], [105, 110], [105, 102], [116, 104, 101, 110], [101, 108, 115, 101], [102, 117, 110], [110, 111, 116], [116, 114, 117, 101], [102, 97, 108, 115, 101], [114, 101, 97, 100], [112, 114, 105, 110, 116], [108, 101, 110], [97, 114, 114, 97, 121], [112, 117, 116], [46, 40], [60, 62], [60, 61], [62, 61], [45, 62], [40], [41], [44], [59], [61], [60], [62], [43], [45], [42], [47], [37]]
theorem txtL_texts : texts = txtL.map fun l => Sc.s (l.map (·.toNat)) := rfl
theorem laid_texts : (Rows.laid_slim_words_texts : DataW Unit) = .agg (txtL.map fun l => .lit (.string l)) := rfl
/-- an array of strings -/
theorem cells_of_strs {H : Type} {enc : TypeId × Value → H} {P : Program} {w : World} {base : Nat} {sp : Nat → Bool} {held : Bool} {fuel : Nat} {t e : TypeId} {n : Nat} {cs : List Value} {ls : List (List UInt8)} {p : List MemPlace}
    (ht : P.underlying t = some (.array n e)) (he : P.underlying e = some .string) (hce : P.cellsOf e = 1) (h : DataW.trod enc P w base sp held fuel t cs = some (.agg (ls.map fun l => .lit (.string l)), p)) :
    ∀ i l, i < n → ls[i]? = some l → cs[i]? = some (.string ⟨l.toArray⟩) := by
  intro i l hi hl
  obtain ⟨xs, m, _, hx, _, hxl, hel⟩ := DataW.trod_array ht h
  have hx1 : ls.map (fun l => (DataW.lit (.string l) : DataW H)) = xs.map (·.1) := by
    have := congrArg Prod.fst hx
    simpa using this
  have h1 := hel i hi
  rw [hce, Nat.mul_one, List.getElem?_eq_getElem (by omega)] at h1
  obtain ⟨s, hs1, hs2, _⟩ := DataW.trod_string he h1
  have h2 : cs[i]? = some (.string s) := by
    have := congrArg (·[0]?) hs1
    simpa [List.getElem?_take, List.getElem?_drop] using this
  have h3 : (ls.map (fun l => (DataW.lit (.string l) : DataW H)))[i]? = some (.lit (.string l)) := by simp [hl]
  rw [hx1, List.getElem?_map, List.getElem?_eq_getElem (by omega), hs2] at h3
  simp only [Option.map_some, Option.some.injEq, DataW.lit.injEq, Lit.string.injEq] at h3
  rw [h2, ← h3]
theorem of_laid {W : World} (h : laidMetH Tryz.prog Rows.knownRow.laid W) : Lw W := by
  rw [MakeChecks.laidMetH_plain _ _ _ (by kernel_rfl)] at h
  obtain ⟨ps, ⟨g3, t3, cs3, f3, p3, q3, hg3, ht3, hv3, hd3, _, _⟩, _⟩ := h
  obtain rfl := Option.some.inj (gN.symm.trans hg3)
  obtain rfl := Option.some.inj (tN.symm.trans ht3)
  rw [laid_texts] at hd3
  intro i x hx
  rw [txtL_texts, List.getElem?_map] at hx
  cases hl : txtL[i]? with
  | none => rw [hl] at hx; cases hx
  | some l =>
    rw [hl] at hx
    cases hx
    have hi : i < 35 := (List.getElem?_eq_some_iff.1 hl).1
    have h1 := World.var?_cell hg3 hv3 i
    have h2 := cells_of_strs uN Tryz.underlying9 cS hd3 i l hi hl
    refine ⟨.string ⟨l.toArray⟩, ?_, fun env ρ => ⟨_, rfl, rfl⟩⟩
    rw [h1]
    simpa using h2
theorem door_met (os : Os) (args : Array Value) : laidMetH Tryz.prog Rows.knownRow.laid ((World.doorLaid Tryz.prog 14 os).forCall (fun _ _ => 0) ⟨#[], args, []⟩).memory :=
  laidMetH_of_parts3 (fuel := 8) (laidMet_of_run' 8 (by kernel_rfl) (by kernel_rfl)) (by kernel_rfl) (by kernel_rfl)
theorem wf_i64 {n : Int} (h : (Lit.int .i64 n).wf = true) : -9223372036854775808 ≤ n ∧ n ≤ 9223372036854775807 := by
  simp [Lit.wf, IntKind.min, IntKind.max, IntKind.signed, IntKind.bits] at h
  omega
set_option maxRecDepth 100000 in
theorem lifted (os : Os) (started : os.Started) (H : Type) (enc : TypeId × Value → H) :
    ReturnsInHanded {} Tryz.checked os 3 .any (fun w args => (Rows.knownSpec.pre enc Tryz.prog Tryz.f3 [] false w args ∧ laidMetH Tryz.prog Rows.knownRow.laid w) ∧ sizedMet enc Tryz.prog Tryz.f3 (OpenSpec.ofChange Rows.knownSpec) false w args)
      (Rows.knownSpec.post enc Tryz.prog Tryz.f3 false true false false) := by
  refine returnsInHanded_of_change_and (C := Tryz.checked) (X := fun w _ => laidMetH Tryz.prog Rows.knownRow.laid w) (fun _ _ _ hh h => h.of_heap hh) own started (by kernel_rfl) Tryz.func3
    (ChangeSpec.witness_shaped (enc := enc) (C := Tryz.checked) (os := os) (X := fun w _ => laidMetH Tryz.prog Rows.knownRow.laid w) false (World.doorLaid Tryz.prog 14 os) #[.int .i64 0] 8 rfl (World.shaped_of_RefB (by kernel_rfl) (by kernel_rfl)) (by kernel_rfl) (by kernel_rfl) (by kernel_rfl) (door_met os _)) ?_
  intro W base args ds gs before hval0 hW _ _ hL _
  have hval : ∀ (j : Nat) t v, Tryz.f3.params[j]? = some t → args[j]? = some v → Value.okWide Tryz.prog W .any base t v := hval0
  have hW' := hW
  obtain ⟨p, q, hA0, hV, rfl, hfz, hnd⟩ := hW
  have hA : DataW.TrodAll enc Tryz.prog W 0 (fun _ => true) true Tryz.f3.params.toList args.toList ds p := hA0
  rw [Tryz.params3] at hA hval
  obtain ⟨v0, d0, rfl, rfl, h0⟩ := trodAll_one hA
  obtain ⟨rfl, rfl⟩ := trodVars_none hV
  obtain ⟨c, rfl, rfl, rfl, wc⟩ := open_int Tryz.underlying3 (hval 0 3 v0 rfl rfl) h0
  have hl := of_laid hL
  clear hA0 hval0
  simp only [List.append_nil] at hW'
  refine (known_any (wf_i64 wc) hl).mono fun e W' ⟨he, hb⟩ => ?_
  subst he
  have e1 : Rows.knownSpec.fn H ([.lit (.int .i64 c)] ++ []) = { results := [.lit (.bool true)], args := [.lit (.int .i64 c)] } := by simp [Rows.knownSpec]
  refine ⟨_, rfl, _, _, _, [], [], [], hW', ?_, ?_, ?_, hb.frame _, fun h => by cases h⟩
  · rw [e1]; exact trodAll_mk1 (shut_bool Tryz.underlying4 true)
  · rw [e1]; exact trodAll_mk1 (shut_int Tryz.underlying3 wc)
  · rw [e1]; rfl
end Go.Proofs.YtgfhddhkillchaaGreatDoor
