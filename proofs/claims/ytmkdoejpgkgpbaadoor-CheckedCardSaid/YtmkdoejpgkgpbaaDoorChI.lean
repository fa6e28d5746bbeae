/- WALKS: the code's lines. -/
import Derived.Test.YtmkdoejpgkgpbaaDoorChH
import Derived.Test.YtmkdoejpgkgpbaaDoorQb
import Derived.Deep.LoopGhost
set_option linter.unusedVariables false
set_option linter.unusedSimpArgs false
namespace Go.Proofs.YtmkdoejpgkgpbaaDoor
open Go.RowKit Li

theorem CdAt.on {s : ByteArray} {w w' : World} {B : Nat} {vF vN vL : Value} (h : CdAt s w B vF vN vL) (hb : Below w.heap.size w w') : CdAt s w' B vF vN vL := ⟨own_below h.funs hb, own_below h.nums hb, own_below h.lines hb⟩
theorem fn_at {s : ByteArray} {w : World} {B k : Nat} {aF aN aL : Option Addr} {nF cFc nN cNc nL cLc : Nat} (hcd : CdAt s w B (.slice aF nF cFc) (.slice aN nN cNc) (.slice aL nL cLc)) (hk : k < hF s) (W : World) (hW : Below w.heap.size w W) :
    Calls Tryd.prog 41 #[.agg #[.slice aF nF cFc, .slice aN nN cNc, .slice aL nL cLc], .int .i64 k] W fun e w' => e = .returned (.agg #[.int .i64 (r0 s k), .int .i64 (r1 s k), .int .i64 (r2 s k), .int .i64 (r3 s k)]) ∧ Below W.heap.size W w' := by
  have hFl : hF s < 65536 := n2_lt _ _
  obtain ⟨a3, c3, h3⟩ := or_slice hcd.funs
  injection h3 with q3 hnL q4
  clear q3 q4
  subst hnL
  obtain ⟨g, cap, hsl, hg1, hg2, hg3, hg4⟩ := or_shape hcd.funs (by omega)
  injection hsl with e1 e2 e3
  subst e1 e3
  have hs := hW.size
  have hcell : ∀ o v, o < 4 → (cF s k)[o]? = some v → W.cell? ⟨g, k * 4 + o, none⟩ = some v := fun o v ho hv => by
    rw [hW.cell (p := ⟨g, k * 4 + o, none⟩) hg2, hcd.funs.cellAt (k * 4 + o) (by omega)]
    exact (rowC_at (cF_len s) ho (hF s) hk).trans hv
  exact function_any (by omega) hk hg3 (by omega) (hcell 0 _ (by omega) rfl) (hcell 1 _ (by omega) rfl) (hcell 2 _ (by omega) rfl) (hcell 3 _ (by omega) rfl)
theorem Tryd.infoSpot : (Tryd.prog.info? 87).map (·.size) = some 6 := by kernel_rfl
theorem fld_fn3 (a b c d : Int) (w : World) : Sem.run Tryd.prog (Instr.field 67 (.agg #[.int .i64 a, .int .i64 b, .int .i64 c, .int .i64 d]) 3) w = .ok (.int .i64 d) w := by kernel_rfl
set_option maxRecDepth 100000 in
set_option maxHeartbeats 1600000 in
theorem clines_any {s : ByteArray} {w : World} {B : Nat} {aF aN aL : Option Addr} {nF cFc nN cNc nL cLc : Nat} {R : Option Nat} (hcd : CdAt s w B (.slice aF nF cFc) (.slice aN nN cNc) (.slice aL nL cLc)) (hrow : bad (rowB s) (hF s) 0 = none) (hl : LaidF w.heap.size w) (hR : scan (opK s) (hF s) 0 = R) :
    Calls Tryd.prog 30 #[.agg #[.slice aF nF cFc, .slice aN nN cNc, .slice aL nL cLc]] w fun e w' => e = .returned (.tuple #[.int .i64 (if R = none then 0 else 11 : Nat), .int .i64 (R.getD 0 : Nat)]) ∧ Below w.heap.size w w' := by
  have hFl : hF s < 65536 := n2_lt _ _
  have hLl : hL s < 65536 := n2_lt _ _
  have hnF : nF = hF s := by
    obtain ⟨a3, c3, h3⟩ := or_slice hcd.funs
    injection h3
  obtain ⟨er, her⟩ : ∃ er : Nat, (if R = none then 0 else 11) = er := ⟨_, rfl⟩
  obtain ⟨at', hat'⟩ : ∃ a : Nat, R.getD 0 = a := ⟨_, rfl⟩
  rw [her, hat']
  have HER := Lib.hid her
  have HAT := Lib.hid hat'
  clear her hat'
  have HR := Lib.hid hR
  have HCD := Lib.hid hcd
  have HRW := Lib.hid hrow
  have HLF := Lib.hid hl
  clear hR hcd hrow hl
  have HB0 : Hid (∀ o : Obj, Below w.heap.size w (w.alloc o)) := fun o => (Below.refl _ _).alloc (Nat.le_refl _) _
  subst hnF
  go_enter Tryd.func30, Tryd.ntmps30
  go_wp2
  go_loopg [4] (hF s) (fun gh i (wr : World) => ∃ k : Nat, k ≤ hF s ∧ gh = hF s - k ∧ i = .int .i64 k ∧ scan (opK s) (hF s - k) k = R ∧ wr.heap[w.heap.size]? = some (.cells #[.slice aF (hF s) cFc, .slice aN nN cNc, .slice aL nL cLc] 38 (0, 0)) ∧ Below w.heap.size w wr)
  case atStart => exact ⟨0, by omega, by omega, rfl, HR.out, lb_new w _, HB0.out _⟩
  case round =>
    obtain ⟨k, hk, hgk, rfl, hsc, hbox, hbw⟩ := hrel
    have c0 := lb_at hbox 0 rfl
    simp only [List.getElem_toArray, List.getElem_cons_zero, List.getElem_cons_succ] at c0
    have hlt0 := lt_of_block hbox
    by_cases hlt : k < hF s
    · have HSC := Lib.hid hsc
      have HBX := Lib.hid hbox
      have HBW := Lib.hid hbw
      have u0 : ∀ x : Wd wr.heap.size wr, x.v.cell? ⟨w.heap.size, 0, none⟩ = some (.slice aF (hF s) cFc) := fun x => Wd.at hbox hlt0 0 rfl x
      have u1 : ∀ x : Wd wr.heap.size wr, x.v.cell? ⟨w.heap.size, 1, none⟩ = some (.slice aN nN cNc) := fun x => Wd.at hbox hlt0 1 rfl x
      have u2 : ∀ x : Wd wr.heap.size wr, x.v.cell? ⟨w.heap.size, 2, none⟩ = some (.slice aL nL cLc) := fun x => Wd.at hbox hlt0 2 rfl x
      have hBX : ∀ x : Wd wr.heap.size wr, Below w.heap.size w x.v := fun x => hbw.trans (x.h.mono hbw.size)
      have CF : Hid (∀ x : Wd wr.heap.size wr, Calls Tryd.prog 41 #[.agg #[.slice aF (hF s) cFc, .slice aN nN cNc, .slice aL nL cLc], .int .i64 k] x.v fun e w' => e = .returned (.agg #[.int .i64 (r0 s k), .int .i64 (r1 s k), .int .i64 (r2 s k), .int .i64 (r3 s k)]) ∧ Below x.v.heap.size x.v w') := fun x => fn_at HCD.out hlt x.v (hBX x)
      have CE : Hid (∀ x : Wd wr.heap.size wr, Calls Tryd.prog 42 #[.agg #[.slice aF (hF s) cFc, .slice aN nN cNc, .slice aL nL cLc], .int .i64 k] x.v fun e w' => e = .returned (.int .i64 (en s k)) ∧ Below x.v.heap.size x.v w') := fun x => end_any (HCD.out.on (hBX x)) hlt
      clear hsc hbox hbw hBX
      have ffn := fld_fn3
      go_upto_region 4 with fail
      refine wp_region_made 10 9 5 (.cells #[.slice none 0 0, .slice none 0 0, .slice none 0 0, .int .i64 0, .int .i64 0, .int .i64 0] 87 (0, 0)) _ (by kernel_rfl) (by kernel_rfl) (by kernel_rfl) (by decide) rfl rfl rfl ?_
      simp only [List.take_succ_cons, List.take_zero, List.drop_succ_cons, List.drop_zero]
      refine wpB_step (by decide) (by rfl) (v := ?v0) ?hv0 ?_
      case hv0 => (intro x; go_simp; all_goals with_reducible rfl)
      simp only [Act.put, List.setIfInBounds_toArray, List.set_cons_zero, List.set_cons_succ]
      refine wpB_step (by decide) (by rfl) (v := ?v1) ?hv1 ?_
      case hv1 => (intro x; go_simp; all_goals with_reducible rfl)
      simp only [Act.put, List.setIfInBounds_toArray, List.set_cons_zero, List.set_cons_succ]
      refine wpB_step (by decide) (by rfl) (v := ?v2) ?hv2 ?_
      case hv2 => (intro x; go_simp; all_goals with_reducible rfl)
      simp only [Act.put, List.setIfInBounds_toArray, List.set_cons_zero, List.set_cons_succ]
      refine wpB_step (by decide) (by rfl) (v := ?v3) ?hv3 ?_
      case hv3 => (intro x; go_simp; exact CF.out x)
      simp only [Act.put, List.setIfInBounds_toArray, List.set_cons_zero, List.set_cons_succ]
      refine wpB_step (by decide) (by rfl) (v := ?v4) ?hv4 ?_
      case hv4 => (intro x; go_simp; all_goals with_reducible rfl)
      simp only [Act.put, List.setIfInBounds_toArray, List.set_cons_zero, List.set_cons_succ]
      refine wpB_step (by decide) (by rfl) (v := ?v5) ?hv5 ?_
      case hv5 => (intro x; go_simp; all_goals with_reducible rfl)
      simp only [Act.put, List.setIfInBounds_toArray, List.set_cons_zero, List.set_cons_succ]
      refine wpB_step (by decide) (by rfl) (v := ?v6) ?hv6 ?_
      case hv6 => (intro x; go_simp; all_goals with_reducible rfl)
      simp only [Act.put, List.setIfInBounds_toArray, List.set_cons_zero, List.set_cons_succ]
      refine wpB_step (by decide) (by rfl) (v := ?v7) ?hv7 ?_
      case hv7 => (intro x; go_simp; exact CE.out x)
      simp only [Act.put, List.setIfInBounds_toArray, List.set_cons_zero, List.set_cons_succ]
      refine wpB_step (by decide) (by rfl) (v := ?v8) ?hv8 ?_
      case hv8 => (intro x; go_simp; all_goals with_reducible rfl)
      simp only [Act.put, List.setIfInBounds_toArray, List.set_cons_zero, List.set_cons_succ]
      refine wpB_skip (by decide) (fun w => by kernel_rfl) ?_
      refine wpB_nil ?_
      intro b x hb hbk
      refine wpList_store_all hbk rfl 87 (.tmp 5) (.tmp 21) rfl #[.slice aF (hF s) cFc, .slice aN nN cNc, .slice aL nL cLc, .int .i64 (r3 s k), .int .i64 0, .int .i64 (en s k)] rfl rfl rfl Tryd.infoSpot (all_oneCell_toArray (by intro u hu; simp at hu; rcases hu with rfl | rfl | rfl | rfl | rfl | rfl <;> rfl)) ?_
      intro w2 hbk2 hlo
      have hbw2 : Below wr.heap.size wr w2 := x.h.trans (hlo.below.mono hb)
      have hbx2 := lb_below HBX.out hbw2 hlt0
      have hb02 : Below w.heap.size w w2 := HBW.out.trans (hbw2.mono HBW.out.size)
      have hltb := lt_of_block hbk2
      have d0 := lb_at hbx2 0 rfl
      have d1 := lb_at hbx2 1 rfl
      have d2 := lb_at hbx2 2 rfl
      simp only [List.getElem_toArray, List.getElem_cons_zero, List.getElem_cons_succ] at d0 d1 d2
      have CF2 : Hid (Calls Tryd.prog 41 #[.agg #[.slice aF (hF s) cFc, .slice aN nN cNc, .slice aL nL cLc], .int .i64 k] w2 fun e w' => e = .returned (.agg #[.int .i64 (r0 s k), .int .i64 (r1 s k), .int .i64 (r2 s k), .int .i64 (r3 s k)]) ∧ Below w2.heap.size w2 w') := fn_at HCD.out hlt w2 hb02
      obtain ⟨hrk1, hrk2⟩ := en_lt HRW.out hlt
      have HBK2 := Lib.hid hbk2
      have HB02 := Lib.hid hb02
      have HBX2 := Lib.hid hbx2
      have ff0 := fld_fn0
      clear CF CE u0 u1 u2 hbk2 hb02 hbx2 hlo hbk ffn
      go_wp2_with (go_at_call 41; refine CF2.out.mono ?_; rintro _ w3 ⟨rfl, hb3⟩; have HK3 := Lib.hid (lb_below HBK2.out hb3 hltb); have HX3 := Lib.hid (lb_below HBX2.out hb3 (by have := hbw2.size; omega)); have k4 := lb_at HK3.out 4 rfl; have f4 := lb_f HK3.out 4; have HB3 := Lib.hid (HB02.out.trans (hb3.mono HB02.out.size)))
      go_loopg [] (en s k - r0 s k) (fun gh (wi : World) => ∃ j : Nat, r0 s k ≤ j ∧ j ≤ en s k ∧ gh = en s k - j ∧ bad (wlL s k) (en s k - j) j = opK s k ∧ wi.heap[b]? = some (.cells #[.slice aF (hF s) cFc, .slice aN nN cNc, .slice aL nL cLc, .int .i64 (r3 s k), .int .i64 j, .int .i64 (en s k)] 87 (0, 0)) ∧ wi.heap[w.heap.size]? = some (.cells #[.slice aF (hF s) cFc, .slice aN nN cNc, .slice aL nL cLc] 38 (0, 0)) ∧ Below w.heap.size w wi)
      case atStart =>
        have hs3 := HBW.out.size
        exact ⟨r0 s k, Nat.le_refl _, Nat.le_of_lt hrk1, rfl, rfl, lb_set HK3.out 4 _, (Below.heap_setCell _ _ _ _ (show w.heap.size ≠ b by omega)).trans HX3.out, HB3.out.setCell (p := ⟨b, 4, none⟩) (show w.heap.size ≤ b by omega) _⟩
      case round =>
        obtain ⟨j, hj1, hj2, hgj, hbj, hkj, hxj, hwj⟩ := hrel
        have hsj := HBW.out.size
        have hltj := lt_of_block hkj
        have e0 := lb_at hkj 0 rfl
        have e1 := lb_at hkj 1 rfl
        have e2 := lb_at hkj 2 rfl
        have e3 := lb_at hkj 3 rfl
        have e4 := lb_at hkj 4 rfl
        have e5 := lb_at hkj 5 rfl
        simp only [List.getElem_toArray, List.getElem_cons_zero, List.getElem_cons_succ] at e0 e1 e2 e3 e4 e5
        have HKJ := Lib.hid hkj
        have HXJ := Lib.hid hxj
        have HWJ := Lib.hid hwj
        have HBJ := Lib.hid hbj
        by_cases hje : j < en s k
        · obtain ⟨Rj, hRj⟩ : ∃ Rj, wlL s k j = Rj := ⟨_, rfl⟩
          have CW : Hid (Calls Tryd.prog 43 #[.agg #[.slice aF (hF s) cFc, .slice aN nN cNc, .slice aL nL cLc, .int .i64 (r3 s k), .int .i64 j, .int .i64 (en s k)]] wr fun e w' => e = .returned (.bool Rj) ∧ Below wr.heap.size wr w') := isWell_any (HCD.out.on hwj) (by omega) hje (by omega) ((HLF.out.on hwj).less hwj.size) hRj
          cases Rj with
          | true =>
            have HNX : Hid (bad (wlL s k) (en s k - (j + 1)) (j + 1) = opK s k) := by
              have h := HBJ.out
              rw [show en s k - j = (en s k - (j + 1)) + 1 by omega, bad, if_pos hRj] at h
              exact h
            clear hRj hbj hkj hxj hwj
            go_wp2_with (go_at_call 43; refine CW.out.mono ?_; rintro _ w4 ⟨rfl, hb4⟩; have HK4 := Lib.hid (lb_below HKJ.out hb4 hltj); have k4' := lb_at HK4.out 4 rfl; have f4' := lb_f HK4.out 4; simp only [List.getElem_toArray, List.getElem_cons_zero, List.getElem_cons_succ] at k4')
            go_roundg (en s k - (j + 1))
            case measure => omega
            case rel =>
              refine ⟨j + 1, by omega, by omega, rfl, HNX.out, ?_, (Below.heap_setCell _ _ _ _ (show w.heap.size ≠ b by omega)).trans (lb_below HXJ.out hb4 (by omega)), (HWJ.out.trans (hb4.mono HWJ.out.size)).setCell (p := ⟨b, 4, none⟩) (show w.heap.size ≤ b by omega) _⟩
              exact lb_set HK4.out 4 _
          | false =>
            have HNO : Hid (opK s k = some j) := by
              have h := HBJ.out
              rw [show en s k - j = (en s k - (j + 1)) + 1 by omega, bad, if_neg (by rw [hRj]; decide)] at h
              exact h.symm
            have HRE : Hid (R = some j) := by
              have h := HSC.out
              rw [show hF s - k = (hF s - (k + 1)) + 1 by omega, scan, HNO.out] at h
              exact h.symm
            clear hRj hbj hkj hxj hwj
            go_wp2_with (go_at_call 43; refine CW.out.mono ?_; rintro _ w4 ⟨rfl, hb4⟩; have HK4 := Lib.hid (lb_below HKJ.out hb4 hltj); have k4' := lb_at HK4.out 4 rfl; have f4' := lb_f HK4.out 4; simp only [List.getElem_toArray, List.getElem_cons_zero, List.getElem_cons_succ] at k4')
            go_quiet (fail)
            go_wp2_with fail
            go_ret2
            have e1 : er = 11 := by rw [← HER.out, HRE.out]; rfl
            have e2 : at' = j := by rw [← HAT.out, HRE.out]; rfl
            subst e1 e2
            exact ⟨rfl, below_drewN (HWJ.out.trans (hb4.mono HWJ.out.size)) _⟩
        · have HNX : Hid (scan (opK s) (hF s - (k + 1)) (k + 1) = R) := by
            have h := HSC.out
            have h2 := HBJ.out
            rw [show en s k - j = 0 by omega] at h2
            rw [show hF s - k = (hF s - (k + 1)) + 1 by omega, scan, ← h2] at h
            exact h
          clear hbj hkj hxj hwj
          go_wp2_with fail
          go_roundg (hF s - (k + 1))
          case measure => omega
          case rel => exact ⟨k + 1, by omega, rfl, by go_num, HNX.out, HXJ.out, HWJ.out⟩
    · have hke : hF s - k = 0 := by omega
      rw [hke] at hsc
      have HRN : Hid (R = none) := hsc.symm
      clear hsc hbox
      go_wp2_with fail
      go_ret2
      have e1 : er = 0 := by rw [← HER.out, HRN.out]; rfl
      have e2 : at' = 0 := by rw [← HAT.out, HRN.out]; rfl
      subst e1 e2
      exact ⟨rfl, hbw⟩
end Go.Proofs.YtmkdoejpgkgpbaaDoor
