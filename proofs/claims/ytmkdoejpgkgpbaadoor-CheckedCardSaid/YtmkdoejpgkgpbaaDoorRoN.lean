/- WALKS: fault. -/
import Derived.Test.YtmkdoejpgkgpbaaDoorRoM
set_option linter.unusedVariables false
set_option linter.unusedSimpArgs false
namespace Go.Proofs.YtmkdoejpgkgpbaaDoor
open Go.RowKit Li Ro

theorem Tryd.infoLine : (Tryd.prog.info? 70).map (·.size) = some 5 := by kernel_rfl
theorem st_none {f : Ro.Fn} {i : Nat} (h : f.T i = none) : f.st (i + 1) = f.st i := by
  show f.step i (f.st i) = _
  unfold Ro.Fn.step
  rw [show f.st i i = none from h]
theorem st_some' {f : Ro.Fn} {i : Nat} {A : Pl} (h : f.T i = some A) : f.st (i + 1) = f.leave i (f.aft i A) (f.st i) := by
  show f.step i (f.st i) = _
  unfold Ro.Fn.step
  rw [show f.st i i = some A from h]
def flI (b : Nat) : Option Nat → Int
  | some i => ((b + i : Nat) : Int)
  | none => -1
def flR (s : ByteArray) (k : Nat) : Option Nat := bad ((fnS s k).ok fun i => rdL s (r0 s k + i)) (en s k - r0 s k) 0
theorem Lone.lower {g B : Nat} {w w' : World} (h : Lone g w w') (hB : B ≤ g) : Below B w w' := h.below.mono hB
set_option maxRecDepth 100000 in
set_option maxHeartbeats 800000 in
theorem fault_any {s : ByteArray} {w : World} {B f g k cnt : Nat} {aF aN aL : Option Addr} {nF cFc nN cNc nL cLc : Nat} {arr : Array Value} {t : TypeId} {R : Option Nat} (hcd : CdAt s w B (.slice aF nF cFc) (.slice aN nN cNc) (.slice aL nL cLc)) (hBg : ∀ v : Value, (v = .slice aF nF cFc ∨ v = .slice aN nN cNc ∨ v = .slice aL nL cLc) → v.ownBlock ≠ some g)
    (hrow : bad (rowB s) (hF s) 0 = none) (hk : k < hF s) (hw : ∀ pc, r0 s k ≤ pc → pc < en s k → Wl s k pc) (hcnt : cnt = en s k - r0 s k) (hfg : f ≠ g)
    (hf : w.heap[f]? = some (flB' (.slice aF nF cFc) (.slice aN nN cNc) (.slice aL nL cLc) (r0 s k) (.slice (some ⟨g, 0, none⟩) cnt cnt))) (hb : w.heap[g]? = some (.cells arr t (0, 0))) (hS : RoadS w g cnt 0 ((fnS s k).st 0)) (hR : flR s k = R) :
    Calls Tryd.prog 45 #[.pointer (some ⟨f, 0, none⟩)] w fun e w' => e = .returned (.int .i64 (flI (r0 s k) R)) ∧ Lg g w w' := by
  obtain ⟨he1, he2⟩ := en_lt hrow hk
  have hLl : hL s < 65536 := n2_lt _ _
  have hflt := lt_of_block hf
  have hglt := lt_of_block hb
  have HF := Lib.hid hf
  have HBK := Lib.hid hb
  have HCD := Lib.hid hcd
  have HR := Lib.hid hR
  have HW := Lib.hid hw
  have HRW := Lib.hid hrow
  have HBG := Lib.hid hBg
  have HS0 := Lib.hid hS
  obtain ⟨res, hres⟩ : ∃ res : Int, (flI (r0 s k) R) = res := ⟨_, rfl⟩
  rw [hres]
  have HRES := Lib.hid hres
  -- what a step leaves of the code's rows
  have HON : Hid (∀ W, Lg g w W → CdAt s W B (.slice aF nF cFc) (.slice aN nN cNc) (.slice aL nL cLc) ∧ W.heap[f]? = some (flB' (.slice aF nF cFc) (.slice aN nN cNc) (.slice aL nL cLc) (r0 s k) (.slice (some ⟨g, 0, none⟩) cnt cnt)) ∧ ∃ arr', W.heap[g]? = some (.cells arr' t (0, 0))) := fun W hW =>
    ⟨⟨or_keep hcd.funs (fun b h => hW.lone.rest b (hcd.funs.lt b h).2 (fun e => hBg _ (.inl rfl) (e ▸ h))), or_keep hcd.nums (fun b h => hW.lone.rest b (hcd.nums.lt b h).2 (fun e => hBg _ (.inr (.inl rfl)) (e ▸ h))), or_keep hcd.lines (fun b h => hW.lone.rest b (hcd.lines.lt b h).2 (fun e => hBg _ (.inr (.inr rfl)) (e ▸ h)))⟩, (hW.lone.rest f hflt hfg).trans hf, hW.blk arr t hb⟩
  have hcb : r0 s k + cnt = en s k := by omega
  have HCN := Lib.hid hcnt
  have HCB := Lib.hid hcb
  have hcl : r0 s k + cnt ≤ 65536 := by omega
  clear hf hb hcd hR hw hrow hBg hS hres hcnt hcb
  go_enter Tryd.func45, Tryd.ntmps45
  go_wp2
  go_loopg [3] cnt (fun gh s3 (wr : World) => ∃ i : Nat, i ≤ cnt ∧ gh = cnt - i ∧ s3 = .int .i64 i ∧ bad ((fnS s k).ok fun i => rdL s (r0 s k + i)) (cnt - i) i = R ∧ RoadS wr g cnt i ((fnS s k).st i) ∧ Lg g w wr)
  case atStart => exact ⟨0, by omega, rfl, rfl, by rw [Nat.sub_zero, HCN.out]; exact HR.out, HS0.out, Lg.refl _ _⟩
  case round =>
    obtain ⟨i, hi, hgi, rfl, hbad, hSi, hLg⟩ := hrel
    obtain ⟨hcd1, hf1, arr1, hb1⟩ := HON.out _ hLg
    have hs1 := hLg.lone.size
    have c0 := lb_at hf1 0 rfl
    have c1 := lb_at hf1 1 rfl
    have c2 := lb_at hf1 2 rfl
    have c3 := lb_at hf1 3 rfl
    have c4 := lb_at hf1 4 rfl
    simp only [List.getElem_toArray, List.getElem_cons_zero, List.getElem_cons_succ] at c0 c1 c2 c3 c4
    have HCD1 := Lib.hid hcd1
    have HF1 := Lib.hid hf1
    have HB1 := Lib.hid hb1
    have HS1 := Lib.hid hSi
    have HL1 := Lib.hid hLg
    have HBAD := Lib.hid hbad
    clear hcd1 hf1 hb1 hLg hbad
    by_cases hlt : i < cnt
    · have hLi := hSi i (Nat.le_refl _) hlt
      have g1 : (i : Int) < (cnt : Int) := by omega
      have hr0 : r0 s k < 65536 := n2_lt _ _
      cases hT : (fnS s k).T i with
      | none =>
        have hT' : (fnS s k).st i i = none := hT
        rw [hT'] at hLi
        have d0 : wr.cell? ⟨g, i * 18, none⟩ = some (.bool false) := hLi 0 (by omega)
        have HNX : Hid (bad ((fnS s k).ok fun i => rdL s (r0 s k + i)) (cnt - (i + 1)) (i + 1) = R) := by
          have h := HBAD.out
          rw [show cnt - i = (cnt - (i + 1)) + 1 by omega, bad, if_pos (by unfold Ro.Fn.ok; rw [hT])] at h
          exact h
        have HNS : Hid (RoadS wr g cnt (i + 1) ((fnS s k).st (i + 1))) := by
          show RoadS _ _ _ _ _
          rw [st_none hT]
          exact fun j h1 h2 => HS1.out j (by omega) h2
        clear hT hT' hLi hSi
        go_wp2_with fail
        go_roundg (cnt - (i + 1))
        case measure => omega
        case rel => exact ⟨i + 1, by omega, rfl, by go_num, HNX.out, HNS.out, HL1.out⟩
      | some A =>
        have hT' : (fnS s k).st i i = some A := hT
        rw [hT'] at hLi
        have d0 : wr.cell? ⟨g, i * 18, none⟩ = some (.bool true) := hLi 0 (by omega)
        have HLI := Lib.hid hLi
        have hwl := HW.out (r0 s k + i) (by omega) (by have := HCB.out; omega)
        have HWL := Lib.hid hwl
        have u0 : ∀ x : Wd wr.heap.size wr, x.v.cell? ⟨f, 0, none⟩ = some (.slice aF nF cFc) := fun x => Wd.at HF1.out (by omega) 0 rfl x
        have u1 : ∀ x : Wd wr.heap.size wr, x.v.cell? ⟨f, 1, none⟩ = some (.slice aN nN cNc) := fun x => Wd.at HF1.out (by omega) 1 rfl x
        have u2 : ∀ x : Wd wr.heap.size wr, x.v.cell? ⟨f, 2, none⟩ = some (.slice aL nL cLc) := fun x => Wd.at HF1.out (by omega) 2 rfl x
        have u3 : ∀ x : Wd wr.heap.size wr, x.v.cell? ⟨f, 3, none⟩ = some (.int .i64 (r0 s k)) := fun x => Wd.at HF1.out (by omega) 3 rfl x
        have CL : Hid (∀ (x : Wd wr.heap.size wr) (z : Int), z = ((r0 s k + i : Nat) : Int) → Calls Tryd.prog 49 #[.agg #[.slice aF nF cFc, .slice aN nN cNc, .slice aL nL cLc], .int .i64 z] x.v fun e w' => e = .returned (.agg #[.int .i64 (l0 s (r0 s k + i)), .int .i64 (l1 s (r0 s k + i)), .int .i64 (l2 s (r0 s k + i)), .int .i64 (l3 s (r0 s k + i)), .int .i64 (l4 s (r0 s k + i))]) ∧ Below x.v.heap.size x.v w') := fun x z hz => by rw [hz]; exact line_at HCD1.out (by have := HCB.out; omega) x.v x.h
        obtain ⟨Q, hQ⟩ : ∃ Q, (rdL s (r0 s k + i)).all A = Q := ⟨_, rfl⟩
        have HQ := Lib.hid hQ
        have HTT := Lib.hid hT
        have yw : IntKind.i64.wrap ((r0 s k : Int) + (i : Int)) = (r0 s k : Int) + (i : Int) := by rw [IntKind.wrap_i64]; omega
        clear hT hT' hLi hSi hwl hQ
        go_upto_region 6 with fail
        refine wp_region_made 12 11 5 (.cells #[.int .i64 0, .int .i64 0, .int .i64 0, .int .i64 0, .int .i64 0] 70 (0, 0)) _ (by kernel_rfl) (by kernel_rfl) (by kernel_rfl) (by decide) rfl rfl rfl ?_
        simp only [List.take_succ_cons, List.take_zero, List.drop_succ_cons, List.drop_zero]
        refine wpB_step (by decide) (by rfl) (v := ?v0) ?hv0 ?_
        case hv0 => (intro x; go_simp; all_goals with_reducible rfl)
        simp only [Act.put, List.setIfInBounds_toArray, List.set_cons_zero, List.set_cons_succ]
        refine wpB_step (by decide) (by rfl) (v := ?v1) ?hv1 ?_
        case hv1 => (intro x; go_simp; all_goals with_reducible rfl)
        simp only [Act.put, List.setIfInBounds_toArray, List.set_cons_zero, List.set_cons_succ]
        refine wpB_step (by decide) (by rfl) (v := ?v2) ?hv2 ?_
        case hv2 => (intro x; go_simp; all_goals with_reducible rfl)
        simp only [Act.put, List.setIfInBounds_toArray, List.set_cons_zero, List.set_cons_succ]
        refine wpB_step (by decide) (by rfl) (v := ?v3) ?hv3 ?_
        case hv3 => (intro x; go_simp; all_goals with_reducible rfl)
        simp only [Act.put, List.setIfInBounds_toArray, List.set_cons_zero, List.set_cons_succ]
        refine wpB_step (by decide) (by rfl) (v := ?v4) ?hv4 ?_
        case hv4 => (intro x; go_simp; all_goals with_reducible rfl)
        simp only [Act.put, List.setIfInBounds_toArray, List.set_cons_zero, List.set_cons_succ]
        refine wpB_step (by decide) (by rfl) (v := ?v5) ?hv5 ?_
        case hv5 => (intro x; go_simp; all_goals with_reducible rfl)
        simp only [Act.put, List.setIfInBounds_toArray, List.set_cons_zero, List.set_cons_succ]
        refine wpB_step (by decide) (by rfl) (v := ?v6) ?hv6 ?_
        case hv6 => (intro x; go_simp; all_goals with_reducible rfl)
        simp only [Act.put, List.setIfInBounds_toArray, List.set_cons_zero, List.set_cons_succ]
        refine wpB_step (by decide) (by rfl) (v := ?v7) ?hv7 ?_
        case hv7 => (intro x; go_simp; all_goals with_reducible rfl)
        simp only [Act.put, List.setIfInBounds_toArray, List.set_cons_zero, List.set_cons_succ]
        refine wpB_step (by decide) (by rfl) (v := ?v8) ?hv8 ?_
        case hv8 => (intro x; go_simp; all_goals with_reducible rfl)
        simp only [Act.put, List.setIfInBounds_toArray, List.set_cons_zero, List.set_cons_succ]
        refine wpB_step (by decide) (by rfl) (v := ?v9) ?hv9 ?_
        case hv9 => (intro x; go_simp; all_goals with_reducible rfl)
        simp only [Act.put, List.setIfInBounds_toArray, List.set_cons_zero, List.set_cons_succ]
        refine wpB_step (by decide) (by rfl) (v := ?v10) ?hv10 ?_
        case hv10 => (intro x; go_simp; refine CL.out x _ ?_; omega)
        simp only [Act.put, List.setIfInBounds_toArray, List.set_cons_zero, List.set_cons_succ]
        refine wpB_skip (by decide) (fun w => by kernel_rfl) ?_
        refine wpB_nil ?_
        intro b x hb hbk
        refine wpList_store_all hbk rfl 70 (.tmp 5) (.tmp 36) rfl #[.int .i64 (l0 s (r0 s k + i)), .int .i64 (l1 s (r0 s k + i)), .int .i64 (l2 s (r0 s k + i)), .int .i64 (l3 s (r0 s k + i)), .int .i64 (l4 s (r0 s k + i))] rfl rfl rfl Tryd.infoLine (all_oneCell_toArray (by intro u hu; simp at hu; rcases hu with rfl | rfl | rfl | rfl | rfl <;> rfl)) ?_
        intro w2 hbk2 hlo
        have hs2 := hlo.size
        have hbw2 : Below wr.heap.size wr w2 := x.h.trans (hlo.below.mono hb)
        have hL2 : Lg g w w2 := HL1.out.trans (Lg.of hbw2 (by omega))
        obtain ⟨hcd2, hf2, arr2, hb2⟩ := HON.out _ hL2
        have hA2 := HLI.out.on hbw2 (by omega)
        have CM : Hid (Calls Tryd.prog 54 #[.pointer (some ⟨f, 0, none⟩), .agg #[.int .i64 (l0 s (r0 s k + i)), .int .i64 (l1 s (r0 s k + i)), .int .i64 (l2 s (r0 s k + i)), .int .i64 (l3 s (r0 s k + i)), .int .i64 (l4 s (r0 s k + i))], .pointer (some ⟨g, i * 18, none⟩)] w2 fun e w' => e = .returned (.bool Q) ∧ Below w2.heap.size w2 w') := mayRead_any hcd2 HRW.out hk hf2 HWL.out hA2 (lt_of_block hb2) HQ.out
        have e0 := lb_at hbk2 0 rfl
        have e1 := lb_at hbk2 1 rfl
        have e2 := lb_at hbk2 2 rfl
        have e3 := lb_at hbk2 3 rfl
        have e4 := lb_at hbk2 4 rfl
        have e5 := lb_at hf2 3 rfl
        simp only [List.getElem_toArray, List.getElem_cons_zero, List.getElem_cons_succ] at e0 e1 e2 e3 e4 e5
        have hbs2 := lt_of_block hbk2
        have hgs2 := lt_of_block hb2
        have HBK2 := Lib.hid hbk2
        have HL2 := Lib.hid hL2
        have HB2 := Lib.hid hb2
        have HF2 := Lib.hid hf2
        have HA2 := Lib.hid hA2
        have HBW2 := Lib.hid hbw2
        have hgw : g < w.heap.size := hglt
        have hfs2 := lt_of_block hf2
        have hgb : g ≠ b := by omega
        clear u0 u1 u2 u3 CL hbk hbk2 hlo hcd2 hf2 hb2 hA2 hL2 hbw2 c0 c1 c2 c3 c4 d0
        cases Q with
        | false =>
          have HRE : Hid (R = some i) := by
            have h := HBAD.out
            rw [show cnt - i = (cnt - (i + 1)) + 1 by omega, bad, if_neg (by unfold Ro.Fn.ok; rw [HTT.out]; simp only [HQ.out]; decide)] at h
            exact h.symm
          have HRS : Hid (res = (r0 s k : Int) + (i : Int)) := by show _ = _; rw [← HRES.out, HRE.out]; show ((r0 s k + i : Nat) : Int) = _; omega
          go_wp2_with (go_at_call 54; refine CM.out.mono ?_; rintro _ w3 ⟨rfl, hb3⟩; have e6 := lb_at (lb_below HF2.out hb3 hfs2) 3 rfl; simp only [List.getElem_toArray, List.getElem_cons_zero, List.getElem_cons_succ] at e6)
          go_ret
          exact ⟨ret_int' HRS.out.symm, HL2.out.trans (Lg.of hb3 hgs2)⟩
        | true =>
          have HNX : Hid (bad ((fnS s k).ok fun i => rdL s (r0 s k + i)) (cnt - (i + 1)) (i + 1) = R) := by
            have h := HBAD.out
            rw [show cnt - i = (cnt - (i + 1)) + 1 by omega, bad, if_pos (by unfold Ro.Fn.ok; rw [HTT.out]; exact HQ.out)] at h
            exact h
          have CR : Hid (∀ W, Below w2.heap.size w2 W → Calls Tryd.prog 55 #[.pointer (some ⟨g, i * 18, none⟩), .agg #[.int .i64 (l0 s (r0 s k + i)), .int .i64 (l1 s (r0 s k + i)), .int .i64 (l2 s (r0 s k + i)), .int .i64 (l3 s (r0 s k + i)), .int .i64 (l4 s (r0 s k + i))]] W fun e w' => e = .returned (.tuple #[]) ∧ LdAt w' g (i * 18) (some ((fnS s k).aft i A)) ∧ RoadS w' g cnt (i + 1) ((fnS s k).st i) ∧ Lg g w w' ∧ W.heap.size ≤ w'.heap.size ∧ ∀ b', b' < W.heap.size → b' ≠ g → w'.heap[b']? = W.heap[b']?) := fun W hW => by
            have hbW := lb_below HB2.out hW hgs2
            refine (run_any HRW.out hk HWL.out hbW (HA2.out.on hW hgs2)).mono ?_
            rintro e w' ⟨rfl, h1, h2⟩
            refine ⟨rfl, h1, fun j hj1 hj2 => ?_, (HL2.out.trans (Lg.of hW hgs2)).trans h2.lg, h2.lone.size, h2.lone.rest⟩
            exact (((HS1.out j (by omega) hj2).on HBW2.out (by omega)).on hW hgs2).keep hbW h2 (by omega)
          have CV : Hid (∀ W, Lg g w W → LdAt W g (i * 18) (some ((fnS s k).aft i A)) → RoadS W g cnt (i + 1) ((fnS s k).st i) → ∀ z : Int, z = ((r0 s k + i : Nat) : Int) → Calls Tryd.prog 56 #[.pointer (some ⟨f, 0, none⟩), .int .i64 z, .agg #[.int .i64 (l0 s (r0 s k + i)), .int .i64 (l1 s (r0 s k + i)), .int .i64 (l2 s (r0 s k + i)), .int .i64 (l3 s (r0 s k + i)), .int .i64 (l4 s (r0 s k + i))], .pointer (some ⟨g, i * 18, none⟩)] W fun e w' => e = .returned (.tuple #[]) ∧ RoadS w' g cnt (i + 1) ((fnS s k).st (i + 1)) ∧ Lg g w w') := fun W hW hA' hS' z hz => by
            obtain ⟨_, hf', arr', hb'⟩ := HON.out _ hW
            rw [hz]
            refine (leave_any HCN.out hlt (by omega) HWL.out hfg hf' hb' hA' hS').mono ?_
            rintro e w' ⟨rfl, h1, h2⟩
            rw [st_some' HTT.out]
            exact ⟨rfl, h1, hW.trans h2⟩
          go_wp2_with (first
            | (go_at_call 54; refine CM.out.mono ?_; rintro _ w3 ⟨rfl, hb3⟩; have hk3 := lb_below HBK2.out hb3 hbs2; have HK3 := Lib.hid hk3; have e0' := lb_at hk3 0 rfl; have e1' := lb_at hk3 1 rfl; have e2' := lb_at hk3 2 rfl; have e3' := lb_at hk3 3 rfl; have e4' := lb_at hk3 4 rfl; simp only [List.getElem_toArray, List.getElem_cons_zero, List.getElem_cons_succ] at e0' e1' e2' e3' e4'; clear hk3)
            | (go_at_call 55; refine (CR.out _ hb3).mono ?_; rintro _ w4 ⟨rfl, hA4, hS4, hL4, hz4, hr4⟩; have hk4 := (hr4 b (by have := hb3.size; omega) (by omega)).trans HK3.out; have e6 := lb_at (HON.out _ hL4).2.1 3 rfl; have e0'' := lb_at hk4 0 rfl; have e1'' := lb_at hk4 1 rfl; have e2'' := lb_at hk4 2 rfl; have e3'' := lb_at hk4 3 rfl; have e4'' := lb_at hk4 4 rfl; simp only [List.getElem_toArray, List.getElem_cons_zero, List.getElem_cons_succ] at e6 e0'' e1'' e2'' e3'' e4''; have HK4 := Lib.hid hk4; clear hk4))
          have hb4 := lt_of_block HK4.out
          have hg4 : g < w4.heap.size := by have := hL4.lone.size; omega
          have HF4 := Lib.hid (HON.out _ hL4).2.1
          have hf4 := lt_of_block HF4.out
          have u3 : ∀ z : Wd w4.heap.size w4, z.v.cell? ⟨f, 3, none⟩ = some (.int .i64 (r0 s k)) := fun z => Wd.at HF4.out hf4 3 rfl z
          have p0 : ∀ z : Wd w4.heap.size w4, z.v.cell? ⟨b, 0, none⟩ = some (.int .i64 (l0 s (r0 s k + i))) := fun z => Wd.at HK4.out hb4 0 rfl z
          have p1 : ∀ z : Wd w4.heap.size w4, z.v.cell? ⟨b, 1, none⟩ = some (.int .i64 (l1 s (r0 s k + i))) := fun z => Wd.at HK4.out hb4 1 rfl z
          have p2 : ∀ z : Wd w4.heap.size w4, z.v.cell? ⟨b, 2, none⟩ = some (.int .i64 (l2 s (r0 s k + i))) := fun z => Wd.at HK4.out hb4 2 rfl z
          have p3 : ∀ z : Wd w4.heap.size w4, z.v.cell? ⟨b, 3, none⟩ = some (.int .i64 (l3 s (r0 s k + i))) := fun z => Wd.at HK4.out hb4 3 rfl z
          have p4 : ∀ z : Wd w4.heap.size w4, z.v.cell? ⟨b, 4, none⟩ = some (.int .i64 (l4 s (r0 s k + i))) := fun z => Wd.at HK4.out hb4 4 rfl z
          refine wp_region_tail 9 10 (by kernel_rfl) (by kernel_rfl) (by decide) ?_
          simp only [List.take_succ_cons, List.take_zero, List.drop_succ_cons, List.drop_zero]
          refine wpB_step (by decide) (by rfl) (v := ?r0) ?hr0 ?_
          case hr0 => (intro x; go_simp; all_goals with_reducible rfl)
          simp only [Act.put, List.setIfInBounds_toArray, List.set_cons_zero, List.set_cons_succ]
          refine wpB_step (by decide) (by rfl) (v := ?r1) ?hr1 ?_
          case hr1 => (intro x; go_simp; all_goals with_reducible rfl)
          simp only [Act.put, List.setIfInBounds_toArray, List.set_cons_zero, List.set_cons_succ]
          refine wpB_step (by decide) (by rfl) (v := ?r2) ?hr2 ?_
          case hr2 => (intro x; go_simp; all_goals with_reducible rfl)
          simp only [Act.put, List.setIfInBounds_toArray, List.set_cons_zero, List.set_cons_succ]
          refine wpB_step (by decide) (by rfl) (v := ?r3) ?hr3 ?_
          case hr3 => (intro x; go_simp; all_goals with_reducible rfl)
          simp only [Act.put, List.setIfInBounds_toArray, List.set_cons_zero, List.set_cons_succ]
          refine wpB_step (by decide) (by rfl) (v := ?r4) ?hr4 ?_
          case hr4 => (intro x; go_simp; all_goals with_reducible rfl)
          simp only [Act.put, List.setIfInBounds_toArray, List.set_cons_zero, List.set_cons_succ]
          refine wpB_step (by decide) (by rfl) (v := ?r5) ?hr5 ?_
          case hr5 => (intro x; go_simp; all_goals with_reducible rfl)
          simp only [Act.put, List.setIfInBounds_toArray, List.set_cons_zero, List.set_cons_succ]
          refine wpB_step (by decide) (by rfl) (v := ?r6) ?hr6 ?_
          case hr6 => (intro x; go_simp; all_goals with_reducible rfl)
          simp only [Act.put, List.setIfInBounds_toArray, List.set_cons_zero, List.set_cons_succ]
          refine wpB_step (by decide) (by rfl) (v := ?r7) ?hr7 ?_
          case hr7 => (intro x; go_simp; all_goals with_reducible rfl)
          simp only [Act.put, List.setIfInBounds_toArray, List.set_cons_zero, List.set_cons_succ]
          refine wpB_step (by decide) (by rfl) (v := ?r8) ?hr8 ?_
          case hr8 => (intro x; go_simp; all_goals with_reducible rfl)
          simp only [Act.put, List.setIfInBounds_toArray, List.set_cons_zero, List.set_cons_succ]
          refine wpB_nil ?_
          intro z
          go_wp2_with (go_at_call 56; refine (CV.out _ (hL4.trans (Lg.of z.h hg4)) (hA4.on z.h hg4) (fun j h1 h2 => (hS4 j h1 h2).on z.h hg4) _ (by omega)).mono ?_; rintro _ w5 ⟨rfl, hS5, hL5⟩)
          go_roundg (cnt - (i + 1))
          case measure => omega
          case rel => exact ⟨i + 1, by omega, rfl, by go_num, HNX.out, hS5, hL5⟩
    · have hci : i = cnt := by omega
      subst hci
      have HRE : Hid (R = none) := by
        have h := HBAD.out
        rw [Nat.sub_self] at h
        exact h.symm
      have HRS : Hid (res = -1) := by show _ = _; rw [← HRES.out, HRE.out]; rfl
      clear hSi
      go_wp2_with fail
      go_ret
      exact ⟨ret_int' HRS.out.symm, HL1.out⟩
end Go.Proofs.YtmkdoejpgkgpbaaDoor
