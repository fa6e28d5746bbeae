/- WALKS: the document's Check. -/
import Derived.Test.YtmkdoejpgkgpbaaDoorDoE
import Derived.Test.YtmkdoejpgkgpbaaDoorChV
set_option linter.unusedVariables false
set_option linter.unusedSimpArgs false
namespace Go.Proofs.YtmkdoejpgkgpbaaDoor
open Go.RowKit Li Ro

theorem dF_end (s : ByteArray) (k : Nat) : dF s (hF s) k = [.int .i64 (r0 s k), .int .i64 (r1 s k), .int .i64 (r2 s k), .int .i64 (r3 s k), .int .i64 (en s k)] := rfl
set_option maxRecDepth 100000 in
set_option maxHeartbeats 3200000 in
theorem dcheck_ok {s : ByteArray} {w : World} {er at' : Nat} (h : res s = none) (hR : fauR s = (er, at')) :
    Calls Tryd.prog 11 #[.string s] w fun e w' => e = .returned (.tuple #[.int .i64 er, .int .i64 at']) ∧ Below w.heap.size w w' := by
  obtain ⟨hs1, hs2, hrow, hnum⟩ := res_none h
  have hFl : hF s < 65536 := n2_lt _ _
  have hLl : hL s < 65536 := n2_lt _ _
  have HRD : Hid (Calls Tryd.prog 14 #[.string s] w fun e w' => ∃ p gF cF' vN vL, e = .returned (.tuple #[.pointer (some ⟨p, 0, none⟩), .int .i64 0, .int .i64 0]) ∧ w.heap.size ≤ p ∧ RdAt s w' p (.slice (some ⟨gF, 0, none⟩) (hF s) cF') vN vL ∧ gF < w'.heap.size ∧ hF s ≤ cF' ∧ Below w.heap.size w w') := by
    refine (read_ok (w := w) h).mono ?_
    rintro e w' ⟨p, vF, vN, vL, he, hp, hat, hb⟩
    have hF0 := (hdB_of hs2).2.2.1
    obtain ⟨g, c, rfl, hg1, hg2, hg3, hg4⟩ := or_shape hat.funs (by omega)
    exact ⟨p, g, c, vN, vL, he, hp, hat, hg2, hg3, hb⟩
  have HROW := Lib.hid hrow
  have HR := Lib.hid hR
  clear h hR hrow hnum hs2
  go_enter Tryd.func11, Tryd.ntmps11
  go_wp2_with (go_at_call 14; refine HRD.out.mono ?_; rintro _ w1 ⟨p, gF, cF', vN, vL, rfl, hp, hat, hg2, hg3, hb1⟩; have HAT := Lib.hid hat; have HB1 := Lib.hid hb1; clear hat hb1)
  have HC : Hid (∀ (W : World) (k : Nat), Below w1.heap.size w1 W → k < hF s → W.cell? ⟨p, 0, none⟩ = some (.slice (some ⟨gF, 0, none⟩) (hF s) cF') ∧ W.cell? ⟨gF, k * 5, none⟩ = some (.int .i64 (r0 s k)) ∧ W.cell? ⟨gF, k * 5 + 1, none⟩ = some (.int .i64 (r1 s k)) ∧ W.cell? ⟨gF, k * 5 + 2, none⟩ = some (.int .i64 (r2 s k)) ∧ W.cell? ⟨gF, k * 5 + 3, none⟩ = some (.int .i64 (r3 s k)) ∧ W.cell? ⟨gF, k * 5 + 4, none⟩ = some (.int .i64 (en s k))) := fun W k hW hk => by
    have hc : ∀ o v, o < 5 → (dF s (hF s) k)[o]? = some v → W.cell? ⟨gF, k * 5 + o, none⟩ = some v := fun o v ho hv => by
      rw [hW.cell (p := ⟨gF, k * 5 + o, none⟩) hg2, HAT.out.funs.cellAt (k * 5 + o) (by omega)]
      exact (rowC_at (dF_len s _) ho (hF s) hk).trans hv
    exact ⟨lb_at (lb_below HAT.out.blk hW (lt_of_block HAT.out.blk)) 0 rfl, hc 0 _ (by omega) rfl, hc 1 _ (by omega) rfl, hc 2 _ (by omega) rfl, hc 3 _ (by omega) rfl, hc 4 _ (by omega) rfl⟩
  have HP0 : Hid (∀ W, Below w1.heap.size w1 W → W.cell? ⟨p, 0, none⟩ = some (.slice (some ⟨gF, 0, none⟩) (hF s) cF')) := fun W hW => lb_at (lb_below HAT.out.blk hW (lt_of_block HAT.out.blk)) 0 rfl
  go_loopg [7] (hF s) (fun gh s7 (wr : World) => ∃ k : Nat, k ≤ hF s ∧ gh = hF s - k ∧ s7 = .int .i64 k ∧ scan (opK s) (hF s - k) k = scan (opK s) (hF s) 0 ∧ Below w1.heap.size w1 wr)
  case atStart => exact ⟨0, by omega, rfl, rfl, rfl, Below.refl _ _⟩
  case round =>
    obtain ⟨wk, rfl⟩ : ∃ wk, wk = wr := ⟨_, rfl⟩
    obtain ⟨k, hk, hgk, rfl, hsc, hbk⟩ := hrel
    have HSC := Lib.hid hsc
    have HBK := Lib.hid hbk
    have a0 := HP0.out _ hbk
    clear hsc hbk
    by_cases hlt : k < hF s
    · obtain ⟨_, c0, c1, c2, c3, c4⟩ := HC.out _ k HBK.out hlt
      obtain ⟨he1, he2⟩ := en_lt HROW.out hlt
      have hr0 : r0 s k < 65536 := n2_lt _ _
      have z1 : (k : Int) < ((hF s : Nat) : Int) := by omega
      go_wp2_with fail
      go_loopg [8] (en s k - r0 s k) (fun gh s8 (wr : World) => ∃ pc : Nat, r0 s k ≤ pc ∧ pc ≤ en s k ∧ gh = en s k - pc ∧ s8 = .int .i64 pc ∧ bad (wlL s k) (en s k - pc) pc = opK s k ∧ Below w1.heap.size w1 wr)
      case atStart => exact ⟨r0 s k, Nat.le_refl _, Nat.le_of_lt he1, rfl, rfl, rfl, HBK.out⟩
      case round =>
        obtain ⟨wq, rfl⟩ : ∃ wq, wq = wr := ⟨_, rfl⟩
        obtain ⟨pc, hp1, hp2, hgp, rfl, hbd, hbq⟩ := hrel
        have HBD := Lib.hid hbd
        have HBQ := Lib.hid hbq
        obtain ⟨b0', b1', b2', b3', b4', b5'⟩ := HC.out _ k hbq hlt
        clear hbd hbq
        by_cases hlt2 : pc < en s k
        · obtain ⟨Rj, hRj⟩ : ∃ Rj, wlL s k pc = Rj := ⟨_, rfl⟩
          have CM : Hid (Calls Tryd.prog 18 #[.pointer (some ⟨p, 0, none⟩), .int .i64 pc, .agg #[.int .i64 (r0 s k), .int .i64 (r1 s k), .int .i64 (r2 s k), .int .i64 (r3 s k), .int .i64 (en s k)]] wq fun e w' => e = .returned (.bool Rj) ∧ Below wq.heap.size wq w') := made_any (HAT.out.on HBQ.out) (by omega) (by omega) hRj
          have z2 : (pc : Int) < (en s k : Int) := by omega
          cases Rj with
          | true =>
            have HNX : Hid (bad (wlL s k) (en s k - (pc + 1)) (pc + 1) = opK s k) := by
              have h := HBD.out
              rw [show en s k - pc = (en s k - (pc + 1)) + 1 by omega, bad, if_pos hRj] at h
              exact h
            clear hRj
            go_wp2_with (go_at_call 18; refine CM.out.mono ?_; rintro _ w4 ⟨rfl, hb4⟩)
            go_roundg (en s k - (pc + 1))
            case measure => omega
            case rel => exact ⟨pc + 1, by omega, by omega, rfl, by go_num, HNX.out, HBQ.out.trans (hb4.mono HBQ.out.size)⟩
          | false =>
            have HRE : Hid (er = 11 ∧ at' = pc) := by
              have h := HBD.out
              rw [show en s k - pc = (en s k - (pc + 1)) + 1 by omega, bad, if_neg (by rw [hRj]; decide)] at h
              have h2 := HSC.out
              rw [show hF s - k = (hF s - (k + 1)) + 1 by omega, scan, ← h] at h2
              have h3 := HR.out
              unfold fauR at h3
              rw [← h2] at h3
              exact ⟨(congrArg Prod.fst h3).symm, (congrArg Prod.snd h3).symm⟩
            clear hRj
            go_wp2_with (go_at_call 18; refine CM.out.mono ?_; rintro _ w4 ⟨rfl, hb4⟩)
            go_ret2
            obtain ⟨e1, e2⟩ := HRE.out
            subst e1 e2
            exact ⟨rfl, HB1.out.trans ((HBQ.out.trans (hb4.mono HBQ.out.size)).mono HB1.out.size)⟩
        · have HNX : Hid (scan (opK s) (hF s - (k + 1)) (k + 1) = scan (opK s) (hF s) 0) := by
            have h := HSC.out
            have h2 := HBD.out
            rw [show en s k - pc = 0 by omega] at h2
            rw [show hF s - k = (hF s - (k + 1)) + 1 by omega, scan, ← h2] at h
            exact h
          have z2 : ¬ (pc : Int) < (en s k : Int) := by omega
          go_wp2_with fail
          go_roundg (hF s - (k + 1))
          case measure => omega
          case rel => exact ⟨k + 1, by omega, rfl, by go_num, HNX.out, HBQ.out⟩
    · have HOP : Hid (scan (opK s) (hF s) 0 = none) := by
        have h := HSC.out
        rw [show hF s - k = 0 by omega] at h
        exact h.symm
      have z1 : ¬ (k : Int) < ((hF s : Nat) : Int) := by omega
      go_wp2_with fail
      go_loopg [10] (hF s) (fun gh s10 (wr : World) => ∃ q : Nat, q ≤ hF s ∧ gh = hF s - q ∧ s10 = .int .i64 q ∧ scan (flK s) (hF s - q) q = scan (flK s) (hF s) 0 ∧ Below w1.heap.size w1 wr)
      case atStart => exact ⟨0, by omega, rfl, rfl, rfl, HBK.out⟩
      case round =>
        obtain ⟨wq, rfl⟩ : ∃ wq, wq = wr := ⟨_, rfl⟩
        obtain ⟨q, hq, hgq, rfl, hsq, hbq⟩ := hrel
        have HSQ := Lib.hid hsq
        have HBQ := Lib.hid hbq
        have a1 := HP0.out _ hbq
        clear hsq hbq
        by_cases hlt2 : q < hF s
        · obtain ⟨_, c0, c1, c2, c3, c4⟩ := HC.out _ q HBQ.out hlt2
          have z2 : (q : Int) < ((hF s : Nat) : Int) := by omega
          have CF := Lib.hid (flow_any (HAT.out.on HBQ.out) HROW.out hlt2 (fun pc h1 h2 => Wl.of (bad_none _ _ (scan_none _ _ HOP.out q (by omega) (by omega)) pc (by omega) (by omega))))
          cases hfl : flR s q with
          | none =>
            rw [hfl] at CF
            have CF2 : Hid (Calls Tryd.prog 19 #[.pointer (some ⟨p, 0, none⟩), .agg #[.int .i64 (r0 s q), .int .i64 (r1 s q), .int .i64 (r2 s q), .int .i64 (r3 s q), .int .i64 (en s q)], .int .i64 q] wq fun e w' => e = .returned (.int .i64 (-1)) ∧ Below wq.heap.size wq w') := CF.out
            have HNX : Hid (scan (flK s) (hF s - (q + 1)) (q + 1) = scan (flK s) (hF s) 0) := by
              have h := HSQ.out
              rw [show hF s - q = (hF s - (q + 1)) + 1 by omega, scan, flK_flR, hfl] at h
              exact h
            clear CF hfl
            go_wp2_with (go_at_call 19; refine CF2.out.mono ?_; rintro _ w4 ⟨rfl, hb4⟩)
            go_roundg (hF s - (q + 1))
            case measure => omega
            case rel => exact ⟨q + 1, by omega, rfl, by go_num, HNX.out, HBQ.out.trans (hb4.mono HBQ.out.size)⟩
          | some i =>
            rw [hfl] at CF
            have CF2 : Hid (Calls Tryd.prog 19 #[.pointer (some ⟨p, 0, none⟩), .agg #[.int .i64 (r0 s q), .int .i64 (r1 s q), .int .i64 (r2 s q), .int .i64 (r3 s q), .int .i64 (en s q)], .int .i64 q] wq fun e w' => e = .returned (.int .i64 ((r0 s q + i : Nat) : Int)) ∧ Below wq.heap.size wq w') := CF.out
            have HRE : Hid (er = 12 ∧ at' = r0 s q + i) := by
              have h2 := HSQ.out
              rw [show hF s - q = (hF s - (q + 1)) + 1 by omega, scan, flK_flR, hfl] at h2
              have h3 := HR.out
              unfold fauR at h3
              rw [HOP.out, ← h2] at h3
              exact ⟨(congrArg Prod.fst h3).symm, (congrArg Prod.snd h3).symm⟩
            clear CF hfl
            generalize r0 s q + i = ln at *
            have hln : (0 : Int) ≤ (ln : Int) := by omega
            go_wp2_with (go_at_call 19; refine CF2.out.mono ?_; rintro _ w4 ⟨rfl, hb4⟩)
            go_ret2
            obtain ⟨e1, e2⟩ := HRE.out
            subst e1 e2
            exact ⟨rfl, HB1.out.trans ((HBQ.out.trans (hb4.mono HBQ.out.size)).mono HB1.out.size)⟩
        · have HRE : Hid (er = 0 ∧ at' = 0) := by
            have h2 := HSQ.out
            rw [show hF s - q = 0 by omega] at h2
            have h3 := HR.out
            unfold fauR at h3
            rw [HOP.out, ← h2] at h3
            exact ⟨(congrArg Prod.fst h3).symm, (congrArg Prod.snd h3).symm⟩
          have z2 : ¬ (q : Int) < ((hF s : Nat) : Int) := by omega
          go_wp2_with fail
          go_ret2
          obtain ⟨e1, e2⟩ := HRE.out
          subst e1 e2
          exact ⟨rfl, HB1.out.trans (HBQ.out.mono HB1.out.size)⟩
set_option maxRecDepth 100000 in
theorem dcheck_bad {s : ByteArray} {w : World} {er at' : Nat} (hs : s.size ≤ 1073741824) (h : res s = some (er, at')) :
    Calls Tryd.prog 11 #[.string s] w fun e w' => e = .returned (.tuple #[.int .i64 er, .int .i64 at']) ∧ Below w.heap.size w w' := by
  have HR := Lib.hid (read_bad (w := w) hs h)
  have hne : ((er : Int) != 0) = true := by have := res_er h; simp; omega
  clear h
  go_enter Tryd.func11, Tryd.ntmps11
  go_wp2_with (go_at_call 14; refine HR.out.mono ?_; rintro _ w1 ⟨rfl, hb1⟩)
  go_ret2
  exact ⟨rfl, hb1⟩
theorem docCk {s : ByteArray} (hs : s.size ≤ 1073741824) : DocCk s := fun W => by
  cases h : res s with
  | none => rw [ckR_ok h]; exact dcheck_ok h rfl
  | some p => obtain ⟨er, at'⟩ := p; rw [ckR_bad h]; exact dcheck_bad hs h
end Go.Proofs.YtmkdoejpgkgpbaaDoor
