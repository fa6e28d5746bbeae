/- WALKS: the code's table of functions. -/
import Derived.Test.YtmkdoejpgkgpbaaDoorLiE
import Derived.Deep.RegionWith
import Derived.Deep.Cut
import Derived.Deep.CutRange
import Derived.Deep.DeepCutAuto
set_option linter.unusedVariables false
set_option linter.unusedSimpArgs false
namespace Go.Proofs.YtmkdoejpgkgpbaaDoor
open Go.RowKit Li

theorem Tryd.inf67 : (Tryd.prog.info? 67).map (fun i => (i.zero, i.size, i.bytes)) = some (some (.agg #[.int .i64 0, .int .i64 0, .int .i64 0, .int .i64 0]), 4, 32) := by kernel_rfl
theorem Tryd.und34 : Tryd.prog.underlying 34 = some (.slice 67) := by kernel_rfl
def nilS : Value := .slice none 0 0
/-- of the blocks that were there r alone has changed -/
structure Lone (r : Nat) (w w' : World) : Prop where
  below : Below r w w'
  size : w.heap.size ≤ w'.heap.size
  rest : ∀ b, b < w.heap.size → b ≠ r → w'.heap[b]? = w.heap[b]?
theorem Lone.refl (r : Nat) (w : World) : Lone r w w := ⟨Below.refl _ _, Nat.le_refl _, fun _ _ _ => rfl⟩
theorem Lone.trans {r : Nat} {w w1 w2 : World} (h : Lone r w w1) (h2 : Lone r w1 w2) : Lone r w w2 :=
  ⟨h.below.trans h2.below, Nat.le_trans h.size h2.size, fun b hb hr => (h2.rest b (by have := h.size; omega) hr).trans (h.rest b hb hr)⟩
theorem Lone.of {r : Nat} {w w1 : World} (h : Below w.heap.size w w1) (hr : r ≤ w.heap.size) : Lone r w w1 := ⟨h.mono hr, h.size, fun b hb _ => h.block b hb⟩
theorem Lone.set {r : Nat} {w w1 : World} (h : Lone r w w1) (i : Nat) (u : Value) : Lone r w (w1.setCell ⟨r, i, none⟩ u) :=
  ⟨h.below.setCell (p := ⟨r, i, none⟩) (Nat.le_refl _) _, by rw [setCell_size]; exact h.size, fun b hb hr => by rw [Below.heap_setCell _ _ _ _ hr]; exact h.rest b hb hr⟩
theorem Lone.drew {r : Nat} {w w1 : World} (h : Lone r w w1) : Lone r w w1.drew := ⟨h.below.drew, h.size, h.rest⟩
/-- a row appended to: all else is as it was -/
theorem Lone.app {r base n size : Nat} {w w0 W w1 : World} {e : TypeId} {v : Value} {xs : List Value} (h0 : Lone r w w0) (hown : w0.ownsRow base e size v n xs) (hb : w.heap.size ≤ base) (hr : r < base) (hW : Below w0.heap.size w0 W) (hbase : base ≤ w0.heap.size) (hg : W.grownBy w1 v.ownBlock) : Lone r w w1 := by
  obtain ⟨h1, h2, h3⟩ := app_keep hown hW hbase hg
  exact ⟨h0.below.trans (h3.mono (by omega)), by have := h0.size; omega, fun b hb' hr' => (h1 b (by have := h0.size; omega) (fun h => by have := (hown.lt _ h).1; omega)).trans (h0.rest b hb' hr')⟩
set_option maxRecDepth 100000 in
set_option maxHeartbeats 3200000 in
theorem rows_any {s : ByteArray} {w : World} {r F L : Nat} (hs : s.size ≤ 600000) (hsz : 8 + 6 * F ≤ s.size) (hF : F < 65536) (hLl : L < 65536) (hL' : hL s = L) (hblk : w.heap[r]? = some (rdB s 8 nilS nilS nilS)) :
    Calls Tryd.prog 21 #[.pointer (some ⟨r, 0, none⟩), .int .i64 F, .int .i64 L] w fun e w' => ∃ (k : Nat) (v : Value), w'.heap[r]? = some (rdB s (8 + 6 * k) v nilS nilS) ∧ Lone r w w' ∧
      ((e = .returned (.bool false) ∧ bad (rowB s) F 0 = some k) ∨ (e = .returned (.bool true) ∧ bad (rowB s) F 0 = none ∧ k = F ∧ w'.ownsRow w.heap.size 67 4 v F (rowC (cF s) F))) := by
  have hr := lt_of_block hblk
  obtain ⟨R, hR⟩ : ∃ R, bad (rowB s) F 0 = R := ⟨_, rfl⟩
  rw [hR]
  have HR : Hid (bad (rowB s) F 0 = R) := hR
  have HBK0 : Hid (w.heap[r]? = some (rdB s 8 nilS nilS nilS)) := hblk
  have EL : Hid (hL s = L) := hL'
  clear hR hblk hL'
  go_enter Tryd.func21, Tryd.ntmps21
  go_wp2_with fail
  go_loopw [7] (fun i wr => ∃ (k : Nat) (v : Value), k ≤ F ∧ i = .int .i64 k ∧ bad (rowB s) (F - k) k = R ∧ wr.heap[r]? = some (rdB s (8 + 6 * k) v nilS nilS) ∧ wr.ownsRow w.heap.size 67 4 v k (rowC (cF s) k) ∧ Lone r w wr) (fun i _ => F - (intOf i).toNat)
  case atStart => exact ⟨0, nilS, by omega, rfl, HR.out, HBK0.out, World.ownsRow_nil _ _ _ _, Lone.refl _ _⟩
  case round =>
    obtain ⟨k, v, hk, rfl, hbad, hblk, hown, hlone⟩ := hrel
    have HBK : Hid (wr.heap[r]? = some (rdB s (8 + 6 * k) v nilS nilS)) := hblk
    have HLO : Hid (Lone r w wr) := hlone
    have hsw := hlone.size
    by_cases hlt : k < F
    · have HBAD : Hid (bad (rowB s) (F - k) k = R) := hbad
      obtain ⟨f0, hf0⟩ : ∃ f, r0 s k = f := ⟨_, rfl⟩
      obtain ⟨f1, hf1⟩ : ∃ f, r1 s k = f := ⟨_, rfl⟩
      obtain ⟨f2, hf2⟩ : ∃ f, r2 s k = f := ⟨_, rfl⟩
      obtain ⟨f3, hf3⟩ : ∃ f, r3 s k = f := ⟨_, rfl⟩
      have hf0l : f0 < 65536 := by rw [← hf0]; exact n2_lt _ _
      have CA : Hid (∀ (z n : Int) (w : World), z = 8 + 6 * (k : Int) ∧ n = 2 → Calls Tryd.prog 22 #[.string s, .int .i64 z, .int .i64 n] w fun e w' => e = .returned (.int .i64 (f0 : Int)) ∧ w' = w) := fun z n w hz => by
        rw [hz.2]
        have := number_any (s := s) (a := 8 + 6 * k) (n := 2) (w := w) hs (by omega)
        rw [nV_2, show n2 s (8 + 6 * k) = f0 from hf0, show ((8 + 6 * k : Nat) : Int) = z by omega] at this
        exact this
      have CB : Hid (∀ (z n : Int) (w : World), z = 8 + 6 * (k : Int) + 2 ∧ n = 1 → Calls Tryd.prog 22 #[.string s, .int .i64 z, .int .i64 n] w fun e w' => e = .returned (.int .i64 (f1 : Int)) ∧ w' = w) := fun z n w hz => by
        rw [hz.2]
        have := number_any (s := s) (a := 8 + 6 * k + 2) (n := 1) (w := w) hs (by omega)
        rw [nV_1, show bt s (8 + 6 * k + 2) = f1 from hf1, show ((8 + 6 * k + 2 : Nat) : Int) = z by omega] at this
        exact this
      have CC : Hid (∀ (z n : Int) (w : World), z = 8 + 6 * (k : Int) + 3 ∧ n = 1 → Calls Tryd.prog 22 #[.string s, .int .i64 z, .int .i64 n] w fun e w' => e = .returned (.int .i64 (f2 : Int)) ∧ w' = w) := fun z n w hz => by
        rw [hz.2]
        have := number_any (s := s) (a := 8 + 6 * k + 3) (n := 1) (w := w) hs (by omega)
        rw [nV_1, show bt s (8 + 6 * k + 3) = f2 from hf2, show ((8 + 6 * k + 3 : Nat) : Int) = z by omega] at this
        exact this
      have CD : Hid (∀ (z n : Int) (w : World), z = 8 + 6 * (k : Int) + 4 ∧ n = 2 → Calls Tryd.prog 22 #[.string s, .int .i64 z, .int .i64 n] w fun e w' => e = .returned (.int .i64 (f3 : Int)) ∧ w' = w) := fun z n w hz => by
        rw [hz.2]
        have := number_any (s := s) (a := 8 + 6 * k + 4) (n := 2) (w := w) hs (by omega)
        rw [nV_2, show n2 s (8 + 6 * k + 4) = f3 from hf3, show ((8 + 6 * k + 4 : Nat) : Int) = z by omega] at this
        exact this
      have HOW : Hid (wr.ownsRow w.heap.size 67 4 v k (rowC (cF s) k)) := hown
      have c0 : wr.cell? ⟨r, 0, none⟩ = some (.string s) := lb_at hblk 0 rfl
      have c1 : wr.cell? ⟨r, 1, none⟩ = some (.int .i64 (8 + 6 * (k : Int))) := by
        have := lb_at hblk 1 rfl
        simpa using this
      have n0 := World.new_ne wr ⟨r, 0, none⟩ c0
      have n1 := World.new_ne wr ⟨r, 1, none⟩ c1
      have y2 : IntKind.i64.wrap (8 + 6 * (k : Int) + 2) = 8 + 6 * (k : Int) + 2 := by rw [IntKind.wrap_i64]; omega
      have y3 : IntKind.i64.wrap (8 + 6 * (k : Int) + 3) = 8 + 6 * (k : Int) + 3 := by rw [IntKind.wrap_i64]; omega
      have y4 : IntKind.i64.wrap (8 + 6 * (k : Int) + 4) = 8 + 6 * (k : Int) + 4 := by rw [IntKind.wrap_i64]; omega
      have HRW : Hid (rowB s k = (flB k f0 f1 f2 f3 (r0 s (k - 1)) && decide (f0 < L))) := by
        show _ = _
        rw [rwB_rowB, flB_rwB, EL.out, hf0, hf1, hf2, hf3]
      have ECF : Hid (cF s k = [.int .i64 f0, .int .i64 f1, .int .i64 f2, .int .i64 f3]) := by show cF s k = _; unfold cF; rw [hf0, hf1, hf2, hf3]
      clear hf0 hf1 hf2 hf3 hbad hblk hown hlone
      go_upto_region 4 with fail
      go_cut [8] from 9 to 82 (fun s8 wx => s8 = .pointer (some ⟨wr.heap.size, 0, none⟩) ∧ wx = (wr.alloc (.cells #[.int .i64 f0, .int .i64 f1, .int .i64 f2, .int .i64 f3] 67)).drew)
      case first =>
        go_region_held3 (fun w' => w'.cell? ⟨r, 0, none⟩ = some (.string s) ∧ w'.cell? ⟨r, 1, none⟩ = some (.int .i64 (8 + 6 * (k : Int)))) (go_keep) (first
          | (go_at_call 22; refine (CA.out _ _ _ (by omega)).mono ?_; rintro _ w1 ⟨rfl, hw1⟩; have hw2 := hw1.symm; subst hw2)
          | (go_at_call 22; refine (CB.out _ _ _ (by omega)).mono ?_; rintro _ w1 ⟨rfl, hw1⟩; have hw2 := hw1.symm; subst hw2)
          | (go_at_call 22; refine (CC.out _ _ _ (by omega)).mono ?_; rintro _ w1 ⟨rfl, hw1⟩; have hw2 := hw1.symm; subst hw2)
          | (go_at_call 22; refine (CD.out _ _ _ (by omega)).mono ?_; rintro _ w1 ⟨rfl, hw1⟩; have hw2 := hw1.symm; subst hw2))
        all_goals (try go_wp2_with fail)
        all_goals go_meet
        all_goals exact ⟨rfl, rfl⟩
      case rest =>
        obtain ⟨rfl, rfl⟩ := hcut
        have hB : Below wr.heap.size wr (wr.alloc (.cells #[.int .i64 f0, .int .i64 f1, .int .i64 f2, .int .i64 f3] 67)).drew := ((Below.refl _ _).alloc (Nat.le_refl _) _).drew
        have hblk1 := lb_below HBK.out hB (by omega)
        have hnew : (wr.alloc (.cells #[.int .i64 f0, .int .i64 f1, .int .i64 f2, .int .i64 f3] 67)).drew.heap[wr.heap.size]? = some (.cells #[.int .i64 f0, .int .i64 f1, .int .i64 f2, .int .i64 f3] 67) := lb_new wr _
        have hown1 := own_below HOW.out hB
        have hsz1 : (wr.alloc (.cells #[.int .i64 f0, .int .i64 f1, .int .i64 f2, .int .i64 f3] 67)).drew.heap.size = wr.heap.size + 1 := World.size_alloc (w := wr) _
        have hlo1 := HLO.out.trans (Lone.of hB (by omega))
        generalize (wr.alloc (.cells #[.int .i64 f0, .int .i64 f1, .int .i64 f2, .int .i64 f3] 67)).drew = W at *
        have e0 := lb_at hnew 0 rfl
        have e1 := lb_at hnew 1 rfl
        have e2 := lb_at hnew 2 rfl
        have e3 := lb_at hnew 3 rfl
        simp only [List.getElem_toArray, List.getElem_cons_zero, List.getElem_cons_succ] at e0 e1 e2 e3
        have HFO : Hid (∀ Q, flB k f0 f1 f2 f3 (r0 s (k - 1)) = Q → Calls Tryd.prog 38 #[.pointer (some ⟨r, 0, none⟩), .agg #[.int .i64 f0, .int .i64 f1, .int .i64 f2, .int .i64 f3]] W fun e w' => e = .returned (.bool Q) ∧ Below W.heap.size W w') := fun Q hQ => follows_any hQ (by omega) hblk1 hown1
        have HB1 : Hid (W.heap[r]? = some (rdB s (8 + 6 * k) v nilS nilS)) := hblk1
        have HN1 : Hid (W.heap[wr.heap.size]? = some (.cells #[.int .i64 f0, .int .i64 f1, .int .i64 f2, .int .i64 f3] 67)) := hnew
        have HO1 : Hid (W.ownsRow w.heap.size 67 4 v k (rowC (cF s) k)) := hown1
        have HL1 : Hid (Lone r w W) := hlo1
        have HS1 : Hid (W.heap.size = wr.heap.size + 1) := hsz1
        clear hB hblk1 hnew hown1 hlo1 hsz1 c0 c1 n0 n1 HBK HOW HLO
        by_cases hfl : flB k f0 f1 f2 f3 (r0 s (k - 1)) = true
        · have HC := Lib.hid (HFO.out true hfl)
          by_cases hll : f0 < L
          · have HNX : Hid (bad (rowB s) (F - (k + 1)) (k + 1) = R) := by
              have h := HBAD.out
              rw [show F - k = (F - (k + 1)) + 1 by omega, bad, if_pos (by rw [HRW.out, hfl, decide_eq_true hll]; rfl)] at h
              exact h
            have hdl : decide ((L : Int) ≤ (f0 : Int)) = false := by simp; omega
            clear hfl HFO
            obtain ⟨i0, hi0, hz1, hz2, hz3⟩ := info_parts Tryd.inf67
            go_wp2_with (go_at_call 38; refine HC.out.mono ?_; rintro _ w2 ⟨rfl, hb2⟩; have hs2 := hb2.size; have hsW := HS1.out; have HB2 := Lib.hid (lb_below HB1.out hb2 (by omega)); have HN2 := Lib.hid (lb_below HN1.out hb2 (by omega)); have HO2 := Lib.hid (own_below HO1.out hb2); have HL2 := Lib.hid (HL1.out.trans (Lone.of hb2 (by omega))); have g0 := lb_at HN2.out 0 rfl; have g1 := lb_at HN2.out 1 rfl; have g2 := lb_at HN2.out 2 rfl; have g3 := lb_at HN2.out 3 rfl; have d2 := lb_at HB2.out 2 rfl; have d2' : ∀ o, (w2.alloc o).cell? ⟨r, 2, none⟩ = some v := lb_past HB2.out 2 rfl; simp only [List.getElem_toArray, List.getElem_cons_zero, List.getElem_cons_succ] at g0 g1 g2 g3 d2)
            go_region_law ((refine step_append_lies _ (by rfl) (.tmp 69) (.tmp 71) 34 (by rfl) w.heap.size 67 i0 _ 4 32 Tryd.und34 hi0 hz1 hz2 hz3 rfl (by decide) v k (rowC (cF s) k) (by rfl) (HO2.out.alloc _) ⟨w2.heap.size, 0, none⟩ 1 1 [.int .i64 f0, .int .i64 f1, .int .i64 f2, .int .i64 f3] (by rfl) (by rfl) (cells_new _ _ _ _ (by simp)) (by intro u hu; simp at hu; rcases hu with rfl | rfl | rfl | rfl <;> rfl) (by decide) (by unfold maxLen; omega) (by omega) (by simp; omega) _ rfl ?_; intro g c w3 hown3 hgrow hat hlt3; obtain ⟨hh3, hs3, hb3⟩ := app_keep HO2.out (((Below.refl _ _).alloc (Nat.le_refl _) _).drew) (by omega) hgrow; have hlo3 := Lone.app HL2.out HO2.out (Nat.le_refl _) hr (((Below.refl _ _).alloc (Nat.le_refl _) _).drew) (by omega) hgrow; have hblk3 := (hh3 r (by omega) (fun h => by have := (HO2.out.lt _ h).1; omega)).trans HB2.out; have d3 := lb_at hblk3 2 rfl; have q3 := lb_f hblk3 2; simp only [List.getElem_toArray, List.getElem_cons_zero, List.getElem_cons_succ] at d3))
            all_goals
              rename_i Q' K hK
              refine hK _ _ ?_
              clear hK
              clear K
              have hblk4 := lb_set hblk3 2 (.slice (some ⟨g, 0, none⟩) (k + 1) c)
              have c41 : (w3.setCell ⟨r, 2, none⟩ (.slice (some ⟨g, 0, none⟩) (k + 1) c)).cell? ⟨r, 1, none⟩ = some (.int .i64 (8 + 6 * (k : Int))) := by
                have := lb_at hblk4 1 rfl
                simpa using this
              have q41 := lb_f hblk4 1
              go_wp2_with fail
              go_roundw
              case rel =>
                refine ⟨k + 1, .slice (some ⟨g, 0, none⟩) (k + 1) c, by omega, by go_num, HNX.out, ?_, ?_, (hlo3.set 2 _).set 1 _⟩
                · have e : ((8 + 6 * (k + 1) : Nat) : Int) = 8 + 6 * (k : Int) + 6 := by omega
                  unfold rdB
                  rw [e]
                  exact lb_set hblk4 1 _
                · have e : rowC (cF s) (k + 1) = rowC (cF s) k ++ [.int .i64 f0, .int .i64 f1, .int .i64 f2, .int .i64 f3] := by rw [← ECF.out]; rfl
                  rw [e]
                  exact ownsRow_setCell_below (a := ⟨r, 1, none⟩) (ownsRow_setCell_below (a := ⟨r, 2, none⟩) hown3 hr _) hr _
              case measure => simp [intOf]; omega
          · have HNX : Hid (R = some k) := by
              have h := HBAD.out
              rw [show F - k = (F - (k + 1)) + 1 by omega, bad, if_neg (by rw [HRW.out, decide_eq_false hll]; simp)] at h
              exact h.symm
            have hdl : decide ((L : Int) ≤ (f0 : Int)) = true := by simp; omega
            clear hfl HFO
            go_wp2_with (go_at_call 38; refine HC.out.mono ?_; rintro _ w2 ⟨rfl, hb2⟩; have hs2 := hb2.size; have hsW := HS1.out; have HN2 := Lib.hid (lb_below HN1.out hb2 (by omega)); have g0 := lb_at HN2.out 0 rfl; simp only [List.getElem_toArray, List.getElem_cons_zero, List.getElem_cons_succ] at g0)
            go_ret
            exact ⟨k, v, lb_below HB1.out hb2 (by omega), HL1.out.trans (Lone.of hb2 (by omega)), .inl ⟨rfl, HNX.out⟩⟩
        · have hff : flB k f0 f1 f2 f3 (r0 s (k - 1)) = false := by simpa using hfl
          have HC := Lib.hid (HFO.out false hff)
          have HNX : Hid (R = some k) := by
            have h := HBAD.out
            rw [show F - k = (F - (k + 1)) + 1 by omega, bad, if_neg (by rw [HRW.out, hff]; simp)] at h
            exact h.symm
          clear hfl hff HFO
          go_wp2_with (go_at_call 38; refine HC.out.mono ?_; rintro _ w2 ⟨rfl, hb2⟩; have hs2 := hb2.size; have hsW := HS1.out)
          go_ret
          exact ⟨k, v, lb_below HB1.out hb2 (by omega), HL1.out.trans (Lone.of hb2 (by omega)), .inl ⟨rfl, HNX.out⟩⟩
    · rw [show k = F by omega] at hown hbad hblk
      rw [Nat.sub_self, bad] at hbad
      have HNX : Hid (R = none) := hbad.symm
      have HOW : Hid (wr.ownsRow w.heap.size 67 4 v F (rowC (cF s) F)) := hown
      have HB : Hid (wr.heap[r]? = some (rdB s (8 + 6 * F) v nilS nilS)) := hblk
      clear hbad hown hblk hlone
      go_wp2_with fail
      go_ret
      exact ⟨F, v, HB.out, HLO.out, .inr ⟨rfl, HNX.out, rfl, HOW.out⟩⟩
end Go.Proofs.YtmkdoejpgkgpbaaDoor
