/- WALKS: the code's Text. -/
import Derived.Test.YtmkdoejpgkgpbaaDoorLiJ
import Derived.Test.YtmkdoejpgkgpbaaDoorLiM
set_option linter.unusedVariables false
set_option linter.unusedSimpArgs false
namespace Go.Proofs.YtmkdoejpgkgpbaaDoor
open Go.RowKit Li

theorem cN_len (s : ByteArray) : ∀ i, (cN s i).length = 1 := fun _ => rfl
theorem cL_len (s : ByteArray) : ∀ i, (cL s i).length = 5 := fun _ => rfl
theorem add_lit {w0 W : World} {u : Value} {l nm : List UInt8} {ns : List Int} {nb ob B : Nat} {oo : Array Value} {oe : TypeId} (hown : W.ownsRow (B + 1) 5 1 u l.length (bC l)) (hB : B + 1 ≤ W.heap.size) (hnb : W.heap[nb]? = some (.cells (ns.map (Value.int .i64)).toArray 3 (0, 0))) (hob : W.heap[ob]? = some (.cells oo oe (0, 0))) (hoe : 5 ≠ oe) (hlaid : Laid B w0) (hbw : Below B w0 W) (hnm : nm.length ≤ 4) (hns : ns.length ≤ 4) (hbd : ∀ n ∈ ns, -9223372036854775807 ≤ n ∧ n ≤ 9223372036854775807) (hl : l.length ≤ 1000000000) :
    Calls Tryd.prog 25 #[u, .string ⟨nm.toArray⟩, .slice (some ⟨nb, 0, none⟩) ns.length ns.length] W fun e w' => ∃ a c, e = .returned (.slice (some ⟨a, 0, none⟩) (l ++ lnT nm ns).length c) ∧ w'.ownsRow (B + 1) 5 1 (.slice (some ⟨a, 0, none⟩) (l ++ lnT nm ns).length c) (l ++ lnT nm ns).length (bC (l ++ lnT nm ns)) ∧ Below (B + 1) W w' ∧ w'.heap[ob]? = some (.cells oo oe (0, 0)) := by
  refine (addLine_any hown hB hnb (Nat.le_refl _) hob hoe ((hlaid.on hbw).less (by omega)) hnm hns hbd hl).mono ?_
  rintro e w' ⟨v', rfl, h1, h2, h3⟩
  obtain ⟨a, c, rfl, _⟩ := or_shape h1 (by simp [lnT]; omega)
  exact ⟨a, c, rfl, h1, h2, h3⟩
theorem own_empty {w : World} {b B : Nat} {e : TypeId} (h : w.heap[b]? = some (.cells #[] e (0, 0))) (hB : B ≤ b) : w.ownsRow B e 1 (.slice (some ⟨b, 0, none⟩) 0 0) 0 [] :=
  ⟨rfl, .inr ⟨b, 0, #[], rfl, hB, h, Nat.le_refl _, by simp, by simp, by simp⟩⟩
set_option maxRecDepth 100000 in
set_option maxHeartbeats 1600000 in
theorem ctext_any {s : ByteArray} {w : World} {B : Nat} {vF vN vL : Value} (h : res s = none) (hcd : CdAt s w B vF vN vL) (hlaid : Laid w.heap.size w) :
    Calls Tryd.prog 13 #[.agg #[vF, vN, vL]] w fun e w' => e = .returned (.string ⟨(txt s).toArray⟩) ∧ Below w.heap.size w w' := by
  have HK : Hid (∀ j, j < hN s → -4611686018427387904 ≤ kn s j ∧ kn s j ≤ 4611686018427387903) := fun j hj => kn_bd h hj
  have HLT : Hid (∀ k, k ≤ hF s → (rowC (fT s) k).length ≤ 65536 * 100) := fun k hk => by
    have := rowC_le (f := fT s) (c := 100) k (fun i _ => fT_len s i)
    have h2 : hF s < 65536 := n2_lt _ _
    omega
  have HKT : Hid (∀ k, k ≤ hN s → (rowC (kT s) k).length ≤ 65536 * 100) := fun k hk => by
    have := rowC_le (f := kT s) (c := 100) k (fun i hi => kT_len (HK.out i (by omega)))
    have h2 : hN s < 65536 := n2_lt _ _
    omega
  have HLL : Hid (∀ k, k ≤ hL s → (rowC (lT s) k).length ≤ 65536 * 100) := fun k hk => by
    have := rowC_le (f := lT s) (c := 100) k (fun i _ => lT_len s i)
    have h2 : hL s < 65536 := n2_lt _ _
    omega
  clear h
  have HLA := Lib.hid hlaid
  have hFl : hF s < 65536 := n2_lt _ _
  have hNl : hN s < 65536 := n2_lt _ _
  have hLl : hL s < 65536 := n2_lt _ _
  obtain ⟨T, hT⟩ : ∃ T, txt s = T := ⟨_, rfl⟩
  have ET : Hid (rowC (fT s) (hF s) ++ rowC (kT s) (hN s) ++ rowC (lT s) (hL s) = T) := hT
  rw [hT]
  have HOF := Lib.hid hcd.funs
  have HON := Lib.hid hcd.nums
  have HOL := Lib.hid hcd.lines
  clear hT hcd hlaid
  generalize hF s = F at *
  generalize hN s = N at *
  generalize hL s = L at *
  obtain ⟨aF, cFc, rfl⟩ := or_slice HOF.out
  obtain ⟨aN, cNc, rfl⟩ := or_slice HON.out
  obtain ⟨aL, cLc, rfl⟩ := or_slice HOL.out
  go_enter Tryd.func13, Tryd.ntmps13
  go_wp2_with fail
  go_loopw [3, 4] (fun u i wr => ∃ k : Nat, k ≤ F ∧ i = .int .i64 k ∧ (∃ a c, u = .slice (some ⟨a, 0, none⟩) (rowC (fT s) k).length c) ∧ wr.ownsRow (w.heap.size + 1) 5 1 u (rowC (fT s) k).length (bC (rowC (fT s) k)) ∧ wr.heap[w.heap.size]? = some (.cells #[.slice aF F cFc, .slice aN N cNc, .slice aL L cLc] 38 (0, 0)) ∧ Below w.heap.size w wr ∧ w.heap.size + 1 ≤ wr.heap.size) (fun _ i _ => F - (intOf i).toNat)
  case atStart =>
    refine ⟨0, by omega, rfl, ⟨_, _, rfl⟩, own_empty (lb_new' (by simp)) (by omega), lb_second rfl, ((Below.refl _ _).alloc (Nat.le_refl _) _).alloc (by rw [World.size_alloc]; omega) _, by rw [World.size_alloc, World.size_alloc]; omega⟩
  case round =>
    obtain ⟨k, hk, rfl, ⟨ua, uc, rfl⟩, hown, hbox, hbw, hsw⟩ := hrel
    have HOW := Lib.hid hown
    have HBX := Lib.hid hbox
    have d0 := lb_at hbox 0 rfl
    simp only [List.getElem_toArray, List.getElem_cons_zero, List.getElem_cons_succ] at d0
    obtain ⟨o1, ho1⟩ : ∃ o, rowC (fT s) k = o := ⟨_, rfl⟩
    have hol : o1.length ≤ 65536 * 100 := by rw [← ho1]; exact HLT.out k hk
    have EO : Hid (rowC (fT s) k = o1) := ho1
    rw [ho1] at HOW ⊢
    clear hown hbox
    by_cases hlt : k < F
    · obtain ⟨g, cap, hsl, hg1, hg2, hg3, hg4⟩ := or_shape HOF.out (by omega)
      injection hsl with e1 e2 e3
      subst e1 e3
      have hcell : ∀ o v, o < 4 → (cF s k)[o]? = some v → wr.cell? ⟨g, k * 4 + o, none⟩ = some v := fun o v ho hv => by
        rw [hbw.cell (p := ⟨g, k * 4 + o, none⟩) hg2, HOF.out.cellAt (k * 4 + o) (by omega)]
        exact (rowC_at (cF_len s) ho F hlt).trans hv
      have e0 : wr.cell? ⟨g, k * 4, none⟩ = some (.int .i64 (r0 s k)) := hcell 0 _ (by omega) rfl
      have e1 := hcell 1 _ (by omega) rfl
      have e2 := hcell 2 _ (by omega) rfl
      have e3 := hcell 3 _ (by omega) rfl
      have EN : Hid (rowC (fT s) (k + 1) = o1 ++ fT s k) := by show _ = _; rw [← EO.out]; rfl
      have CT : Hid (∀ (W : World) (nb ob : Nat) (oo : Array Value) (oe : TypeId), W.ownsRow (w.heap.size + 1) 5 1 (.slice (some ⟨ua, 0, none⟩) o1.length uc) o1.length (bC o1) → w.heap.size + 1 ≤ W.heap.size → W.heap[nb]? = some (.cells #[.int .i64 (r0 s k), .int .i64 (r1 s k), .int .i64 (r2 s k), .int .i64 (r3 s k)] 3 (0, 0)) → W.heap[ob]? = some (.cells oo oe (0, 0)) → 5 ≠ oe → Below w.heap.size w W → Calls Tryd.prog 25 #[.slice (some ⟨ua, 0, none⟩) o1.length uc, .string ⟨#[102]⟩, .slice (some ⟨nb, 0, none⟩) 4 4] W fun e w' => ∃ a c, e = .returned (.slice (some ⟨a, 0, none⟩) (o1 ++ fT s k).length c) ∧ w'.ownsRow (w.heap.size + 1) 5 1 (.slice (some ⟨a, 0, none⟩) (o1 ++ fT s k).length c) (o1 ++ fT s k).length (bC (o1 ++ fT s k)) ∧ Below (w.heap.size + 1) W w' ∧ w'.heap[ob]? = some (.cells oo oe (0, 0))) := fun W nb ob oo oe h1 h2 h3 h4 h5 h6 => add_lit (nm := [102]) (ns := [(r0 s k : Int), (r1 s k : Int), (r2 s k : Int), (r3 s k : Int)]) h1 h2 h3 h4 h5 HLA.out h6 (by simp) (by simp) (bd4 (n2_lt _ _) (bt_lt2 _ _) (bt_lt2 _ _) (n2_lt _ _)) (by omega)
      generalize (r0 s k : Int) = q0 at *
      generalize (r1 s k : Int) = q1 at *
      generalize (r2 s k : Int) = q2 at *
      generalize (r3 s k : Int) = q3 at *
      generalize fT s k = fx at *
      obtain ⟨M1, hM1⟩ : ∃ M, o1.length = M := ⟨_, rfl⟩
      obtain ⟨M2, hM2⟩ : ∃ M, (o1 ++ fx).length = M := ⟨_, rfl⟩
      rw [hM1] at HOW CT ⊢
      rw [hM2] at CT
      have EM2 : Hid ((o1 ++ fx).length = M2) := hM2
      have HAL : Hid (∀ o o2 : Obj, Below w.heap.size w ((wr.alloc o).alloc o2)) := fun o o2 => (hbw.alloc (by omega) _).alloc (by rw [World.size_alloc]; omega) _
      have HBA : Hid (∀ o o2 : Obj, ((wr.alloc o).alloc o2).heap[w.heap.size]? = some (.cells #[.slice (some ⟨g, 0, none⟩) F cFc, .slice aN N cNc, .slice aL L cLc] 38 (0, 0))) := fun o o2 => by
        rw [Below.heap_alloc _ _ _ (by rw [World.size_alloc]; omega), Below.heap_alloc _ _ _ (by omega)]; exact HBX.out
      clear hcell ho1 hM1 hM2
      go_wp2_with (go_at_call 25; refine (CT.out _ _ w.heap.size _ _ ((HOW.out.alloc _).alloc _) (by rw [World.size_alloc, World.size_alloc]; omega) (lb_new' (by simp)) (HBA.out _ _) (by decide) (HAL.out _ _)).mono ?_; rintro _ w2 ⟨a2, c2, rfl, ho2, hb2, hx2⟩)
      go_roundw
      case rel =>
        have hs2 := hb2.size
        rw [World.size_alloc, World.size_alloc] at hs2
        refine ⟨k + 1, by omega, by go_num, ⟨a2, c2, by rw [EN.out, EM2.out]⟩, by rw [EN.out, EM2.out]; exact ho2, hx2, (HAL.out _ _).trans (hb2.mono (by omega)), by omega⟩
      case measure => simp [intOf]; omega
    · have hkF : k = F := by omega
      rw [hkF] at EO ⊢
      clear hkF hlt hk ho1
      obtain ⟨W1, hW1⟩ : ∃ W, W = wr := ⟨_, rfl⟩
      subst hW1
      go_wp2_with fail
      go_loopw [3, 6] (fun u i wr => ∃ j : Nat, j ≤ N ∧ i = .int .i64 j ∧ (∃ a c, u = .slice (some ⟨a, 0, none⟩) (o1 ++ rowC (kT s) j).length c) ∧ wr.ownsRow (w.heap.size + 1) 5 1 u (o1 ++ rowC (kT s) j).length (bC (o1 ++ rowC (kT s) j)) ∧ wr.heap[w.heap.size]? = some (.cells #[.slice aF F cFc, .slice aN N cNc, .slice aL L cLc] 38 (0, 0)) ∧ Below w.heap.size w wr ∧ w.heap.size + 1 ≤ wr.heap.size) (fun _ i _ => N - (intOf i).toNat)
      case atStart => exact ⟨0, by omega, rfl, ⟨_, _, by simp [rowC]; exact ⟨rfl, rfl⟩⟩, by simpa [rowC] using HOW.out, HBX.out, hbw, hsw⟩
      case round =>
        obtain ⟨j, hj, rfl, ⟨ua2, uc2, rfl⟩, hown, hbox, hbq, hsq⟩ := hrel
        have HOQ := Lib.hid hown
        have HBQ := Lib.hid hbox
        have d1 := lb_at hbox 1 rfl
        simp only [List.getElem_toArray, List.getElem_cons_zero, List.getElem_cons_succ] at d1
        obtain ⟨o2, ho2⟩ : ∃ o, o1 ++ rowC (kT s) j = o := ⟨_, rfl⟩
        have hol2 : o2.length ≤ 65536 * 200 := by
          rw [← ho2, List.length_append]
          have := HKT.out j hj
          omega
        have EO2 : Hid (o1 ++ rowC (kT s) j = o2) := ho2
        rw [ho2] at HOQ ⊢
        clear hown hbox d0
        by_cases hlt : j < N
        · obtain ⟨g, cap, hsl, hg1, hg2, hg3, hg4⟩ := or_shape HON.out (by omega)
          injection hsl with e1 e2 e3
          subst e1 e3
          have e0 : wr.cell? ⟨g, j, none⟩ = some (.int .i64 (kn s j)) := by
            rw [hbq.cell (p := ⟨g, j, none⟩) hg2, HON.out.cellAt j (by omega)]
            have := rowC_at (cN_len s) (i := j) (o := 0) (by omega) N hlt
            rw [Nat.mul_one, Nat.add_zero] at this
            exact this
          have EN : Hid (o1 ++ rowC (kT s) (j + 1) = o2 ++ kT s j) := by show _ = _; rw [← EO2.out, List.append_assoc]; rfl
          have CT : Hid (∀ (W : World) (nb ob : Nat) (oo : Array Value) (oe : TypeId), W.ownsRow (w.heap.size + 1) 5 1 (.slice (some ⟨ua2, 0, none⟩) o2.length uc2) o2.length (bC o2) → w.heap.size + 1 ≤ W.heap.size → W.heap[nb]? = some (.cells #[.int .i64 (kn s j)] 3 (0, 0)) → W.heap[ob]? = some (.cells oo oe (0, 0)) → 5 ≠ oe → Below w.heap.size w W → Calls Tryd.prog 25 #[.slice (some ⟨ua2, 0, none⟩) o2.length uc2, .string ⟨#[107]⟩, .slice (some ⟨nb, 0, none⟩) 1 1] W fun e w' => ∃ a c, e = .returned (.slice (some ⟨a, 0, none⟩) (o2 ++ kT s j).length c) ∧ w'.ownsRow (w.heap.size + 1) 5 1 (.slice (some ⟨a, 0, none⟩) (o2 ++ kT s j).length c) (o2 ++ kT s j).length (bC (o2 ++ kT s j)) ∧ Below (w.heap.size + 1) W w' ∧ w'.heap[ob]? = some (.cells oo oe (0, 0))) := fun W nb ob oo oe h1 h2 h3 h4 h5 h6 => add_lit (nm := [107]) (ns := [kn s j]) h1 h2 h3 h4 h5 HLA.out h6 (by simp) (by simp) (bd1 (HK.out j hlt)) (by omega)
          generalize kn s j = q0 at *
          generalize kT s j = fx at *
          obtain ⟨M1, hM1⟩ : ∃ M, o2.length = M := ⟨_, rfl⟩
          obtain ⟨M2, hM2⟩ : ∃ M, (o2 ++ fx).length = M := ⟨_, rfl⟩
          rw [hM1] at HOQ CT ⊢
          rw [hM2] at CT
          have EM2 : Hid ((o2 ++ fx).length = M2) := hM2
          have HAL : Hid (∀ o : Obj, Below w.heap.size w (wr.alloc o)) := fun o => hbq.alloc (by omega) _
          have HBA : Hid (∀ o : Obj, (wr.alloc o).heap[w.heap.size]? = some (.cells #[.slice aF F cFc, .slice (some ⟨g, 0, none⟩) N cNc, .slice aL L cLc] 38 (0, 0))) := fun o => by
            rw [Below.heap_alloc _ _ _ (by omega)]; exact HBQ.out
          clear ho2 hM1 hM2
          go_wp2_with (go_at_call 25; refine (CT.out _ _ w.heap.size _ _ (HOQ.out.alloc _) (by rw [World.size_alloc]; omega) (lb_new' (by simp)) (HBA.out _) (by decide) (HAL.out _)).mono ?_; rintro _ w2 ⟨a2, c2, rfl, ho3, hb2, hx2⟩)
          go_roundw
          case rel =>
            have hs2 := hb2.size
            rw [World.size_alloc] at hs2
            refine ⟨j + 1, by omega, by go_num, ⟨a2, c2, by rw [EN.out, EM2.out]⟩, by rw [EN.out, EM2.out]; exact ho3, hx2, (HAL.out _).trans (hb2.mono (by omega)), by omega⟩
          case measure => simp [intOf]; omega
        · have hjN : j = N := by omega
          rw [hjN] at EO2 ⊢
          clear hjN hlt hj ho2
          obtain ⟨W2, hW2⟩ : ∃ W, W = wr := ⟨_, rfl⟩
          subst hW2
          go_wp2_with fail
          go_loopw [3, 7] (fun u i wr => ∃ m : Nat, m ≤ L ∧ i = .int .i64 m ∧ (∃ a c, u = .slice (some ⟨a, 0, none⟩) (o2 ++ rowC (lT s) m).length c) ∧ wr.ownsRow (w.heap.size + 1) 5 1 u (o2 ++ rowC (lT s) m).length (bC (o2 ++ rowC (lT s) m)) ∧ wr.heap[w.heap.size]? = some (.cells #[.slice aF F cFc, .slice aN N cNc, .slice aL L cLc] 38 (0, 0)) ∧ Below w.heap.size w wr ∧ w.heap.size + 1 ≤ wr.heap.size) (fun _ i _ => L - (intOf i).toNat)
          case atStart => exact ⟨0, by omega, rfl, ⟨_, _, by simp [rowC]; exact ⟨rfl, rfl⟩⟩, by simpa [rowC] using HOQ.out, HBQ.out, hbq, hsq⟩
          case round =>
            obtain ⟨m, hm, rfl, ⟨ua3, uc3, rfl⟩, hown, hbox, hbz, hsz⟩ := hrel
            have HOZ := Lib.hid hown
            have HBZ := Lib.hid hbox
            have d2 := lb_at hbox 2 rfl
            simp only [List.getElem_toArray, List.getElem_cons_zero, List.getElem_cons_succ] at d2
            obtain ⟨o3, ho3⟩ : ∃ o, o2 ++ rowC (lT s) m = o := ⟨_, rfl⟩
            have hol3 : o3.length ≤ 65536 * 300 := by
              rw [← ho3, List.length_append]
              have := HLL.out m hm
              omega
            have EO3 : Hid (o2 ++ rowC (lT s) m = o3) := ho3
            rw [ho3] at HOZ ⊢
            clear hown hbox d1
            by_cases hlt : m < L
            · obtain ⟨g, cap, hsl, hg1, hg2, hg3, hg4⟩ := or_shape HOL.out (by omega)
              injection hsl with e1 e2 e3
              subst e1 e3
              have hcell : ∀ o v, o < 5 → (cL s m)[o]? = some v → wr.cell? ⟨g, m * 5 + o, none⟩ = some v := fun o v ho hv => by
                rw [hbz.cell (p := ⟨g, m * 5 + o, none⟩) hg2, HOL.out.cellAt (m * 5 + o) (by omega)]
                exact (rowC_at (cL_len s) ho L hlt).trans hv
              have e0 : wr.cell? ⟨g, m * 5, none⟩ = some (.int .i64 (l0 s m)) := hcell 0 _ (by omega) rfl
              have e1 := hcell 1 _ (by omega) rfl
              have e2 := hcell 2 _ (by omega) rfl
              have e3 := hcell 3 _ (by omega) rfl
              have e4 := hcell 4 _ (by omega) rfl
              have EN : Hid (o2 ++ rowC (lT s) (m + 1) = o3 ++ lT s m) := by show _ = _; rw [← EO3.out, List.append_assoc]; rfl
              have CN : Hid (∀ W : World, Below w.heap.size w W → Calls Tryd.prog 26 #[.int .i64 (l0 s m)] W fun e w' => e = .returned (.string ⟨(nmO (l0 s m)).toArray⟩) ∧ w' = W) := fun W hW => nameOf_any (bt_lt _ _) (HLA.out.on hW)
              have CT : Hid (∀ (W : World) (nb ob : Nat) (oo : Array Value) (oe : TypeId), W.ownsRow (w.heap.size + 1) 5 1 (.slice (some ⟨ua3, 0, none⟩) o3.length uc3) o3.length (bC o3) → w.heap.size + 1 ≤ W.heap.size → W.heap[nb]? = some (.cells #[.int .i64 (l1 s m), .int .i64 (l2 s m), .int .i64 (l3 s m), .int .i64 (l4 s m)] 3 (0, 0)) → W.heap[ob]? = some (.cells oo oe (0, 0)) → 5 ≠ oe → Below w.heap.size w W → Calls Tryd.prog 25 #[.slice (some ⟨ua3, 0, none⟩) o3.length uc3, .string ⟨(nmO (l0 s m)).toArray⟩, .slice (some ⟨nb, 0, none⟩) 4 4] W fun e w' => ∃ a c, e = .returned (.slice (some ⟨a, 0, none⟩) (o3 ++ lT s m).length c) ∧ w'.ownsRow (w.heap.size + 1) 5 1 (.slice (some ⟨a, 0, none⟩) (o3 ++ lT s m).length c) (o3 ++ lT s m).length (bC (o3 ++ lT s m)) ∧ Below (w.heap.size + 1) W w' ∧ w'.heap[ob]? = some (.cells oo oe (0, 0))) := fun W nb ob oo oe h1 h2 h3 h4 h5 h6 => add_lit (nm := nmO (l0 s m)) (ns := [(l1 s m : Int), (l2 s m : Int), (l3 s m : Int), (l4 s m : Int)]) h1 h2 h3 h4 h5 HLA.out h6 (nmO_len _) (by simp) (bd4 (bt_lt2 _ _) (n2_lt _ _) (n2_lt _ _) (n2_lt _ _)) (by omega)
              generalize nmO (l0 s m) = nq at *
              generalize (l0 s m : Int) = q0 at *
              generalize (l1 s m : Int) = q1 at *
              generalize (l2 s m : Int) = q2 at *
              generalize (l3 s m : Int) = q3 at *
              generalize (l4 s m : Int) = q4 at *
              generalize lT s m = fx at *
              obtain ⟨M1, hM1⟩ : ∃ M, o3.length = M := ⟨_, rfl⟩
              obtain ⟨M2, hM2⟩ : ∃ M, (o3 ++ fx).length = M := ⟨_, rfl⟩
              rw [hM1] at HOZ CT ⊢
              rw [hM2] at CT
              have EM2 : Hid ((o3 ++ fx).length = M2) := hM2
              clear hcell ho3 hM1 hM2
              go_wp2_with fail
              have hnew := lb_new wr (.cells #[.int .i64 q0, .int .i64 q1, .int .i64 q2, .int .i64 q3, .int .i64 q4] 70)
              have hsz1 : w.heap.size + 1 ≤ (wr.alloc (.cells #[.int .i64 q0, .int .i64 q1, .int .i64 q2, .int .i64 q3, .int .i64 q4] 70)).heap.size := by rw [World.size_alloc]; omega
              have HBW : Hid (Below w.heap.size w (wr.alloc (.cells #[.int .i64 q0, .int .i64 q1, .int .i64 q2, .int .i64 q3, .int .i64 q4] 70))) := hbz.alloc (by omega) _
              have HOX : Hid ((wr.alloc (.cells #[.int .i64 q0, .int .i64 q1, .int .i64 q2, .int .i64 q3, .int .i64 q4] 70)).ownsRow (w.heap.size + 1) 5 1 (.slice (some ⟨ua3, 0, none⟩) M1 uc3) M1 (bC o3)) := HOZ.out.alloc _
              have HBY : Hid ((wr.alloc (.cells #[.int .i64 q0, .int .i64 q1, .int .i64 q2, .int .i64 q3, .int .i64 q4] 70)).heap[w.heap.size]? = some (.cells #[.slice aF F cFc, .slice aN N cNc, .slice (some ⟨g, 0, none⟩) L cLc] 38 (0, 0))) := by
                show (wr.alloc _).heap[w.heap.size]? = _
                rw [Below.heap_alloc _ _ _ (by omega)]; exact HBZ.out
              generalize wr.alloc (.cells #[.int .i64 q0, .int .i64 q1, .int .i64 q2, .int .i64 q3, .int .i64 q4] 70) = W at *
              have HNW := Lib.hid hnew
              have g0 := lb_at hnew 0 rfl
              have g1 := lb_at hnew 1 rfl
              have g2 := lb_at hnew 2 rfl
              have g3 := lb_at hnew 3 rfl
              have g4 := lb_at hnew 4 rfl
              simp only [List.getElem_toArray, List.getElem_cons_zero, List.getElem_cons_succ] at g0 g1 g2 g3 g4
              have n0 := World.new_ne W ⟨wr.heap.size, 0, none⟩ g0
              have n1 := World.new_ne W ⟨wr.heap.size, 1, none⟩ g1
              have n2 := World.new_ne W ⟨wr.heap.size, 2, none⟩ g2
              have n3 := World.new_ne W ⟨wr.heap.size, 3, none⟩ g3
              have n4 := World.new_ne W ⟨wr.heap.size, 4, none⟩ g4
              have hlw := lt_of_block hnew
              have HAL : Hid (∀ o : Obj, Below w.heap.size w (W.alloc o)) := fun o => HBW.out.alloc (by omega) _
              have HNA : Hid (∀ o : Obj, (W.alloc o).heap[wr.heap.size]? = some (.cells #[.int .i64 q0, .int .i64 q1, .int .i64 q2, .int .i64 q3, .int .i64 q4] 70)) := fun o => by
                rw [Below.heap_alloc _ _ _ hlw]; exact HNW.out
              have HBN : Hid (∀ o : Obj, (W.alloc o).heap[w.heap.size]? = some (.cells #[.slice aF F cFc, .slice aN N cNc, .slice (some ⟨g, 0, none⟩) L cLc] 38 (0, 0))) := fun o => by
                rw [Below.heap_alloc _ _ _ (by omega)]; exact HBY.out
              clear hnew e0 e1 e2 e3 e4 d2
              go_region_held3 (fun w' => w'.cell? ⟨wr.heap.size, 0, none⟩ = some (.int .i64 q0) ∧ w'.cell? ⟨wr.heap.size, 1, none⟩ = some (.int .i64 q1) ∧ w'.cell? ⟨wr.heap.size, 2, none⟩ = some (.int .i64 q2) ∧ w'.cell? ⟨wr.heap.size, 3, none⟩ = some (.int .i64 q3) ∧ w'.cell? ⟨wr.heap.size, 4, none⟩ = some (.int .i64 q4)) (first | go_keep | exact ⟨lb_at hx2 0 rfl, lb_at hx2 1 rfl, lb_at hx2 2 rfl, lb_at hx2 3 rfl, lb_at hx2 4 rfl⟩) (first
                | (go_at_call 26; refine (CN.out _ (by first | exact HBW.out.drew | exact (HAL.out _).drew)).mono ?_; rintro _ w1 ⟨rfl, hw1⟩; have hw2 := hw1.symm; subst hw2)
                | (go_at_call 25; refine (CT.out _ W.heap.size wr.heap.size _ _ (by exact (HOX.out.alloc _).drew) (by show w.heap.size + 1 ≤ (W.alloc _).heap.size; rw [World.size_alloc]; omega) (by exact lb_new W _) (by exact HNA.out _) (by decide) (by exact (HAL.out _).drew)).mono ?_; rintro _ w2 ⟨a2, c2, rfl, ho4, hb2, hx2⟩))
              all_goals
                go_wp2_with fail
                go_roundw
                case rel =>
                  have hs2 := hb2.size
                  have hs3 : w.heap.size + 1 ≤ (W.alloc (.cells #[.int .i64 q1, .int .i64 q2, .int .i64 q3, .int .i64 q4] 3)).heap.size := by rw [World.size_alloc]; omega
                  refine ⟨m + 1, by omega, by go_num, ⟨a2, c2, by rw [EN.out, EM2.out]⟩, by rw [EN.out, EM2.out]; exact ho4, (hb2.block w.heap.size (by omega)).trans (HBN.out _), ((HAL.out _).drew).trans (hb2.mono (by omega)), Nat.le_trans hs3 hs2⟩
                case measure => simp [intOf]; omega
            · have hmL : m = L := by omega
              rw [hmL] at EO3 ⊢
              clear hmL hlt hm ho3
              obtain ⟨M1, hM1⟩ : ∃ M, o3.length = M := ⟨_, rfl⟩
              rw [hM1] at HOZ ⊢
              have EM1 : Hid (o3.length = M1) := hM1
              have HCE : Hid (∀ j (hj : j < o3.length), wr.cell? ((⟨ua3, 0, none⟩ : Addr).add j) = some (.int .u8 (o3[j].toNat : Int))) := fun j hj => HOZ.out.cells (g := ua3) rfl j _ (by simp [bC, hj])
              clear hM1
              go_wp2_with (refine wpList_string_of _ rfl (.tmp 74) 65 9 5 rfl o3 _ _ _ rfl EM1.out Tryd.underlying65 Tryd.underlying5 Tryd.underlying9 HCE.out ?_)
              go_ret
              refine ⟨?_, hbz⟩
              have : T = o3 := by rw [← ET.out, EO.out, EO2.out, EO3.out]
              rw [this]
              rfl
end Go.Proofs.YtmkdoejpgkgpbaaDoor
