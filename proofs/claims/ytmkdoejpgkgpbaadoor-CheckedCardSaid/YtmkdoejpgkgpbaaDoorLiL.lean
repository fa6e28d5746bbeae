/- WALKS: the document's List. -/
import Derived.Test.YtmkdoejpgkgpbaaDoorLiD
import Derived.Lib.Hide
set_option linter.unusedVariables false
set_option linter.unusedSimpArgs false
namespace Go.Proofs.YtmkdoejpgkgpbaaDoor
open Go.RowKit Li

theorem bad_none {p : Nat → Bool} : ∀ (n k : Nat), bad p n k = none → ∀ j, k ≤ j → j < k + n → p j = true
  | 0, k, _, j, h1, h2 => by omega
  | n + 1, k, h, j, h1, h2 => by
    unfold bad at h
    by_cases hp : p k = true
    · rw [if_pos hp] at h
      by_cases hj : j = k
      · rw [hj]; exact hp
      · exact bad_none n (k + 1) h j (by omega) (by omega)
    · rw [if_neg hp] at h; cases h
theorem res_none {s : ByteArray} (h : res s = none) : s.size ≤ 600000 ∧ hdB s = true ∧ bad (rowB s) (hF s) 0 = none ∧ bad (numB s) (hN s) 0 = none := by
  unfold res at h
  split at h
  · cases h
  · split at h
    · cases h
    · rename_i h1 h2
      refine ⟨by omega, by simpa using h2, ?_⟩
      split at h
      · cases h
      · rename_i h3
        split at h
        · cases h
        · rename_i h4; exact ⟨h3, h4⟩
theorem res_er {s : ByteArray} {er at' : Nat} (h : res s = some (er, at')) : er = 1 ∨ er = 10 := by
  unfold res at h
  split at h
  · injection h with h; injection h with h _; exact .inl h.symm
  · split at h
    · injection h with h; injection h with h _; exact .inr h.symm
    · split at h
      · injection h with h; injection h with h _; exact .inr h.symm
      · split at h
        · injection h with h; injection h with h _; exact .inr h.symm
        · cases h
theorem kn_bd {s : ByteArray} (h : res s = none) {j : Nat} (hj : j < hN s) : -4611686018427387904 ≤ kn s j ∧ kn s j ≤ 4611686018427387903 := by
  have := bad_none _ _ (res_none h).2.2.2 j (by omega) (by omega)
  unfold numB at this
  simpa using this
theorem rowC_le {α : Type} {f : Nat → List α} {c : Nat} : ∀ n, (∀ i, i < n → (f i).length ≤ c) → (rowC f n).length ≤ n * c
  | 0, _ => by simp [rowC]
  | n + 1, h => by
    have h1 := rowC_le n (fun i hi => h i (by omega))
    have h2 := h n (by omega)
    rw [rowC, List.length_append, Nat.succ_mul]
    omega
theorem lnT_len {nm : List UInt8} {ns : List Int} (hnm : nm.length ≤ 4) (hns : ns.length ≤ 4) (hb : ∀ n ∈ ns, -9223372036854775807 ≤ n ∧ n ≤ 9223372036854775807) : (lnT nm ns).length ≤ 100 := by
  have h := lnI_len nm ns hb
  have : lnT nm ns = lnI nm ns ++ [10] := rfl
  rw [this, List.length_append]
  simp only [List.length_cons, List.length_nil]
  omega
theorem bd4 {a b c d : Nat} (ha : a < 65536) (hb : b < 65536) (hc : c < 65536) (hd : d < 65536) : ∀ n ∈ [(a : Int), (b : Int), (c : Int), (d : Int)], -9223372036854775807 ≤ n ∧ n ≤ 9223372036854775807 := by
  intro n hn
  simp at hn
  rcases hn with rfl | rfl | rfl | rfl <;> omega
theorem bt_lt2 (s : ByteArray) (i : Nat) : bt s i < 65536 := by have := bt_lt s i; omega
theorem fT_len (s : ByteArray) (k : Nat) : (fT s k).length ≤ 100 := lnT_len (by simp) (by simp) (bd4 (n2_lt _ _) (bt_lt2 _ _) (bt_lt2 _ _) (n2_lt _ _))
theorem lT_len (s : ByteArray) (k : Nat) : (lT s k).length ≤ 100 := lnT_len (nmO_len _) (by simp) (bd4 (bt_lt2 _ _) (n2_lt _ _) (n2_lt _ _) (n2_lt _ _))
theorem bd1 {x : Int} (h : -4611686018427387904 ≤ x ∧ x ≤ 4611686018427387903) : ∀ n ∈ [x], -9223372036854775807 ≤ n ∧ n ≤ 9223372036854775807 := by
  intro n hn
  simp at hn
  rw [hn]; omega
theorem kT_len {s : ByteArray} {k : Nat} (h : -4611686018427387904 ≤ kn s k ∧ kn s k ≤ 4611686018427387903) : (kT s k).length ≤ 100 := lnT_len (by simp) (by simp) (bd1 h)
/-- text on a literal of numbers -/
theorem text_lit {nm : List UInt8} {ns : List Int} {b : Nat} {W : World} (hnm : nm.length ≤ 4) (hns : ns.length ≤ 4) (hbd : ∀ n ∈ ns, -9223372036854775807 ≤ n ∧ n ≤ 9223372036854775807) (hb : W.heap[b]? = some (.cells (ns.map (Value.int .i64)).toArray 3 (0, 0))) :
    Calls Tryd.prog 15 #[.string ⟨nm.toArray⟩, .slice (some ⟨b, 0, none⟩) ns.length ns.length] W fun r w' => r = .returned (.string ⟨(lnT nm ns).toArray⟩) ∧ Below W.heap.size W w' :=
  text_any hnm hns (Nat.le_refl _) (lt_of_block hb) hbd (fun i hi => by rw [(cells_of_block' hb i).1]; simp [hi])
theorem lb_new' {w : World} {o : Obj} {b : Nat} (h : b = w.heap.size) : (w.alloc o).heap[b]? = some o := by
  subst h; exact lb_new w o
theorem list_bad {s : ByteArray} {w : World} {er at' : Nat} (hs : s.size ≤ 1073741824) (h : res s = some (er, at')) :
    Calls Tryd.prog 9 #[.string s] w fun e w' => e = .returned (.tuple #[.string ⟨#[]⟩, .int .i64 er, .int .i64 at']) ∧ Below w.heap.size w w' := by
  have HR := Lib.hid (read_bad (w := w) hs h)
  have hne : ((er : Int) != 0) = true := by have := res_er h; simp; omega
  clear h
  go_enter Tryd.func9, Tryd.ntmps9
  go_wp2_with (go_at_call 14; refine HR.out.mono ?_; rintro _ w1 ⟨rfl, hb1⟩)
  go_ret3
  exact ⟨rfl, hb1⟩
set_option maxRecDepth 100000 in
set_option maxHeartbeats 800000 in
theorem list_ok {s : ByteArray} {w : World} (h : res s = none) :
    Calls Tryd.prog 9 #[.string s] w fun e w' => e = .returned (.tuple #[.string ⟨(txt s).toArray⟩, .int .i64 0, .int .i64 0]) ∧ Below w.heap.size w w' := by
  have HR := Lib.hid (read_ok (w := w) h)
  have HK : Hid (∀ j, j < hN s → -4611686018427387904 ≤ kn s j ∧ kn s j ≤ 4611686018427387903) := fun j hj => kn_bd h hj
  have HLT : Hid (∀ k, k ≤ hF s → (rowC (fT s) k).length ≤ 65536 * 100) := fun k hk => by
    have := rowC_le (f := fT s) (c := 100) k (fun i _ => fT_len s i)
    have h2 : hF s < 65536 := n2_lt _ _
    omega
  have HKT : Hid (∀ k, k ≤ hN s → (rowC (kT s) k).length ≤ 65536 * 100) := fun k hk => by
    have := rowC_le (f := kT s) (c := 100) k (fun i hi => kT_len (HK.out i (by omega)))
    have h2 : hN s < 65536 := n2_lt _ _
    omega
  have HLL : Hid (∀ k, k ≤ hL s → (rowC (lT s) k).length ≤ 65536 * 100) := fun k hk => by
    have := rowC_le (f := lT s) (c := 100) k (fun i _ => lT_len s i)
    have h2 : hL s < 65536 := n2_lt _ _
    omega
  clear h
  have hFl : hF s < 65536 := n2_lt _ _
  have hNl : hN s < 65536 := n2_lt _ _
  have hLl : hL s < 65536 := n2_lt _ _
  obtain ⟨T, hT⟩ : ∃ T, txt s = T := ⟨_, rfl⟩
  have ET : Hid (rowC (fT s) (hF s) ++ rowC (kT s) (hN s) ++ rowC (lT s) (hL s) = T) := hT
  rw [hT]
  clear hT
  have HFU : Hid (∀ w1 p vF vN vL, RdAt s w1 p vF vN vL → w1.ownsRow (p + 1) 50 5 vF (hF s) (rowC (dF s (hF s)) (hF s)) ∧ w1.ownsRow (p + 1) 3 1 vN (hN s) (rowC (dN s) (hN s)) ∧ w1.ownsRow (p + 1) 53 5 vL (hL s) (rowC (dL s) (hL s))) := fun _ _ _ _ _ h => ⟨h.funs, h.nums, h.lines⟩
  generalize hF s = F at *
  generalize hN s = N at *
  generalize hL s = L at *
  go_enter Tryd.func9, Tryd.ntmps9
  go_wp2_with (go_at_call 14; refine HR.out.mono ?_; rintro _ w1 ⟨p, vF, vN, vL, rfl, hp, hat, hb1⟩; obtain ⟨hoF, hoN, hoL⟩ := HFU.out _ _ _ _ _ hat; have HOF := Lib.hid hoF; have HON := Lib.hid hoN; have HOL := Lib.hid hoL; have HBK := Lib.hid hat.blk; have hp1 := lt_of_block hat.blk; have hs1 := hb1.size; have HB1 := Lib.hid hb1; clear hoF hoN hoL hat hb1; refine Hid.out ?_)
  refine Lib.hid ?_
  obtain ⟨aF, cF, rfl⟩ := or_slice HOF.out
  obtain ⟨aN, cN, rfl⟩ := or_slice HON.out
  obtain ⟨aL, cL, rfl⟩ := or_slice HOL.out
  have c0 : ∀ W, Below w1.heap.size w1 W → W.cell? ⟨p, 0, none⟩ = some (.slice aF F cF) := fun W hW => lb_at (lb_below HBK.out hW hp1) 0 rfl
  have c1 : ∀ W, Below w1.heap.size w1 W → W.cell? ⟨p, 1, none⟩ = some (.slice aN N cN) := fun W hW => lb_at (lb_below HBK.out hW hp1) 1 rfl
  have c2 : ∀ W, Below w1.heap.size w1 W → W.cell? ⟨p, 2, none⟩ = some (.slice aL L cL) := fun W hW => lb_at (lb_below HBK.out hW hp1) 2 rfl
  have C0 := Lib.hid c0
  have C1 := Lib.hid c1
  have C2 := Lib.hid c2
  clear c0 c1 c2
  go_wp2_with fail
  go_loopw [8, 9] (fun o i wr => ∃ k : Nat, k ≤ F ∧ i = .int .i64 k ∧ o = .string ⟨(rowC (fT s) k).toArray⟩ ∧ Below w1.heap.size w1 wr) (fun _ i _ => F - (intOf i).toNat)
  case atStart => exact ⟨0, by omega, rfl, rfl, Below.refl _ _⟩
  case round =>
    obtain ⟨k, hk, rfl, rfl, hbw⟩ := hrel
    have hsw := hbw.size
    have d0 := C0.out wr hbw
    obtain ⟨o1, ho1⟩ : ∃ o, rowC (fT s) k = o := ⟨_, rfl⟩
    have hol : o1.length ≤ 65536 * 100 := by rw [← ho1]; exact HLT.out k hk
    have EO : Hid (rowC (fT s) k = o1) := ho1
    rw [ho1]
    by_cases hlt : k < F
    · obtain ⟨g, cap, hsl, hg1, hg2, hg3, hg4⟩ := or_shape HOF.out (by omega)
      injection hsl with e1 e2 e3
      subst e1 e3
      have hcell : ∀ o v, o < 5 → (dF s F k)[o]? = some v → wr.cell? ⟨g, k * 5 + o, none⟩ = some v := fun o v ho hv => by
        rw [hbw.cell (p := ⟨g, k * 5 + o, none⟩) hg2, HOF.out.cellAt (k * 5 + o) (by omega)]
        exact (rowC_at (dF_len s F) ho F hlt).trans hv
      have e0 : wr.cell? ⟨g, k * 5, none⟩ = some (.int .i64 (r0 s k)) := hcell 0 _ (by omega) rfl
      have e1 := hcell 1 _ (by omega) rfl
      have e2 := hcell 2 _ (by omega) rfl
      have e3 := hcell 3 _ (by omega) rfl
      have e4 := hcell 4 _ (by omega) rfl
      have CT : Hid (∀ (W : World) b, W.heap[b]? = some (.cells #[.int .i64 (r0 s k), .int .i64 (r1 s k), .int .i64 (r2 s k), .int .i64 (r3 s k)] 3 (0, 0)) → Calls Tryd.prog 15 #[.string ⟨#[102]⟩, .slice (some ⟨b, 0, none⟩) 4 4] W fun r w' => r = .returned (.string ⟨(fT s k).toArray⟩) ∧ Below W.heap.size W w') := fun W b hb => text_lit (nm := [102]) (ns := [(r0 s k : Int), (r1 s k : Int), (r2 s k : Int), (r3 s k : Int)]) (by simp) (by simp) (bd4 (n2_lt _ _) (bt_lt2 _ _) (bt_lt2 _ _) (n2_lt _ _)) hb
      have hfl := fT_len s k
      have EN : Hid (rowC (fT s) (k + 1) = o1 ++ fT s k) := by show _ = _; rw [← EO.out]; rfl
      generalize (r0 s k : Int) = q0 at *
      generalize (r1 s k : Int) = q1 at *
      generalize (r2 s k : Int) = q2 at *
      generalize (r3 s k : Int) = q3 at *
      generalize fT s k = fx at *
      clear hcell ho1
      go_wp2_with (go_at_call 15; refine (CT.out _ _ (lb_new' (by simp))).mono ?_; rintro _ w2 ⟨rfl, hb2⟩)
      go_roundw
      case rel =>
        refine ⟨k + 1, by omega, by go_num, by rw [EN.out, ← bs_app], ?_⟩
        exact ((hbw.alloc hsw _).alloc (by rw [World.size_alloc]; omega) _).trans (hb2.mono (by rw [World.size_alloc, World.size_alloc]; omega))
      case measure => simp [intOf]; omega
    · have hkF : k = F := by omega
      rw [hkF] at EO ⊢
      clear hkF hlt hk ho1
      obtain ⟨W1, hW1⟩ : ∃ W, W = wr := ⟨_, rfl⟩
      subst hW1
      go_wp2_with fail
      go_loopw [8, 12] (fun o i wr => ∃ j : Nat, j ≤ N ∧ i = .int .i64 j ∧ o = .string ⟨(o1 ++ rowC (kT s) j).toArray⟩ ∧ Below w1.heap.size w1 wr) (fun _ i _ => N - (intOf i).toNat)
      case atStart => exact ⟨0, by omega, rfl, by simp [rowC], hbw⟩
      case round =>
        obtain ⟨j, hj, rfl, rfl, hbq⟩ := hrel
        have hsq := hbq.size
        have d1 := C1.out wr hbq
        obtain ⟨o2, ho2⟩ : ∃ o, o1 ++ rowC (kT s) j = o := ⟨_, rfl⟩
        have hol2 : o2.length ≤ 65536 * 200 := by
          rw [← ho2, List.length_append]
          have := HKT.out j hj
          omega
        have EO2 : Hid (o1 ++ rowC (kT s) j = o2) := ho2
        rw [ho2]
        clear d0
        by_cases hlt : j < N
        · obtain ⟨g, cap, hsl, hg1, hg2, hg3, hg4⟩ := or_shape HON.out (by omega)
          injection hsl with e1 e2 e3
          subst e1 e3
          have e0 : wr.cell? ⟨g, j, none⟩ = some (.int .i64 (kn s j)) := by
            rw [hbq.cell (p := ⟨g, j, none⟩) hg2, HON.out.cellAt j (by omega)]
            have := rowC_at (dN_len s) (i := j) (o := 0) (by omega) N hlt
            rw [Nat.mul_one, Nat.add_zero] at this
            exact this
          have CT : Hid (∀ (W : World) b, W.heap[b]? = some (.cells #[.int .i64 (kn s j)] 3 (0, 0)) → Calls Tryd.prog 15 #[.string ⟨#[107]⟩, .slice (some ⟨b, 0, none⟩) 1 1] W fun r w' => r = .returned (.string ⟨(kT s j).toArray⟩) ∧ Below W.heap.size W w') := fun W b hb => text_lit (nm := [107]) (ns := [kn s j]) (by simp) (by simp) (bd1 (HK.out j hlt)) hb
          have hfl := kT_len (HK.out j hlt)
          have EN : Hid (o1 ++ rowC (kT s) (j + 1) = o2 ++ kT s j) := by show _ = _; rw [← EO2.out, List.append_assoc]; rfl
          generalize kn s j = q0 at *
          generalize kT s j = fx at *
          clear ho2
          go_wp2_with (go_at_call 15; refine (CT.out _ _ (lb_new' (by simp))).mono ?_; rintro _ w2 ⟨rfl, hb2⟩)
          go_roundw
          case rel =>
            refine ⟨j + 1, by omega, by go_num, by rw [EN.out, ← bs_app], ?_⟩
            exact (hbq.alloc hsq _).trans (hb2.mono (by rw [World.size_alloc]; omega))
          case measure => simp [intOf]; omega
        · have hjN : j = N := by omega
          rw [hjN] at EO2 ⊢
          clear hjN hlt hj ho2
          obtain ⟨W2, hW2⟩ : ∃ W, W = wr := ⟨_, rfl⟩
          subst hW2
          go_wp2_with fail
          go_loopw [8, 14] (fun o i wr => ∃ m : Nat, m ≤ L ∧ i = .int .i64 m ∧ o = .string ⟨(o2 ++ rowC (lT s) m).toArray⟩ ∧ Below w1.heap.size w1 wr) (fun _ i _ => L - (intOf i).toNat)
          case atStart => exact ⟨0, by omega, rfl, by simp [rowC], hbq⟩
          case round =>
            obtain ⟨m, hm, rfl, rfl, hbz⟩ := hrel
            have hsz := hbz.size
            have d2 := C2.out wr hbz
            obtain ⟨o3, ho3⟩ : ∃ o, o2 ++ rowC (lT s) m = o := ⟨_, rfl⟩
            have hol3 : o3.length ≤ 65536 * 300 := by
              rw [← ho3, List.length_append]
              have := HLL.out m hm
              omega
            have EO3 : Hid (o2 ++ rowC (lT s) m = o3) := ho3
            rw [ho3]
            clear d1
            by_cases hlt : m < L
            · obtain ⟨g, cap, hsl, hg1, hg2, hg3, hg4⟩ := or_shape HOL.out (by omega)
              injection hsl with e1 e2 e3
              subst e1 e3
              have hcell : ∀ o v, o < 5 → (dL s m)[o]? = some v → wr.cell? ⟨g, m * 5 + o, none⟩ = some v := fun o v ho hv => by
                rw [hbz.cell (p := ⟨g, m * 5 + o, none⟩) hg2, HOL.out.cellAt (m * 5 + o) (by omega)]
                exact (rowC_at (dL_len s) ho L hlt).trans hv
              have e0 : wr.cell? ⟨g, m * 5, none⟩ = some (.int .i64 (l0 s m)) := hcell 0 _ (by omega) rfl
              have e1 := hcell 1 _ (by omega) rfl
              have e2 := hcell 2 _ (by omega) rfl
              have e3 := hcell 3 _ (by omega) rfl
              have e4 := hcell 4 _ (by omega) rfl
              have CN : Hid (∀ W : World, Calls Tryd.prog 16 #[.int .i64 (l0 s m)] W fun r w' => r = .returned (.string ⟨(nmO (l0 s m)).toArray⟩) ∧ Below W.heap.size W w') := fun W => name_any _ W (bt_lt _ _)
              have CT : Hid (∀ (W : World) b, W.heap[b]? = some (.cells #[.int .i64 (l1 s m), .int .i64 (l2 s m), .int .i64 (l3 s m), .int .i64 (l4 s m)] 3 (0, 0)) → Calls Tryd.prog 15 #[.string ⟨(nmO (l0 s m)).toArray⟩, .slice (some ⟨b, 0, none⟩) 4 4] W fun r w' => r = .returned (.string ⟨(lT s m).toArray⟩) ∧ Below W.heap.size W w') := fun W b hb => text_lit (nm := nmO (l0 s m)) (ns := [(l1 s m : Int), (l2 s m : Int), (l3 s m : Int), (l4 s m : Int)]) (nmO_len _) (by simp) (bd4 (bt_lt2 _ _) (n2_lt _ _) (n2_lt _ _) (n2_lt _ _)) hb
              have hfl := lT_len s m
              have EN : Hid (o2 ++ rowC (lT s) (m + 1) = o3 ++ lT s m) := by show _ = _; rw [← EO3.out, List.append_assoc]; rfl
              generalize nmO (l0 s m) = nq at *
              generalize (l0 s m : Int) = q0 at *
              generalize (l1 s m : Int) = q1 at *
              generalize (l2 s m : Int) = q2 at *
              generalize (l3 s m : Int) = q3 at *
              generalize (l4 s m : Int) = q4 at *
              generalize lT s m = fx at *
              clear hcell ho3
              go_wp2_with (first
                | (go_at_call 16; refine (CN.out _).mono ?_; rintro _ w2 ⟨rfl, hb2⟩; have hs2 : wr.heap.size ≤ w2.heap.size := (Nat.le_trans (by rw [World.size_alloc]; omega) hb2.size); have hn2 := lb_below (lb_new wr _) hb2 (by rw [World.size_alloc]; omega); have g1 := lb_at hn2 1 rfl; have g2 := lb_at hn2 2 rfl; have g3 := lb_at hn2 3 rfl; have g4 := lb_at hn2 4 rfl; simp only [List.getElem_toArray, List.getElem_cons_zero, List.getElem_cons_succ] at g1 g2 g3 g4)
                | (go_at_call 15; refine (CT.out _ _ (lb_new' (by simp))).mono ?_; rintro _ w3 ⟨rfl, hb3⟩))
              go_roundw
              case rel =>
                refine ⟨m + 1, by omega, by go_num, by rw [EN.out, ← bs_app], ?_⟩
                exact (((hbz.alloc hsz _).trans (hb2.mono (by rw [World.size_alloc]; omega))).alloc (by omega) _).trans (hb3.mono (by rw [World.size_alloc]; omega))
              case measure => simp [intOf]; omega
            · have hmL : m = L := by omega
              rw [hmL] at EO3 ⊢
              clear hmL hlt hm ho3
              go_wp2_with fail
              go_ret3
              refine ⟨?_, HB1.out.trans (hbz.mono hs1)⟩
              have : T = o3 := by rw [← ET.out, EO.out, EO2.out, EO3.out]
              rw [this]
              rfl
end Go.Proofs.YtmkdoejpgkgpbaaDoor
