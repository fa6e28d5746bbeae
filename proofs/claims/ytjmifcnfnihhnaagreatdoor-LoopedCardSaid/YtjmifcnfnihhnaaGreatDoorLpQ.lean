/- LOOPED: walked. -/
import Derived.Test.YtjmifcnfnihhnaaGreatDoorZeS
set_option linter.unusedVariables false
set_option linter.unusedSimpArgs false
namespace Go.Proofs.YtjmifcnfnihhnaaGreatDoor
namespace Lo
open Go.RowKit Lr
theorem rowB (w : World) (l : List Value) (o : Obj) (e : TypeId) (j : Nat) (u : Value) (hj : l[j]? = some u) : ((w.alloc (.cells l.toArray e)).alloc o).cell? ⟨w.heap.size, j, none⟩ = some u :=
  (((Below.refl (w.alloc (.cells l.toArray e)).heap.size _).alloc (Nat.le_refl _) o).cell (p := ⟨w.heap.size, j, none⟩) (by rw [World.size_alloc]; exact Nat.lt_succ_self _)).trans (rowA w l e j u hj)
theorem rowC (w : World) (l : List Value) (o : Obj) (e : TypeId) (j : Nat) (u : Value) (hj : l[j]? = some u) : ((w.alloc o).alloc (.cells l.toArray e)).cell? ⟨w.heap.size + 1, j, none⟩ = some u := by
  have := rowA (w.alloc o) l e j u hj
  rw [World.size_alloc] at this
  exact this
theorem wv_w1 (s : Int) : Sn.wv (wrap64 s) = Sn.wv s := by unfold Sn.wv wrap64; omega
theorem r12_of {n : Nat} {src : ByteArray} {vin : Value} {W : World} (h : ∃ v out rd, RunIs src vin 2 1 W (if n ≤ 16 then 0 else 34) (if n ≤ 16 then 0 else 31) v out rd ∧ (n ≤ 16 → out.length = n)) : ∃ e q v out rd, RunIs src vin 2 1 W e q v out rd ∧ ((n ≤ 16 ∧ e = 0 ∧ q = 0 ∧ out.length = n) ∨ (16 < n ∧ e = 34 ∧ q = 31)) := by
  obtain ⟨v, out, rd, h1, h2⟩ := h
  refine ⟨_, _, v, out, rd, h1, ?_⟩
  by_cases hn : n ≤ 16
  · rw [if_pos hn, if_pos hn]; exact .inl ⟨hn, rfl, rfl, h2 hn⟩
  · rw [if_neg hn, if_neg hn]; exact .inr ⟨by omega, rfl, rfl⟩
theorem td_in {a k : Int} (ha : Sn.I5 a) (hk : 2 ≤ k) : Sn.I5 (a.tdiv k) := by
  have h : (a.tdiv k).natAbs = a.natAbs / k.natAbs := Int.natAbs_tdiv a k
  have h1 : a.natAbs / k.natAbs ≤ a.natAbs / 2 := Nat.div_le_div_left (by omega) (by omega)
  omega
theorem tm_in {a : Int} : Sn.I5 (a.tmod 5) := by
  have h1 := Int.lt_tmod_of_pos a (b := 5) (by omega)
  have h2 := Int.tmod_lt_of_pos a (b := 5) (by omega)
  omega
theorem r14_of {src : ByteArray} {vin : Value} {w : World} {a q : Int} (ha : Sn.I5 a) (h : Ran src vin 0 1 w 0 0 (Sn.wv (q - Sn.wv (Int.tmod (Sn.wv (Int.tdiv (Sn.wv (Int.tdiv a 3)) 2)) 5))) [] 2) : Ran src vin 0 1 w 0 0 (Sn.wv (q - ((a.tdiv 3).tdiv 2).tmod 5)) [] 2 := by
  have h3 := td_in ha (k := 3) (by omega)
  rw [wv_id h3, wv_id (td_in h3 (by omega)), wv_id tm_in] at h
  exact h
theorem wv14 {a : Int} (ha : Sn.I5 a) (q : Int) : Sn.wv (wrap64 (q - (wrap64 ((a.tdiv 3).tdiv 2)).tmod 5)) = Sn.wv (q - ((a.tdiv 3).tdiv 2).tmod 5) := by
  have h := td_in (td_in ha (k := 3) (by omega)) (k := 2) (by omega)
  rw [wv_w1, show wrap64 ((a.tdiv 3).tdiv 2) = (a.tdiv 3).tdiv 2 by unfold wrap64; omega]
theorem two_at {l : List Int} {j : Nat} {z : Int} (h : l[j]? = some z) : (l.map fun z => Value.int .i64 z)[j]? = some (.int .i64 z) := by rw [List.getElem?_map, h]; rfl
set_option maxRecDepth 100000 in
set_option maxHeartbeats 4000000 in
theorem looped_w {w : World} {x y z : Int} (hx : Sn.I6 x) (hy : Sn.I6 y) (hz : Sn.I6 z) {a b : Int} {n : Nat} {I : Nat → Int} (hI0 : I 0 = a) (hIs : ∀ j, I (j + 1) = Sn.wv (I j * 3 + b)) (hA : Sn.wv x = a) (hB : Sn.wv y = b) (hN : Sn.pk z 30 = n) (hn : n < 30) (h2 : 2 ≤ w.heap.size) {L M P Q : Int} (hL : Sn.wv (a - b) = L) (hM7 : Sn.wv (L - 7) = M) (hP : Sn.wv (a * b) = P) (hQ : Sn.wv (M + P) = Q)
    (g1 : Ran ⟨(sr1 a b 0 n).toArray⟩ (.slice none 0 0) 2 1 w 0 0 ((n * (n + 1) / 2 : Nat) : Int) [] 0)
    (g2 : Ran ⟨(sr2 a b 0 n).toArray⟩ (.slice none 0 0) 2 (n + 1) w 0 0 ((n * (n + 1) / 2 : Nat) : Int) [] 0)
    (g3 : ∀ W k, Below w.heap.size w W → 2 ≤ k → k < W.heap.size → W.cell? ⟨k, 0, none⟩ = some (.int .i64 x) → W.cell? ⟨k, 1, none⟩ = some (.int .i64 y) → Ran ⟨(sr3 a b 0 n).toArray⟩ (.slice (some ⟨k, 0, none⟩) 2 2) 32 2 W 0 0 L [] 2)
    (g4 : ∀ W k, Below w.heap.size w W → 2 ≤ k → k < W.heap.size → W.cell? ⟨k, 0, none⟩ = some (.int .i64 x) → Ran ⟨(sr4 a b 0 n).toArray⟩ (.slice (some ⟨k, 0, none⟩) 1 1) 40 2 W 0 0 (Sn.wv (Sn.wv (a * 3 - b) * 3 - a)) [] 1)
    (g5 : ∀ W k, Below w.heap.size w W → 2 ≤ k → k < W.heap.size → W.cell? ⟨k, 0, none⟩ = some (.int .i64 y) → W.cell? ⟨k, 1, none⟩ = some (.int .i64 x) → Ran ⟨(sr5 a b 0 n).toArray⟩ (.slice (some ⟨k, 0, none⟩) 2 2) 40 2 W 0 0 (I n) [] 2)
    (g6 : ∀ W, Below w.heap.size w W → RunNo ⟨(sr6 a b 0 n).toArray⟩ (.slice none 0 0) 0 1 W)
    (g7 : Ran ⟨(sr7 a b 0 n).toArray⟩ (.slice none 0 0) 2 1 w 0 0 (trn n) [] 0)
    (g8 : Ran ⟨(sr8 a b 0 n).toArray⟩ (.slice none 0 0) 0 1 w 0 0 (Sn.wv (b - a)) [a, b] 0)
    (g9 : ∀ W k, Below w.heap.size w W → 2 ≤ k → k < W.heap.size → W.cell? ⟨k, 0, none⟩ = some (.int .i64 x) → W.cell? ⟨k, 1, none⟩ = some (.int .i64 y) → Ran ⟨(sr9 a b 0 n).toArray⟩ (.slice (some ⟨k, 0, none⟩) 2 2) 40 2 W 0 0 L [0, 1, 2] 2)
    (g10 : Ran ⟨(sr10 a b 0 n).toArray⟩ (.slice none 0 0) 20 1 w 0 0 78 [1, 2, 3, 4, 5, 6, 7, 8, 9] 0)
    (g11 : ∀ W k, Below w.heap.size w W → 2 ≤ k → k < W.heap.size → W.cell? ⟨k, 0, none⟩ = some (.int .i64 x) → RunIs ⟨(sr11 a b 0 n).toArray⟩ (.slice (some ⟨k, 0, none⟩) 1 1) 0 1 W 33 5 0 [] 1)
    (g12 : ∀ W, Below w.heap.size w W → ∃ e q v out rd, RunIs ⟨(sr12 a b 0 n).toArray⟩ (.slice none 0 0) 2 1 W e q v out rd ∧ ((n ≤ 16 ∧ e = 0 ∧ q = 0 ∧ out.length = n) ∨ (16 < n ∧ e = 34 ∧ q = 31)))
    (g13 : Ran ⟨(sr13 a b 0 n).toArray⟩ (.slice none 0 0) 0 1 w 0 0 L [] 0)
    (g14 : ∀ W k, Below w.heap.size w W → 2 ≤ k → k < W.heap.size → W.cell? ⟨k, 0, none⟩ = some (.int .i64 x) → W.cell? ⟨k, 1, none⟩ = some (.int .i64 y) → Ran ⟨(sr14 a b 0 n).toArray⟩ (.slice (some ⟨k, 0, none⟩) 2 2) 0 1 W 0 0 (Sn.wv (Q - ((a.tdiv 3).tdiv 2).tmod 5)) [] 2)
    (gc : ∀ W, Below w.heap.size w W → Yes 12 #[.int .i64 a, .int .i64 b, .int .i64 z] W) :
    Yes 4 #[.int .i64 x, .int .i64 y, .int .i64 z] w := by
  unfold Yes
  have HI0 := Lib.hid hI0
  have HIs := Lib.hid hIs
  clear hI0 hIs
  have ha : Sn.I5 a := by rw [← hA]; exact wv_in x
  have hb : Sn.I5 b := by rw [← hB]; exact wv_in y
  have CX := Lib.hid (Sn.wrap_w x)
  have CY := Lib.hid (Sn.wrap_w y)
  have CP := Lib.hid (Sn.pick_w hz (n := 30) (by omega) (by omega))
  have CN := Lib.hid (Sn.digits_w (n := n) (by omega))
  have CA := Lib.hid (Sn.said_w ha)
  have CB := Lib.hid (Sn.said_w hb)
  have CL := Lib.hid (Sn.wrap_w (a - b))
  have CM := Lib.hid (Sn.wrap_w (b - a))
  have CM7 := Lib.hid (Sn.wrap_w (L - 7))
  have CPr := Lib.hid (Sn.wrap_w (wrap64 (a * b)))
  have CQ := Lib.hid (Sn.wrap_w (M + P))
  rw [hL] at CL
  rw [hM7] at CM7
  rw [wv_w1, hP] at CPr
  rw [hQ] at CQ
  have hLi : Sn.I5 L := by rw [← hL]; exact wv_in _
  have hMi : Sn.I5 M := by rw [← hM7]; exact wv_in _
  have hPi : Sn.I5 P := by rw [← hP]; exact wv_in _
  have hQi : Sn.I5 Q := by rw [← hQ]; exact wv_in _
  clear hL hM7 hP hQ
  rw [hA] at CX
  rw [hB] at CY
  rw [hN] at CP
  have S1 := Lib.hid (str1 a b 0 n)
  have S2 := Lib.hid (str2 a b 0 n)
  have S3 := Lib.hid (str3 a b 0 n)
  have S4 := Lib.hid (str4 a b 0 n)
  have S5 := Lib.hid (str5 a b 0 n)
  have S6 := Lib.hid (str6 a b 0 n)
  have S7 := Lib.hid (str7 a b 0 n)
  have S8 := Lib.hid (str8 a b 0 n)
  have S9 := Lib.hid (str9 a b 0 n)
  have S10 := Lib.hid (str10 a b 0 n)
  have S11 := Lib.hid (str11 a b 0 n)
  have S12 := Lib.hid (str12 a b 0 n)
  have S13 := Lib.hid (str13 a b 0 n)
  have S14 := Lib.hid (str14 a b 0 n)
  have lN := (Sn.decL_len 19 n (by omega) (by omega)).2
  have lA := said_le ha
  have lB := said_le hb
  rw [← lit_size] at lN lA lB
  generalize (⟨(Sn.decL n).toArray⟩ : ByteArray) = sn at CN S1 S2 S3 S5 S7 S12 lN
  generalize (⟨(Sn.saidS a).toArray⟩ : ByteArray) = sa at CA lA S4 S8 S13
  generalize (⟨(Sn.saidS b).toArray⟩ : ByteArray) = sb at CB lB S4 S8 S13
  have G1 := Lib.hid g1
  have G2 := Lib.hid g2
  have G3 := Lib.hid g3
  have G4 := Lib.hid g4
  have G5 := Lib.hid g5
  have G6 := Lib.hid g6
  have G7 := Lib.hid g7
  have G8 := Lib.hid g8
  have G9 := Lib.hid g9
  have G10 := Lib.hid g10
  have G11 := Lib.hid g11
  have G12 := Lib.hid g12
  have G13 := Lib.hid g13
  have G14 := Lib.hid g14
  have GC := Lib.hid gc
  have CT := Lib.hid (turned_w hn)
  have hT : ((n : Int) * ((n : Int) + 1)).tdiv 2 = ((n * (n + 1) / 2 : Nat) : Int) := by
    rw [show (n : Int) * ((n : Int) + 1) = ((n * (n + 1) : Nat) : Int) by push_cast; rfl]
    rfl
  have hM : (n : Int) * ((n : Int) + 1) ≤ 1000 := by
    have : n * (n + 1) ≤ 29 * 30 := Nat.mul_le_mul (by omega) (by omega)
    have : ((n * (n + 1) : Nat) : Int) ≤ 870 := by omega
    push_cast at this
    omega
  have hM0 : 0 ≤ (n : Int) * ((n : Int) + 1) := Int.mul_nonneg (by omega) (by omega)
  clear g1 g2 g3 g4 g5 g6 g7 g8 g9 g10 g11 g12 g13 g14 gc hA hB hN
  have HB0 := Lib.hid (Below.refl w.heap.size w)
  go_enter Tryz.func4, Tryz.ntmps4
  go_upto_region 2 with (go_at_call 5; refine (CX.out _).mono ?_; rintro e w1 ⟨rfl, rfl⟩)
  go_upto_region 3 with (go_at_call 5; refine (CY.out _).mono ?_; rintro e w1 ⟨rfl, rfl⟩)
  go_upto_region 4 with (go_at_call 6; refine (CP.out _).mono ?_; rintro e w1 ⟨rfl, rfl⟩)
  go_upto_region 5 with (go_at_call 7; refine (CN.out _).mono ?_; rintro e w2 ⟨rfl, hb2⟩)
  have HB2 := Lib.hid (HB0.out.trans (hb2.mono HB0.out.size))
  clear hb2
  go_upto_region 6 with (go_at_call 8; refine (CA.out _).mono ?_; rintro e w3 ⟨rfl, hb3⟩)
  have HB3 := Lib.hid (HB2.out.trans (hb3.mono HB2.out.size))
  clear hb3
  go_upto_region 7 with (go_at_call 8; refine (CB.out _).mono ?_; rintro e w4 ⟨rfl, hb4⟩)
  have HB4 := Lib.hid (HB3.out.trans (hb4.mono HB3.out.size))
  clear hb4
  go_upto_region 8 with (fail)
  go_upto_region 9 with (go_at_call 5; refine (CL.out _).mono ?_; rintro e w5 ⟨rfl, rfl⟩)
  go_upto_region 10 with (go_at_call 5; refine (CM.out _).mono ?_; rintro e w5 ⟨rfl, rfl⟩)
  go_upto_region 13 with (go_at_call 9; rw [S1.out]; refine (answers_e (G1.out.on HB4.out)).mono ?_; rintro e w6 ⟨rfl, hb6⟩)
  have HB6 := Lib.hid (HB4.out.trans (hb6.mono HB4.out.size))
  clear hb6
  go_upto_region 16 with (go_at_call 9; rw [S2.out]; refine (answers_e (G2.out.on HB6.out)).mono ?_; rintro e w7 ⟨rfl, hb7⟩)
  have HB7 := Lib.hid (HB6.out.trans (hb7.mono HB6.out.size))
  clear hb7
  have A7 := HB7.out.alloc HB7.out.size (.cells #[.int .i64 x, .int .i64 y] 3)
  have HA7 := Lib.hid A7
  clear A7
  go_upto_region 19 with (go_at_call 9; rw [S3.out]; refine (answers_e (G3.out _ w7.heap.size HA7.out (by have := HB7.out.size; omega) (by rw [World.size_alloc]; omega) (rowA w7 [.int .i64 x, .int .i64 y] _ 0 _ rfl) (rowA w7 [.int .i64 x, .int .i64 y] _ 1 _ rfl))).mono ?_; rintro e w8 ⟨rfl, hb8⟩)
  have HB8 := Lib.hid (HA7.out.trans (hb8.mono HA7.out.size))
  clear hb8 HA7
  go_upto_region 20 with (go_at_call 5; refine (Sn.wrap_w _ _).mono ?_; rintro e w9 ⟨rfl, rfl⟩)
  rw [wv_w2]
  go_upto_region 21 with (go_at_call 5; refine (Sn.wrap_w _ _).mono ?_; rintro e w9 ⟨rfl, rfl⟩)
  rw [wv_w2]
  have A9 := HB8.out.alloc HB8.out.size (.cells #[.int .i64 x] 3)
  have HA9 := Lib.hid A9
  clear A9
  go_upto_region 24 with (go_at_call 9; rw [S4.out]; refine (answers_e (G4.out _ w9.heap.size HA9.out (by have := HB8.out.size; omega) (by rw [World.size_alloc]; omega) (rowA w9 [.int .i64 x] _ 0 _ rfl))).mono ?_; rintro e w10 ⟨rfl, hb10⟩)
  have HB10 := Lib.hid (HA9.out.trans (hb10.mono HA9.out.size))
  clear hb10 HA9
  go_upto_region 25 with (fail)
  go_wp2_with fail
  go_loopg [18, 19] n (fun gh v u (wr : World) => ∃ j : Nat, j ≤ n ∧ gh = n - j ∧ v = .int .i64 (I j) ∧ u = .int .i64 (j : Nat) ∧ wr = w10)
  case atStart => exact ⟨0, Nat.zero_le _, rfl, by rw [HI0.out], rfl, rfl⟩
  case round =>
    obtain ⟨j, hj, hgk, rfl, rfl, rfl⟩ := hrel
    rcases Nat.lt_or_ge j n with hjd | hjd
    · have g1 : (j : Int) < (n : Int) := by omega
      go_wp2_with (go_at_call 5; refine (Sn.wrap_w _ _).mono ?_; rintro e w11 ⟨rfl, rfl⟩)
      go_roundg (n - (j + 1))
      case measure => omega
      case rel => exact ⟨j + 1, by omega, rfl, by rw [wv_w3, HIs.out], by go_num, rfl⟩
    · have g1 : ¬ (j : Int) < (n : Int) := by omega
      have hjn : j = n := by omega
      subst hjn
      go_wp2_with fail
      have A10 := HB10.out.alloc HB10.out.size (.cells #[.int .i64 y, .int .i64 x] 3)
      have HA10 := Lib.hid A10
      clear A10
      go_upto_region 32 with (go_at_call 9; rw [S5.out]; refine (answers_e (G5.out _ _ HA10.out (by have := HB10.out.size; omega) (by rw [World.size_alloc]; omega) (rowA _ [.int .i64 y, .int .i64 x] _ 0 _ rfl) (rowA _ [.int .i64 y, .int .i64 x] _ 1 _ rfl))).mono ?_; rintro e w12 ⟨rfl, hb12⟩)
      have HB12 := Lib.hid (HA10.out.trans (hb12.mono HA10.out.size))
      clear hb12 HA10
      go_upto_region 35 with (go_at_call 9; rw [S6.out]; refine (answers_no (fun W hW => G6.out W (HB12.out.trans (hW.mono HB12.out.size)))).mono ?_; rintro e w13 ⟨rfl, hb13⟩)
      have HB13 := Lib.hid (HB12.out.trans (hb13.mono HB12.out.size))
      clear hb13
      go_upto_region 36 with (go_at_call 10; refine (CT.out _).mono ?_; rintro e w14 ⟨rfl, rfl⟩)
      go_upto_region 39 with (go_at_call 9; rw [S7.out]; refine (answers_e (G7.out.on HB13.out)).mono ?_; rintro e w15 ⟨rfl, hb15⟩)
      have HB15 := Lib.hid (HB13.out.trans (hb15.mono HB13.out.size))
      clear hb15
      have A15 := HB15.out.alloc HB15.out.size (.cells #[.int .i64 a, .int .i64 b] 3)
      have HA15 := Lib.hid A15
      clear A15
      go_upto_region 42 with (go_at_call 9; rw [S8.out]; refine (answers_o (out := [a, b]) (by show 0 < 2; omega) (by show 2 ≤ 1000; omega) rfl (by rw [World.size_alloc]; omega) (G8.out.on HA15.out) (fun j z hz => rowA _ [.int .i64 a, .int .i64 b] _ j _ (two_at hz))).mono ?_; rintro e w16 ⟨rfl, hb16⟩)
      have HB16 := Lib.hid (HA15.out.trans (hb16.mono HA15.out.size))
      clear hb16 HA15
      have A16 := (HB16.out.alloc HB16.out.size (.cells #[.int .i64 x, .int .i64 y] 3))
      have A17 := A16.alloc A16.size (.cells #[.int .i64 0, .int .i64 1, .int .i64 2] 3)
      have HA17 := Lib.hid A17
      clear A16 A17
      go_upto_region 45 with (go_at_call 9; rw [S9.out]; refine (answers_o (out := [0, 1, 2]) (by show 0 < 3; omega) (by show 3 ≤ 1000; omega) rfl (by rw [World.size_alloc, World.size_alloc]; omega) (G9.out _ w16.heap.size HA17.out (by have := HB16.out.size; omega) (by rw [World.size_alloc, World.size_alloc]; omega) (rowB w16 [.int .i64 x, .int .i64 y] _ _ 0 _ rfl) (rowB w16 [.int .i64 x, .int .i64 y] _ _ 1 _ rfl)) (fun j z hz => rowC w16 [.int .i64 0, .int .i64 1, .int .i64 2] _ _ j _ (two_at hz))).mono ?_; rintro e w18 ⟨rfl, hb18⟩)
      have HB18 := Lib.hid (HA17.out.trans (hb18.mono HA17.out.size))
      clear hb18 HA17
      have A18 := HB18.out.alloc HB18.out.size (.cells #[.int .i64 1, .int .i64 2, .int .i64 3, .int .i64 4, .int .i64 5, .int .i64 6, .int .i64 7, .int .i64 8, .int .i64 9] 3)
      have HA18 := Lib.hid A18
      clear A18
      go_upto_region 48 with (go_at_call 9; rw [S10.out]; refine (answers_o (out := [1, 2, 3, 4, 5, 6, 7, 8, 9]) (by show 0 < 9; omega) (by show 9 ≤ 1000; omega) rfl (by rw [World.size_alloc]; omega) (G10.out.on HA18.out) (fun j z hz => rowA _ [.int .i64 1, .int .i64 2, .int .i64 3, .int .i64 4, .int .i64 5, .int .i64 6, .int .i64 7, .int .i64 8, .int .i64 9] _ j _ (two_at hz))).mono ?_; rintro e w19 ⟨rfl, hb19⟩)
      have HB19 := Lib.hid (HA18.out.trans (hb19.mono HA18.out.size))
      clear hb19 HA18
      have A19 := HB19.out.alloc HB19.out.size (.cells #[.int .i64 x] 3)
      have HA19 := Lib.hid A19
      clear A19
      go_upto_region 49 with (go_at_call 11; rw [S11.out]; refine (G11.out _ w19.heap.size HA19.out (by have := HB19.out.size; omega) (by rw [World.size_alloc]; omega) (rowA w19 [.int .i64 x] _ 0 _ rfl)).mono ?_; rintro e w20 ⟨ra, rc, st, gc, us, rfl, hcell, hb20⟩; clear hcell)
      have HB20 := Lib.hid (HA19.out.trans (hb20.mono HA19.out.size))
      clear hb20 HA19
      have B20 := HB20.out.alloc HB20.out.size (.cells #[.int .i64 33, .int .i64 5, .int .i64 0, .slice ra 0 rc, .int .i64 st, .int .i64 1, .int .i64 gc, .int .i64 us] 30)
      have HC20 := Lib.hid B20
      have BK := Lib.hid (blk_last w20 #[.int .i64 33, .int .i64 5, .int .i64 0, .slice ra 0 rc, .int .i64 st, .int .i64 1, .int .i64 gc, .int .i64 us] 30)
      clear B20
      generalize hw20 : w20.alloc _ = wb at HC20 BK ⊢
      have hwb : w20.heap.size < wb.heap.size := by rw [← hw20, World.size_alloc]; omega
      have hwl : w1.heap.size ≤ w20.heap.size := HB20.out.size
      obtain ⟨bx, hbx⟩ : ∃ bx, w20.heap.size = bx := ⟨_, rfl⟩
      rw [hbx] at BK hwb hwl ⊢
      clear hw20 hbx
      obtain ⟨⟨k0, k1, k2, k3, k4, k5, k6, k7⟩, ⟨l0, l1, l2, l3, l4, l5, l6, l7⟩⟩ := eight BK.out
      go_upto_region 51 with (fail)
      clear k0 k1 k2 k3 k4 k5 k6 k7 l0 l1 l2 l3 l4 l5 l6 l7
      obtain ⟨er, qr, vr, out, rd, hR12, hE⟩ := G12.out wb HC20.out
      have HR12 := Lib.hid hR12
      have HE := Lib.hid hE
      clear hR12 hE
      go_upto_region 52 with (go_at_call 11; rw [S12.out]; refine HR12.out.mono ?_; rintro e w21 ⟨ra', rc', st', gc', us', rfl, hcell', hb21⟩; clear hcell'; have BK2 := Lib.hid ((hb21.block bx hwb).trans BK.out); obtain ⟨⟨k0, k1, k2, k3, k4, k5, k6, k7⟩, ⟨l0, l1, l2, l3, l4, l5, l6, l7⟩⟩ := eight BK2.out; have HB21 := Lib.hid (HC20.out.trans (hb21.mono HC20.out.size)); clear hb21)
      clear k0 k1 k2 k3 k4 k5 k6 k7 l0 l1 l2 l3 l4 l5 l6 l7
      generalize hw22 : World.setCell _ _ _ = w22
      have hw22 : w21.setCells bx 0 (#[.int .i64 er, .int .i64 qr, .int .i64 vr, .slice ra' out.length rc', .int .i64 st', .int .i64 rd, .int .i64 gc', .int .i64 us'] : Array Value).toList = w22 := hw22
      obtain ⟨c1, c2, c3, c4⟩ := st_all (cells := #[.int .i64 er, .int .i64 qr, .int .i64 vr, .slice ra' out.length rc', .int .i64 st', .int .i64 rd, .int .i64 gc', .int .i64 us']) BK2.out rfl
      rw [hw22] at c1 c2 c3 c4
      clear hw22
      obtain ⟨⟨k0, k1, k2, k3, _⟩, _⟩ := eight c1
      have HB22 := Lib.hid (HB21.out.trans (c3.mono hwl))
      clear c1 c2 c3 c4 BK BK2 HR12
      have h16 : (¬ (16 : Int) < (j : Int) ∧ er = 0 ∧ qr = 0 ∧ out.length = j) ∨ ((16 : Int) < (j : Int) ∧ er = 34 ∧ qr = 31 ∧ out.length = out.length) := by
        rcases HE.out with ⟨e1, e2, e3, e4⟩ | ⟨e1, e2, e3⟩
        · exact .inl ⟨by omega, e2, e3, e4⟩
        · exact .inr ⟨by omega, e2, e3, rfl⟩
      clear HE
      rcases h16 with ⟨e1, rfl, rfl, e4⟩ | ⟨e1, rfl, rfl, e4⟩
      all_goals
        rw [e4] at k3
        clear e4
        go_upto_region 55 with (fail)
        clear k0 k1 k2 k3 e1
        go_upto_region 58 with (go_at_call 9; rw [S13.out]; refine (answers_e (G13.out.on HB22.out)).mono ?_; rintro e w23 ⟨rfl, hb23⟩)
        have HB23 := Lib.hid (HB22.out.trans (hb23.mono HB22.out.size))
        clear hb23
        go_upto_region 59 with (go_at_call 5; refine (CL.out _).mono ?_; rintro e w24 ⟨rfl, rfl⟩)
        go_upto_region 60 with (go_at_call 5; refine (CM7.out _).mono ?_; rintro e w24 ⟨rfl, rfl⟩)
        go_upto_region 61 with (go_at_call 5; refine (CPr.out _).mono ?_; rintro e w24 ⟨rfl, rfl⟩)
        go_upto_region 62 with (go_at_call 5; refine (CQ.out _).mono ?_; rintro e w24 ⟨rfl, rfl⟩)
        go_upto_region 63 with (go_at_call 5; refine (Sn.wrap_w _ _).mono ?_; rintro e w24 ⟨rfl, rfl⟩)
        rw [wv14 ha]
        have A24 := HB23.out.alloc HB23.out.size (.cells #[.int .i64 x, .int .i64 y] 3)
        have HA24 := Lib.hid A24
        clear A24
        go_upto_region 66 with (go_at_call 9; rw [S14.out]; refine (answers_e (G14.out _ _ HA24.out (by have := HB23.out.size; omega) (by rw [World.size_alloc]; omega) (rowA _ [.int .i64 x, .int .i64 y] _ 0 _ rfl) (rowA _ [.int .i64 x, .int .i64 y] _ 1 _ rfl))).mono ?_; rintro e w25 ⟨rfl, hb25⟩)
        have HB25 := Lib.hid (HA24.out.trans (hb25.mono HA24.out.size))
        clear hb25 HA24
        go_wp2_with (go_at_call 12; refine (GC.out _ HB25.out).mono ?_; rintro e w26 ⟨rfl, hb26⟩)
        go_ret
        exact ⟨rfl, HB25.out.trans (hb26.mono HB25.out.size)⟩
end Lo
end Go.Proofs.YtjmifcnfnihhnaaGreatDoor
