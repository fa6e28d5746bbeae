import Derived.Test.YtjmifcnfnihhnaaGreatDoorZeG
import Derived.Deep.LoopGhost
import Derived.Test.YtjmifcnfnihhnaaGreatDoorZeI
import Derived.Laws.Strings
import Derived.Lib.Strings
import Derived.Laws.IdiomStrings
/- PLAIN: a code's bytes, and what is read of them. -/
set_option linter.unusedVariables false
set_option linter.unusedSimpArgs false
namespace Go.Proofs.YtjmifcnfnihhnaaGreatDoor
namespace Lo
open Go.RowKit Lr Lr.Li
def byI (n : Int) (i : Nat) : UInt8 := UInt8.ofNat ((n / 2 ^ (8 * i)) % 256).toNat
/-- a number in so many bytes, the high one first -/
def be (n : Int) : Nat → List UInt8
  | 0 => []
  | k + 1 => byI n k :: be n k
theorem be_len (n : Int) : ∀ k, (be n k).length = k
  | 0 => rfl
  | k + 1 => by rw [be, List.length_cons, be_len n k]
theorem byI_nat (n : Int) (i : Nat) : ((byI n i).toNat : Int) = (n / 2 ^ (8 * i)) % 256 := by
  unfold byI
  rw [UInt8.toNat_ofNat']
  have h1 : 0 ≤ (n / 2 ^ (8 * i)) % 256 := Int.emod_nonneg _ (by omega)
  have h2 : (n / 2 ^ (8 * i)) % 256 < 256 := Int.emod_lt_of_pos _ (by omega)
  rw [Nat.mod_eq_of_lt (by show _ < 256; omega)]
  omega
/-- a code: its rows' fields -/
structure Cd where
  nF : Nat
  nC : Nat
  nL : Nat
  f : Nat → Nat → Int
  c : Nat → Int
  l : Nat → Nat → Int
def Cd.eF (d : Cd) (k : Nat) : List UInt8 := be (d.f k 0) 2 ++ (be (d.f k 1) 1 ++ (be (d.f k 2) 1 ++ be (d.f k 3) 2))
def Cd.eC (d : Cd) (k : Nat) : List UInt8 := be (d.c k) 8
def Cd.eL (d : Cd) (k : Nat) : List UInt8 := be (d.l k 0) 1 ++ (be (d.l k 1) 1 ++ (be (d.l k 2) 2 ++ (be (d.l k 3) 2 ++ be (d.l k 4) 2)))
def Cd.hd (d : Cd) : List UInt8 := [109, 108] ++ (be d.nF 2 ++ (be d.nC 2 ++ be d.nL 2))
def Cd.enc (d : Cd) : List UInt8 := d.hd ++ rowC d.eF d.nF ++ rowC d.eC d.nC ++ rowC d.eL d.nL
def Cd.bs (d : Cd) : ByteArray := ⟨d.enc.toArray⟩
structure CdOk (d : Cd) : Prop where
  pF : 0 < d.nF
  lF : d.nF < 65536
  lC : d.nC < 65536
  lL : d.nL < 65536
  sz : 8 + 6 * d.nF + 8 * d.nC + 8 * d.nL ≤ 600000
  f0 : ∀ k, k < d.nF → 0 ≤ d.f k 0 ∧ d.f k 0 < d.nL
  f1 : ∀ k, k < d.nF → 0 ≤ d.f k 1 ∧ d.f k 1 ≤ 4
  f2 : ∀ k, k < d.nF → 0 ≤ d.f k 2 ∧ d.f k 2 ≤ 1
  f3 : ∀ k, k < d.nF → 0 ≤ d.f k 3 ∧ d.f k 3 ≤ 1024
  z : d.f 0 0 = 0 ∧ d.f 0 1 = 0 ∧ d.f 0 2 = 0
  up : ∀ k, k + 1 < d.nF → d.f k 0 < d.f (k + 1) 0
  c : ∀ k, k < d.nC → -4611686018427387904 ≤ d.c k ∧ d.c k ≤ 4611686018427387903
  l0 : ∀ k, k < d.nL → 0 ≤ d.l k 0 ∧ d.l k 0 < 256
  l1 : ∀ k, k < d.nL → 0 ≤ d.l k 1 ∧ d.l k 1 < 256
  l2 : ∀ k, k < d.nL → 0 ≤ d.l k 2 ∧ d.l k 2 < 65536
  l3 : ∀ k, k < d.nL → 0 ≤ d.l k 3 ∧ d.l k 3 < 65536
  l4 : ∀ k, k < d.nL → 0 ≤ d.l k 4 ∧ d.l k 4 < 65536
section
variable {d : Cd}
theorem eF_len (d : Cd) (k : Nat) : (d.eF k).length = 6 := rfl
theorem eC_len (d : Cd) (k : Nat) : (d.eC k).length = 8 := rfl
theorem eL_len (d : Cd) (k : Nat) : (d.eL k).length = 8 := rfl
theorem hd_len (d : Cd) : d.hd.length = 8 := rfl
theorem enc_len (d : Cd) : d.enc.length = 8 + 6 * d.nF + 8 * d.nC + 8 * d.nL := by
  unfold Cd.enc
  rw [List.length_append, List.length_append, List.length_append, hd_len, rowC_len (eF_len d), rowC_len (eC_len d), rowC_len (eL_len d)]
  omega
theorem bs_size (d : Cd) : d.bs.size = 8 + 6 * d.nF + 8 * d.nC + 8 * d.nL := by
  rw [← enc_len]; simp [Cd.bs, ByteArray.size]
theorem bt_enc (d : Cd) (i : Nat) : bt d.bs i = (d.enc.getD i 0).toNat := by
  unfold bt Cd.bs
  simp
theorem at_h {i : Nat} (hi : i < 8) : bt d.bs i = (d.hd.getD i 0).toNat := by
  rw [bt_enc]
  unfold Cd.enc
  simp only [List.getD_eq_getElem?_getD]
  rw [List.getElem?_append_left (by simp only [List.length_append, hd_len]; omega), List.getElem?_append_left (by simp only [List.length_append, hd_len]; omega), List.getElem?_append_left (by rw [hd_len]; exact hi)]
theorem at_f {k o : Nat} (hk : k < d.nF) (ho : o < 6) : bt d.bs (8 + 6 * k + o) = ((d.eF k).getD o 0).toNat := by
  rw [bt_enc]
  unfold Cd.enc
  simp only [List.getD_eq_getElem?_getD]
  have hl := rowC_len (eF_len d) d.nF
  have hkk : k * 6 + 6 ≤ d.nF * 6 := by omega
  rw [List.getElem?_append_left (by simp only [List.length_append, hd_len, hl]; omega), List.getElem?_append_left (by simp only [List.length_append, hd_len, hl]; omega), List.getElem?_append_right (by rw [hd_len]; omega), hd_len, show 8 + 6 * k + o - 8 = k * 6 + o by omega, rowC_at (eF_len d) ho d.nF hk]
theorem at_c {k o : Nat} (hk : k < d.nC) (ho : o < 8) : bt d.bs (8 + 6 * d.nF + 8 * k + o) = ((d.eC k).getD o 0).toNat := by
  rw [bt_enc]
  unfold Cd.enc
  simp only [List.getD_eq_getElem?_getD]
  have hl := rowC_len (eF_len d) d.nF
  have hc := rowC_len (eC_len d) d.nC
  have hkk : k * 8 + 8 ≤ d.nC * 8 := by omega
  rw [List.getElem?_append_left (by simp only [List.length_append, hd_len, hl, hc]; omega), List.getElem?_append_right (by simp only [List.length_append, hd_len, hl]; omega)]
  simp only [List.length_append, hd_len, hl]
  rw [show 8 + 6 * d.nF + 8 * k + o - (8 + d.nF * 6) = k * 8 + o by omega, rowC_at (eC_len d) ho d.nC hk]
theorem at_l {k o : Nat} (hk : k < d.nL) (ho : o < 8) : bt d.bs (8 + 6 * d.nF + 8 * d.nC + 8 * k + o) = ((d.eL k).getD o 0).toNat := by
  rw [bt_enc]
  unfold Cd.enc
  simp only [List.getD_eq_getElem?_getD]
  have hl := rowC_len (eF_len d) d.nF
  have hc := rowC_len (eC_len d) d.nC
  rw [List.getElem?_append_right (by simp only [List.length_append, hd_len, hl, hc]; omega)]
  simp only [List.length_append, hd_len, hl, hc]
  rw [show 8 + 6 * d.nF + 8 * d.nC + 8 * k + o - (8 + d.nF * 6 + d.nC * 8) = k * 8 + o by omega, rowC_at (eL_len d) ho d.nL hk]
theorem two_of {x : Int} (h : 0 ≤ x ∧ x < 65536) : (byI x 1).toNat * 256 + (byI x 0).toNat = x.toNat := by
  have h1 := byI_nat x 1
  have h0 := byI_nat x 0
  simp only [Nat.mul_one, Nat.mul_zero, Int.reducePow] at h1 h0
  omega
theorem one_of {x : Int} (h : 0 ≤ x ∧ x < 256) : (byI x 0).toNat = x.toNat := by
  have h0 := byI_nat x 0
  simp only [Nat.mul_zero, Int.reducePow] at h0
  omega
theorem n2_of {s : ByteArray} {p : Nat} {x : Int} (h : 0 ≤ x ∧ x < 65536) (h1 : bt s p = (byI x 1).toNat) (h2 : bt s (p + 1) = (byI x 0).toNat) : n2 s p = x.toNat := by
  unfold n2
  rw [h1, h2, two_of h]
theorem hF_enc (h : CdOk d) : hF d.bs = d.nF := by
  have := n2_of (s := d.bs) (p := 2) (x := d.nF) (by have := h.lF; omega) (at_h (by omega)) (at_h (by omega))
  unfold hF; rw [this]; omega
theorem hN_enc (h : CdOk d) : hN d.bs = d.nC := by
  have := n2_of (s := d.bs) (p := 4) (x := d.nC) (by have := h.lC; omega) (at_h (by omega)) (at_h (by omega))
  unfold hN; rw [this]; omega
theorem hL_enc (h : CdOk d) : hL d.bs = d.nL := by
  have := n2_of (s := d.bs) (p := 6) (x := d.nL) (by have := h.lL; omega) (at_h (by omega)) (at_h (by omega))
  unfold hL; rw [this]; omega
theorem r_enc (h : CdOk d) {k : Nat} (hk : k < d.nF) : (r0 d.bs k : Int) = d.f k 0 ∧ (r1 d.bs k : Int) = d.f k 1 ∧ (r2 d.bs k : Int) = d.f k 2 ∧ (r3 d.bs k : Int) = d.f k 3 := by
  have h0 := h.f0 k hk
  have h1 := h.f1 k hk
  have h2 := h.f2 k hk
  have h3 := h.f3 k hk
  have hl := h.lL
  refine ⟨?_, ?_, ?_, ?_⟩
  · have := n2_of (s := d.bs) (p := 8 + 6 * k) (x := d.f k 0) (by omega) (at_f (o := 0) hk (by omega)) (at_f (o := 1) hk (by omega))
    unfold r0; rw [this]; omega
  · unfold r1; rw [at_f (o := 2) hk (by omega)]
    have := one_of (x := d.f k 1) (by omega)
    show (((byI (d.f k 1) 0).toNat : Nat) : Int) = _
    omega
  · unfold r2; rw [at_f (o := 3) hk (by omega)]
    have := one_of (x := d.f k 2) (by omega)
    show (((byI (d.f k 2) 0).toNat : Nat) : Int) = _
    omega
  · have := n2_of (s := d.bs) (p := 8 + 6 * k + 4) (x := d.f k 3) (by omega) (at_f (o := 4) hk (by omega)) (at_f (o := 5) hk (by omega))
    unfold r3; rw [this]; omega
theorem l_enc (h : CdOk d) {k : Nat} (hk : k < d.nL) : (l0 d.bs k : Int) = d.l k 0 ∧ (l1 d.bs k : Int) = d.l k 1 ∧ (l2 d.bs k : Int) = d.l k 2 ∧ (l3 d.bs k : Int) = d.l k 3 ∧ (l4 d.bs k : Int) = d.l k 4 := by
  have h0 := h.l0 k hk
  have h1 := h.l1 k hk
  have h2 := h.l2 k hk
  have h3 := h.l3 k hk
  have h4 := h.l4 k hk
  have hp : pL d.bs k = 8 + 6 * d.nF + 8 * d.nC + 8 * k := by unfold pL; rw [hF_enc h, hN_enc h]
  refine ⟨?_, ?_, ?_, ?_, ?_⟩
  · unfold l0; rw [hp, show 8 + 6 * d.nF + 8 * d.nC + 8 * k = 8 + 6 * d.nF + 8 * d.nC + 8 * k + 0 by omega, at_l (o := 0) hk (by omega)]
    have := one_of (x := d.l k 0) (by omega)
    show (((byI (d.l k 0) 0).toNat : Nat) : Int) = _
    omega
  · unfold l1; rw [hp, at_l (o := 1) hk (by omega)]
    have := one_of (x := d.l k 1) (by omega)
    show (((byI (d.l k 1) 0).toNat : Nat) : Int) = _
    omega
  · have := n2_of (s := d.bs) (p := 8 + 6 * d.nF + 8 * d.nC + 8 * k + 2) (x := d.l k 2) (by omega) (at_l (o := 2) hk (by omega)) (at_l (o := 3) hk (by omega))
    unfold l2; rw [hp, this]; omega
  · have := n2_of (s := d.bs) (p := 8 + 6 * d.nF + 8 * d.nC + 8 * k + 4) (x := d.l k 3) (by omega) (at_l (o := 4) hk (by omega)) (at_l (o := 5) hk (by omega))
    unfold l3; rw [hp, this]; omega
  · have := n2_of (s := d.bs) (p := 8 + 6 * d.nF + 8 * d.nC + 8 * k + 6) (x := d.l k 4) (by omega) (at_l (o := 6) hk (by omega)) (at_l (o := 7) hk (by omega))
    unfold l4; rw [hp, this]; omega
theorem nV_be {s : ByteArray} {p : Nat} {n : Int} (hn : -9223372036854775808 ≤ n ∧ n ≤ 9223372036854775807) (h : ∀ o, o < 8 → bt s (p + o) = (byI n (7 - o)).toNat) : nV s p 8 = n := by
  have hb : ∀ o, o < 8 → (bt s (p + o) : Int) = (n / 2 ^ (8 * (7 - o))) % 256 := fun o ho => by rw [h o ho, byI_nat]
  have b0 := hb 0 (by omega)
  have b1 := hb 1 (by omega)
  have b2 := hb 2 (by omega)
  have b3 := hb 3 (by omega)
  have b4 := hb 4 (by omega)
  have b5 := hb 5 (by omega)
  have b6 := hb 6 (by omega)
  have b7 := hb 7 (by omega)
  simp only [Nat.reduceMul, Nat.reduceSub, Int.reducePow, Int.ediv_one] at b0 b1 b2 b3 b4 b5 b6 b7
  have v1 : nV s p 1 = n % 18446744073709551616 / 72057594037927936 := by
    show wrap64 (0 * 256 + _) = _
    rw [b0]; unfold wrap64; omega
  have v2 : nV s p 2 = n % 18446744073709551616 / 281474976710656 := by
    show wrap64 (nV s p 1 * 256 + _) = _
    rw [v1, b1]; unfold wrap64; omega
  have v3 : nV s p 3 = n % 18446744073709551616 / 1099511627776 := by
    show wrap64 (nV s p 2 * 256 + _) = _
    rw [v2, b2]; unfold wrap64; omega
  have v4 : nV s p 4 = n % 18446744073709551616 / 4294967296 := by
    show wrap64 (nV s p 3 * 256 + _) = _
    rw [v3, b3]; unfold wrap64; omega
  have v5 : nV s p 5 = n % 18446744073709551616 / 16777216 := by
    show wrap64 (nV s p 4 * 256 + _) = _
    rw [v4, b4]; unfold wrap64; omega
  have v6 : nV s p 6 = n % 18446744073709551616 / 65536 := by
    show wrap64 (nV s p 5 * 256 + _) = _
    rw [v5, b5]; unfold wrap64; omega
  have v7 : nV s p 7 = n % 18446744073709551616 / 256 := by
    show wrap64 (nV s p 6 * 256 + _) = _
    rw [v6, b6]; unfold wrap64; omega
  show wrap64 (nV s p 7 * 256 + _) = _
  rw [v7, b7]; unfold wrap64; omega
theorem c_enc (h : CdOk d) {k : Nat} (hk : k < d.nC) : kn d.bs k = d.c k := by
  have hc := h.c k hk
  have hp : pN d.bs k = 8 + 6 * d.nF + 8 * k := by unfold pN; rw [hF_enc h]
  unfold kn
  rw [hp]
  refine nV_be (by omega) fun o ho => ?_
  rw [at_c hk ho]
  have ho' : o = 0 ∨ o = 1 ∨ o = 2 ∨ o = 3 ∨ o = 4 ∨ o = 5 ∨ o = 6 ∨ o = 7 := by omega
  rcases ho' with rfl | rfl | rfl | rfl | rfl | rfl | rfl | rfl <;> rfl
theorem bad_of {p : Nat → Bool} : ∀ (n k : Nat), (∀ j, k ≤ j → j < k + n → p j = true) → bad p n k = none
  | 0, k, _ => rfl
  | n + 1, k, h => by
    unfold bad
    rw [if_pos (h k (by omega) (by omega))]
    exact bad_of n (k + 1) fun j h1 h2 => h j (by omega) (by omega)
/-- it is read without fault -/
theorem res_enc (h : CdOk d) : res d.bs = none := by
  have hs := bs_size d
  have h1 := hF_enc h
  have h2 := hN_enc h
  have h3 := hL_enc h
  have hp := h.pF
  have hz := h.sz
  have hml : (d.bs.extract 0 2).toList = [109, 108] := by
    rw [ByteArray.toList_eq, ByteArray.data_extract, Array.toList_extract]
    unfold Cd.bs Cd.enc Cd.hd
    simp [List.extract_eq_take_drop]
  have hd : hdB d.bs = true := hdB_mk (by omega) hml (by rw [h1]; omega) (by rw [h1, h2, h3]; exact hs)
  unfold res
  rw [if_neg (by omega), if_neg (by rw [hd]; decide), h1, h2]
  have e1 : bad (rowB d.bs) d.nF 0 = none := bad_of _ _ fun j _ hj => by
    have hj : j < d.nF := by omega
    obtain ⟨q0, q1, q2, q3⟩ := r_enc h hj
    have g0 := h.f0 j hj
    have g1 := h.f1 j hj
    have g2 := h.f2 j hj
    have g3 := h.f3 j hj
    unfold rowB
    have ra : rowA d.bs j = true := by
      unfold rowA
      rw [decide_eq_true (by omega : r1 d.bs j ≤ 4), decide_eq_true (by omega : r2 d.bs j ≤ 1), decide_eq_true (by omega : r3 d.bs j ≤ 1024)]
      rfl
    have rz : rowZ d.bs j = true := by
      unfold rowZ
      by_cases e : j = 0
      · subst e
        obtain ⟨z0, z1, z2⟩ := h.z
        rw [if_pos rfl, show r0 d.bs 0 = 0 by omega, show r1 d.bs 0 = 0 by omega, show r2 d.bs 0 = 0 by omega]
        rfl
      · rw [if_neg e]
        have hu := h.up (j - 1) (by omega)
        rw [show j - 1 + 1 = j by omega] at hu
        obtain ⟨p0, _⟩ := r_enc h (k := j - 1) (by omega)
        exact decide_eq_true (by omega)
    rw [ra, rz, decide_eq_true (by omega : r0 d.bs j < hL d.bs)]
    rfl
  have e2 : bad (numB d.bs) d.nC 0 = none := bad_of _ _ fun j _ hj => by
    have hj : j < d.nC := by omega
    have g := h.c j hj
    unfold numB
    rw [c_enc h hj, decide_eq_true g.1, decide_eq_true g.2]
    rfl
  rw [e1]
  show (match bad (numB d.bs) d.nC 0 with | some k => some (10, pN d.bs k) | none => none) = none
  rw [e2]
def vF (d : Cd) (k : Nat) : List Value := [.int .i64 (d.f k 0), .int .i64 (d.f k 1), .int .i64 (d.f k 2), .int .i64 (d.f k 3)]
def vC (d : Cd) (k : Nat) : List Value := [.int .i64 (d.c k)]
def vL (d : Cd) (k : Nat) : List Value := [.int .i64 (d.l k 0), .int .i64 (d.l k 1), .int .i64 (d.l k 2), .int .i64 (d.l k 3), .int .i64 (d.l k 4)]
theorem cells_enc (h : CdOk d) : rowC (cF d.bs) (hF d.bs) = rowC (vF d) d.nF ∧ rowC (cN d.bs) (hN d.bs) = rowC (vC d) d.nC ∧ rowC (cL d.bs) (hL d.bs) = rowC (vL d) d.nL := by
  rw [hF_enc h, hN_enc h, hL_enc h]
  refine ⟨rowC_congr _ fun k hk => ?_, rowC_congr _ fun k hk => ?_, rowC_congr _ fun k hk => ?_⟩
  · obtain ⟨a, b, c, e⟩ := r_enc h hk
    unfold cF vF; rw [a, b, c, e]
  · unfold cN vC; rw [c_enc h hk]
  · obtain ⟨a, b, c, e, f⟩ := l_enc h hk
    unfold cL vL; rw [a, b, c, e, f]
end
end Lo
end Go.Proofs.YtjmifcnfnihhnaaGreatDoor
/- WALKS: a code is written: addNumber. -/
set_option linter.unusedVariables false
set_option linter.unusedSimpArgs false
namespace Go.Proofs.YtjmifcnfnihhnaaGreatDoor
namespace Lo
open Go.RowKit Lr Lr.Li
/-- bytes as they lie -/
def bV (l : List UInt8) : List Value := l.map fun c => .int .u8 (c.toNat : Int)
theorem bV_app (l m : List UInt8) : bV (l ++ m) = bV l ++ bV m := by unfold bV; rw [List.map_append]
/-- only the row has turned -/
structure Grw (w w' : World) (v v' : Value) : Prop where
  low : Below 0 w w'
  rest : ∀ j, j < w.heap.size → v.ownBlock ≠ some j → w'.heap[j]? = w.heap[j]?
  own : ∀ j, v'.ownBlock = some j → v.ownBlock = some j ∨ w.heap.size ≤ j
theorem Grw.refl (w : World) (v : Value) : Grw w w v v := ⟨Below.refl _ _, fun _ _ _ => rfl, fun j h => .inl h⟩
theorem Grw.trans {w w1 w2 : World} {v v1 v2 : Value} (h : Grw w w1 v v1) (h' : Grw w1 w2 v1 v2) : Grw w w2 v v2 := by
  have hs := h.low.size
  refine ⟨h.low.trans h'.low, fun j hj hn => (h'.rest j (by omega) fun e => ?_).trans (h.rest j hj hn), fun j hj => ?_⟩
  · rcases h.own j e with q | q
    · exact hn q
    · omega
  · rcases h'.own j hj with q | q
    · exact h.own j q
    · exact .inr (by omega)
theorem tU1 : Tryz.prog.underlying 34 = some (.slice 5) := by kernel_rfl
theorem infB : (Tryz.prog.info? 5).map (fun i => (i.zero, i.size, i.bytes)) = some (some (.int .u8 0), 1, 1) := by kernel_rfl
/-- a row of bytes: the call's own, or one without spare room -/
def Ow (w : World) (base : Nat) (v : Value) (n : Nat) (xs : List Value) : Prop :=
  w.ownsRow base 5 1 v n xs ∨ ∃ g, v = .slice (some ⟨g, 0, none⟩) n n ∧ base ≤ g ∧ g < w.heap.size ∧ xs.length = n ∧ ∀ j u, xs[j]? = some u → w.cell? ⟨g, j, none⟩ = some u
theorem Ow.al {w : World} {base : Nat} {v : Value} {n : Nat} {xs : List Value} (h : Ow w base v n xs) (o : Obj) : Ow (w.alloc o) base v n xs := by
  rcases h with h | ⟨g, e, h1, h2, h3, h4⟩
  · exact .inl (h.alloc o)
  · exact .inr ⟨g, e, h1, by rw [World.size_alloc]; omega, h3, fun j u hu => (World.cell?_of_block (w := w) (a := ⟨g, j, none⟩) (Below.heap_alloc w o g h2)).trans (h4 j u hu)⟩
theorem Ow.ge {w : World} {base : Nat} {v : Value} {n : Nat} {xs : List Value} (h : Ow w base v n xs) : ∀ k, v.ownBlock = some k → base ≤ k := by
  rcases h with h | ⟨g, rfl, h1, _⟩
  · exact own_ge h
  · intro k hk; cases hk; exact h1
theorem Ow.len {w : World} {base : Nat} {v : Value} {n : Nat} {xs : List Value} (h : Ow w base v n xs) : xs.length = n := by
  rcases h with h | ⟨_, _, _, _, h, _⟩
  · have := h.1; omega
  · exact h
theorem addr_add (g j : Nat) : (⟨g, 0, none⟩ : Addr).add j = ⟨g, j, none⟩ := by
  unfold Addr.add
  split
  · rename_i h; rw [h]
  · simp
section
variable {P : Program} (w : World)
theorem run_append_ow (base : Nat) (t ty : TypeId) (i : TypeInfo) (ht : P.underlying t = some (.slice 5)) (hi : P.info? 5 = some i) (hz : i.zero = some (.int .u8 0)) (hsize : i.size = 1) (hby : i.bytes = 1)
    (v : Value) (n : Nat) (xs : List Value) (hown : Ow w base v n xs)
    (a : Addr) (c : Nat) (x : Value) (hnews : ∀ j u, [x][j]? = some u → w.cell? (a.add j) = some u) (h1 : ∀ u ∈ [x], u.oneCell' = true) (h63 : n + 1 ≤ 1000000) (hbase : base ≤ w.heap.size) :
    ∃ v' w', (Builtin.append_ #[t, t] ty #[v, .slice (some a) 1 c]).run P w = .ok v' w' ∧ w'.ownsRow base 5 1 v' (n + 1) (xs ++ [x]) ∧ w.grownBy w' v.ownBlock ∧ (v'.ownBlock = v.ownBlock ∨ v'.ownBlock = some w.heap.size) := by
  rcases hown with hown | ⟨g, rfl, hbg, hgl, hlen, hc⟩
  · exact run_append_own2 (P := P) w base t ty 5 i (.int .u8 0) 1 1 ht hi hz hsize hby rfl (by decide) v n xs hown a 1 c [x] rfl hnews h1 (by unfold maxLen; omega) (by omega) hbase
  · have hr := run_append_grow (P := P) w t ty 5 i (.int .u8 0) ht hi hz ⟨g, 0, none⟩ n n xs (by rw [hsize]; omega) (fun j u hu => by rw [addr_add]; exact hc j u hu) a 1 c [x] (by rw [hsize]; rfl) hnews (by omega) (by omega) (growslice_fits (by omega) (by rw [hby]; omega))
    have hge := grownCap_ge w (n + 1) n 5
    have hcm : grownCap w (n + 1) n 5 ≤ maxLen := grownCap_le_maxLen w (n + 1) n 5 (by unfold maxLen; omega)
    refine ⟨_, _, hr, ⟨by rw [List.length_append, hlen]; simp, .inr ⟨w.heap.size, _, _, rfl, hbase, heap_alloc_new w.drew _, hge, hcm, ?_, ?_⟩⟩, ⟨rfl, rfl, rfl, by simp, fun k hk _ => Below.heap_alloc w.drew _ k hk⟩, .inr rfl⟩
    · simp only [Array.size_append, List.size_toArray, size_zeroCells, hlen, List.length_cons, List.length_nil]
      have : (Value.cells (.int .u8 0)).size = 1 := rfl
      rw [this]
      omega
    · simp only [Array.toList_append, List.append_assoc]
      have hl : (xs ++ [x]).length = (n + 1) * 1 := by rw [List.length_append, hlen]; simp
      rw [← List.append_assoc, ← hl]
      exact List.take_left
theorem wpList_append_ow {ops : Array Oper} {rest : List Oper} {o : Oper} {a : Act} {Q : Exit → Act → World → Prop} (hgd : o.guard = none) (s x : Operand) (t : TypeId)
    (ho : o.op = .call { callee := .builtin .append, args := #[s, x], argTypes := #[t, t] })
    (base : Nat) (i : TypeInfo) (ht : P.underlying t = some (.slice 5)) (hi : P.info? 5 = some i) (hz : i.zero = some (.int .u8 0)) (hsize : i.size = 1) (hby : i.bytes = 1)
    (v : Value) (n : Nat) (xs : List Value) (hs : a.eval s = v) (hown : Ow w base v n xs)
    (ad : Addr) (c : Nat) (x0 : Value) (hx : a.eval x = .slice (some ad) 1 c) (hnews : ∀ j u, [x0][j]? = some u → w.cell? (ad.add j) = some u) (h1 : ∀ u ∈ [x0], u.oneCell' = true)
    (h63 : n + 1 ≤ 1000000) (hbase : base ≤ w.heap.size)
    (h : ∀ v' w', w'.ownsRow base 5 1 v' (n + 1) (xs ++ [x0]) → w.grownBy w' v.ownBlock → (v'.ownBlock = v.ownBlock ∨ v'.ownBlock = some w.heap.size) → wpList P ops Q rest (a.put o.dst v') w') : wpList P ops Q (o :: rest) a w := by
  refine wpList_plain hgd fun K hK => ?_
  obtain ⟨v', w', hr, h2, h3, h4⟩ := run_append_ow (P := P) w base t o.type i ht hi hz hsize hby v n xs hown ad c x0 hnews h1 h63 hbase
  unfold Oper.wp execOp
  simp only [ho, resolve, invoke, builtin, Sem.run_bind, Sem.run_pure, Result.andThen_ok, List.map_toArray, List.map_cons, List.map_nil, hs, hx, hr]
  exact hK _ _ (h v' w' h2 h3 h4)
end
set_option maxRecDepth 100000 in
theorem addNumber_w {w : World} {base k size : Nat} {v : Value} {xs : List UInt8} {n : Int} (hn : -9223372036854775808 ≤ n ∧ n ≤ 9223372036854775807) (hz : size ≤ 8) (hown : Ow w base v k (bV xs)) (hk : k ≤ 700000) (hb : base ≤ w.heap.size) :
    Calls Tryz.prog 37 #[v, .int .i64 n, .int .i64 (size : Nat)] w fun e w' => ∃ v', e = .returned v' ∧ Ow w' base v' (k + size) (bV (xs ++ be n size)) ∧ Grw w w' v v' := by
  obtain ⟨i0, hi0, hz1, hz2, hz3⟩ := info_parts infB
  have HO := Lib.hid hown
  clear hown
  go_enter Tryz.func37, Tryz.ntmps37
  go_wp2_with fail
  go_loopg [0, 7] size (fun gh u s (wr : World) => ∃ (j : Nat) (ys : List UInt8) (v1 : Value), j ≤ size ∧ gh = j ∧ u = v1 ∧ s = .int .i64 ((j : Nat) - 1 : Int) ∧ ys ++ be n j = be n size ∧ Ow wr base v1 (k + (size - j)) (bV (xs ++ ys)) ∧ Grw w wr v v1)
  case atStart => exact ⟨size, [], v, Nat.le_refl _, rfl, rfl, rfl, rfl, by rw [Nat.sub_self, List.append_nil]; exact HO.out, Grw.refl _ _⟩
  case round =>
    obtain ⟨j, ys, v1, hj, hgk, hu, rfl, hys, ho, hg⟩ := hrel
    have hu := hu.symm
    subst hu
    obtain ⟨wi, rfl⟩ : ∃ wi, wi = wr := ⟨_, rfl⟩
    have HY := Lib.hid hys
    have HR := Lib.hid ho
    have HG := Lib.hid hg
    clear hys ho hg
    have hw := HG.out.low.size
    cases j with
    | zero =>
      go_wp2_with fail
      go_ret
      refine ⟨_, rfl, ?_, HG.out⟩
      have := HR.out
      have e := HY.out
      rw [show be n 0 = [] from rfl, List.append_nil] at e
      rw [e, Nat.sub_zero] at this
      exact this
    | succ m =>
      have hm : m = 0 ∨ m = 1 ∨ m = 2 ∨ m = 3 ∨ m = 4 ∨ m = 5 ∨ m = 6 ∨ m = 7 := by omega
      have fin : ∀ (v' : Value) (w4 : World) (o : Obj) (x : Int), x = ((byI n m).toNat : Int) → w4.ownsRow base 5 1 v' (k + (size - (m + 1)) + 1) (bV (xs ++ ys) ++ [.int .u8 x]) → (wi.alloc o).grownBy w4 v1.ownBlock → (v'.ownBlock = v1.ownBlock ∨ v'.ownBlock = some (wi.alloc o).heap.size) → ∃ zs, zs ++ be n m = be n size ∧ Ow w4 base v' (k + (size - m)) (bV (xs ++ zs)) ∧ Grw w w4 v v' := by
        intro v' w4 o x hx h1 h2 h3
        refine ⟨ys ++ [byI n m], by rw [List.append_assoc]; exact HY.out, ?_, HG.out.trans ?_⟩
        · rw [hx] at h1
          rw [← List.append_assoc, bV_app, show k + (size - m) = k + (size - (m + 1)) + 1 by omega]
          exact .inl h1
        · have hs : (wi.alloc o).heap.size = wi.heap.size + 1 := World.size_alloc (w := wi) o
          refine ⟨⟨h2.os, h2.tape, h2.output, by have := h2.size; omega, fun q hq => absurd hq (Nat.not_lt_zero _)⟩, fun q hq hn' => ?_, fun q hq => ?_⟩
          · exact (h2.block q (by omega) fun e => hn' e.symm).trans (Below.heap_alloc wi o q hq)
          · rcases h3 with e | e
            · exact .inl (by rw [← e]; exact hq)
            · rw [e] at hq; cases hq; exact .inr (by omega)
      have FIN := Lib.hid fin
      clear fin
      have a0 : bits BinOp.and IntKind.i64 0 63 = 0 := by rfl
      have a1 : bits BinOp.and IntKind.i64 8 63 = 8 := by rfl
      have a2 : bits BinOp.and IntKind.i64 16 63 = 16 := by rfl
      have a3 : bits BinOp.and IntKind.i64 24 63 = 24 := by rfl
      have a4 : bits BinOp.and IntKind.i64 32 63 = 32 := by rfl
      have a5 : bits BinOp.and IntKind.i64 40 63 = 40 := by rfl
      have a6 : bits BinOp.and IntKind.i64 48 63 = 48 := by rfl
      have a7 : bits BinOp.and IntKind.i64 56 63 = 56 := by rfl
      obtain ⟨M, hM⟩ : ∃ M, M = m := ⟨m, rfl⟩
      have HM := Lib.hid hM
      clear hM
      rcases hm with rfl | rfl | rfl | rfl | rfl | rfl | rfl | rfl
      all_goals
        go_wp2_with (first
          | (at_builtin; refine wpList_append_ow _ rfl (.tmp 14) (.tmp 21) 34 rfl base i0 tU1 hi0 hz1 hz2 hz3 _ _ _ rfl (HR.out.al _) _ 1 (.int .u8 _) rfl (cells_new _ _ _ _ (by simp)) ?_ ?_ ?_ ?_; (intro u' hu; simp at hu; subst hu; rfl); omega; (simp; omega); intro v' w4 hown4 hg4 hrow4))
        obtain ⟨zs, q1, q2, q3⟩ := FIN.out v' w4 _ _ (by rw [byI_nat]; simp) hown4 hg4 hrow4
        have hM := HM.out
        go_roundg M
        case measure => omega
        case rel => exact ⟨M, zs, v', by omega, rfl, rfl, by rw [hM]; rfl, by rw [hM]; exact q1, by rw [hM]; exact q2, q3⟩
end Lo
end Go.Proofs.YtjmifcnfnihhnaaGreatDoor
/- WALKS: a code is written: Code.Bytes. -/
set_option linter.unusedVariables false
set_option linter.unusedSimpArgs false
namespace Go.Proofs.YtjmifcnfnihhnaaGreatDoor
namespace Lo
open Go.RowKit Lr Lr.Li
/-- a block that the row is not -/
structure Pr (w : World) (v : Value) (b : Nat) (o : Obj) : Prop where
  blk : w.heap[b]? = some o
  ne : ∀ j, v.ownBlock = some j → j ≠ b
theorem lt_blk {w : World} {b : Nat} {o : Obj} (h : w.heap[b]? = some o) : b < w.heap.size := by
  rcases Nat.lt_or_ge b w.heap.size with q | q
  · exact q
  · rw [Array.getElem?_eq_none q] at h; cases h
theorem Grw.pr {w w' : World} {v v' : Value} (h : Grw w w' v v') {b : Nat} {o : Obj} (hp : Pr w v b o) : Pr w' v' b o := by
  have hl := lt_blk hp.blk
  refine ⟨(h.rest b hl fun e => hp.ne b e rfl).trans hp.blk, fun j hj => ?_⟩
  rcases h.own j hj with q | q
  · exact hp.ne j q
  · omega
theorem Pr.al {w : World} {v : Value} {b : Nat} {o : Obj} (h : Pr w v b o) (o' : Obj) : Pr (w.alloc o') v b o :=
  ⟨(Below.heap_alloc w o' b (lt_blk h.blk)).trans h.blk, h.ne⟩
theorem Ow.lt {w : World} {base : Nat} {v : Value} {n : Nat} {xs : List Value} (h : Ow w base v n xs) : ∀ k, v.ownBlock = some k → k < w.heap.size := by
  rcases h with h | ⟨g, rfl, _, h1, _⟩
  · exact fun k hk => (h.lt k hk).2
  · intro k hk; have hk : g = k := Option.some.inj hk; omega
/-- what is written so far -/
structure By (w wi : World) (v : Value) (xs : List UInt8) : Prop where
  low : Below w.heap.size w wi
  own : Ow wi (w.heap.size + 1) v xs.length (bV xs)
  sz : w.heap.size + 1 ≤ wi.heap.size
theorem By.al {w wi : World} {v : Value} {xs : List UInt8} (h : By w wi v xs) (o : Obj) : By w (wi.alloc o) v xs :=
  ⟨h.low.alloc h.low.size o, h.own.al o, by have := h.sz; rw [World.size_alloc]; omega⟩
theorem By.add {w wi : World} {v : Value} {xs : List UInt8} (h : By w wi v xs) {n z : Int} {size : Nat} (hz : z = (size : Nat)) (hn : -9223372036854775808 ≤ n ∧ n ≤ 9223372036854775807) (h8 : size ≤ 8) (hl : xs.length ≤ 700000) :
    Calls Tryz.prog 37 #[v, .int .i64 n, .int .i64 z] wi fun e w' => ∃ v', e = .returned v' ∧ By w w' v' (xs ++ be n size) ∧ Grw wi w' v v' := by
  subst hz
  refine (addNumber_w hn h8 h.own hl h.sz).mono ?_
  rintro e w' ⟨v', rfl, ho, hg⟩
  have hs := h.low.size
  have hsz := hg.low.size
  have h1 := h.sz
  refine ⟨v', rfl, ⟨h.low.trans ⟨hg.low.os, hg.low.tape, hg.low.output, hg.low.size, fun k hk => hg.rest k (by omega) fun e => ?_⟩, ?_, by omega⟩, hg⟩
  · have := h.own.ge k e
    omega
  · rw [List.length_append, be_len]; exact ho
/-- a row of numbers in memory, a so wide -/
def RowAt (w : World) (a : Option Addr) (n sz : Nat) (f : Nat → Nat → Int) : Prop := ∀ k o, k < n → o < sz → ∃ g, a = some ⟨g, 0, none⟩ ∧ g < w.heap.size ∧ w.cell? ⟨g, k * sz + o, none⟩ = some (.int .i64 (f k o))
theorem RowAt.on {w w' : World} {a : Option Addr} {n sz : Nat} {f : Nat → Nat → Int} (h : RowAt w a n sz f) (hb : Below w.heap.size w w') : RowAt w' a n sz f := fun k o hk ho => by
  obtain ⟨g, e, hg, hc⟩ := h k o hk ho
  exact ⟨g, e, Nat.lt_of_lt_of_le hg hb.size, (hb.cell (p := ⟨g, _, none⟩) hg).trans hc⟩
def bxO (vF vC vL : Value) : Obj := .cells #[vF, vC, vL] 56 (0, 0)
theorem ret_s {a b : ByteArray} (h : a = b) : Ending.returned (Value.string a) = .returned (.string b) := by rw [h]
section
variable {P : Program} {w : World}
theorem wpList_strB {ops : Array Oper} {rest : List Oper} {o : Oper} {a : Act} {Q : Exit → Act → World → Prop} (hgd : o.guard = none) (s : Operand) (src dst e : TypeId)
    (ho : o.op = .convert src dst s) (l : List UInt8) (v : Value) {base : Nat} (hx : a.eval s = v) (hown : Ow w base v l.length (bV l)) (hs : P.underlying src = some (.slice e)) (he : P.underlying e = some (.int .u8)) (hd : P.underlying dst = some .string)
    (hne : 0 < l.length)
    (h : wpList P ops Q rest (a.put o.dst (.string ⟨l.toArray⟩)) w) : wpList P ops Q (o :: rest) a w := by
  refine wpList_plain hgd fun K hK => ?_
  have key : ∃ g cap, v = .slice (some ⟨g, 0, none⟩) l.length cap ∧ ∀ j u, (bV l)[j]? = some u → w.cell? ⟨g, j, none⟩ = some u := by
    rcases hown with hown | ⟨g, e, _, _, _, hc⟩
    · rcases hown.2 with ⟨_, h0⟩ | ⟨g, cap, cur, e, hg, hgb, hc1, hc2, hc3, hc4⟩
      · omega
      · exact ⟨g, cap, e, fun j u hu => by rw [← addr_add]; exact hown.cells (g := g) (by rw [e]; rfl) j u hu⟩
    · exact ⟨g, _, e, hc⟩
  obtain ⟨g, cap, rfl, hcell⟩ := key
  · have hr := run_convert_bytes_back (P := P) w src dst e ⟨g, 0, none⟩ cap l hs he hd (fun j hj => by
      rw [addr_add]
      exact hcell j _ (by unfold bV; rw [List.getElem?_map, List.getElem?_eq_getElem hj]; rfl))
    unfold Oper.wp execOp
    simp only [ho, hx, hr, Sem.run_bind, Sem.run_pure, Result.andThen_ok]
    exact hK _ _ h
end
/-- a row of bytes is told to be bytes -/
theorem wpList_same {P : Program} {w : World} {ops : Array Oper} {rest : List Oper} {o : Oper} {a : Act} {Q : Exit → Act → World → Prop} (hgd : o.guard = none) (s : Operand) (t e : TypeId) (ho : o.op = .convert t t s) (k n c : Nat) {arr : Array Value} {ty : TypeId} (hx : a.eval s = .slice (some ⟨k, 0, none⟩) n c) (hb : w.heap[k]? = some (.cells arr ty (0, 0))) (hs : P.underlying t = some (.slice e)) (he : P.underlying e = some (.int .u8))
    (h : ∀ w' : World, (∀ j, j ≠ k → w'.heap[j]? = w.heap[j]?) → (∀ j, w'.cell? ⟨k, j, none⟩ = w.cell? ⟨k, j, none⟩) → w'.heap.size = w.heap.size → Below 0 w w' → wpList P ops Q rest (a.put o.dst (.slice (some ⟨k, 0, none⟩) n c)) w') : wpList P ops Q (o :: rest) a w := by
  refine wpList_plain hgd fun K hK => ?_
  have hsh : w.shape? k = some (ty, arr.size) := by simp [World.shape?, hb]
  unfold Oper.wp execOp
  have hr : (convert t t (.slice (some ⟨k, 0, none⟩) n c)).run P w = .ok (.slice (some ⟨k, 0, none⟩) n c) (w.freeze ⟨k, arr.size, none⟩ 1) := by
    simp [convert, run_underlying hs, run_underlying he, markStringish, hsh]
  simp only [ho, hx, hr, Sem.run_bind, Sem.run_pure, Result.andThen_ok]
  refine hK _ _ (h _ (fun j hj => ?_) (fun j => ?_) ?_ ?_)
  · simp [World.freeze, Array.getElem?_modify, Ne.symm hj]
  · simp [World.cell?, World.freeze, Array.getElem?_modify, hb]
  · simp [World.freeze]
  · exact ⟨rfl, rfl, rfl, by simp [World.freeze], fun k hk => absurd hk (Nat.not_lt_zero _)⟩
theorem tS1 : Tryz.prog.underlying 5 = some (.int .u8) := by kernel_rfl
theorem tS2 : Tryz.prog.underlying 9 = some .string := by kernel_rfl
set_option maxRecDepth 100000 in
set_option maxHeartbeats 3200000 in
theorem bytes_w {w : World} {d : Cd} (hd : CdOk d) {aF aC aL : Option Addr} {cF cC cL : Nat} (hF : RowAt w aF d.nF 4 d.f) (hC : RowAt w aC d.nC 1 fun k _ => d.c k) (hL : RowAt w aL d.nL 5 d.l) (c1 : d.nF ≤ cF) (c2 : d.nC ≤ cC) (c3 : d.nL ≤ cL) :
    Calls Tryz.prog 25 #[.agg #[.slice aF d.nF cF, .slice aC d.nC cC, .slice aL d.nL cL]] w fun e w' => e = .returned (.string d.bs) ∧ Below w.heap.size w w' := by
  have HF := Lib.hid hF
  have HC := Lib.hid hC
  have HL := Lib.hid hL
  have HD := Lib.hid hd
  clear hF hC hL
  have l1 := hd.lF
  have l2 := hd.lC
  have l3 := hd.lL
  have lz := hd.sz
  obtain ⟨nF, hnF⟩ : ∃ n, n = d.nF := ⟨_, rfl⟩
  obtain ⟨nC, hnC⟩ : ∃ n, n = d.nC := ⟨_, rfl⟩
  obtain ⟨nL, hnL⟩ : ∃ n, n = d.nL := ⟨_, rfl⟩
  rw [← hnF] at l1 lz c1 ⊢
  rw [← hnC] at l2 lz c2 ⊢
  rw [← hnL] at l3 lz c3 ⊢
  have HNF := Lib.hid hnF
  have HNC := Lib.hid hnC
  have HNL := Lib.hid hnL
  clear hnF hnC hnL hd
  go_enter Tryz.func25, Tryz.ntmps25
  go_upto_region 2 with (first | (show wpList _ _ _ (Oper.mk (some 11) (Op.convert 34 34 (.tmp 10)) _ _ _ _ :: _) _ _; refine wpList_same rfl (.tmp 10) 34 5 rfl (w.heap.size + 1) 2 2 rfl (lb_new' (w := w.alloc _) (by simp)) tU1 tS1 ?_; intro w1 q1 q2 q3 q4))
  have hbx : w1.heap[w.heap.size]? = some (bxO (.slice aF nF cF) (.slice aC nC cC) (.slice aL nL cL)) := (q1 _ (by omega)).trans ((Below.heap_alloc (w.alloc _) _ _ (by simp)).trans (lb_new w _))
  have hA2 : Below w.heap.size w ((w.alloc (.cells #[.slice aF nF cF, .slice aC nC cC, .slice aL nL cL] 56)).alloc (.cells #[.int .u8 109, .int .u8 108] 5)) := ((Below.refl _ _).alloc (Nat.le_refl _) _).alloc (by simp) _
  have hby : By w w1 (.slice (some ⟨w.heap.size + 1, 0, none⟩) 2 2) [109, 108] := by
    have hs : ((w.alloc (.cells #[.slice aF nF cF, .slice aC nC cC, .slice aL nL cL] 56)).alloc (.cells #[.int .u8 109, .int .u8 108] 5)).heap.size = w.heap.size + 2 := by simp
    refine ⟨⟨q4.os.trans hA2.os, q4.tape.trans hA2.tape, q4.output.trans hA2.output, by rw [q3, hs]; omega, fun k hk => (q1 k (by omega)).trans (hA2.block k hk)⟩, .inr ⟨w.heap.size + 1, rfl, Nat.le_refl _, by rw [q3, hs]; omega, rfl, fun j u hu => ?_⟩, by rw [q3, hs]; omega⟩
    rw [q2]
    have := lb_new' (w := w.alloc (.cells #[.slice aF nF cF, .slice aC nC cC, .slice aL nL cL] 56)) (o := .cells #[.int .u8 109, .int .u8 108] 5) (b := w.heap.size + 1) (by simp)
    exact lb_at this j (by have e : bV [109, 108] = [.int .u8 109, .int .u8 108] := rfl; rw [e] at hu; simpa using hu)
  have hpr : Pr w1 (.slice (some ⟨w.heap.size + 1, 0, none⟩) 2 2) w.heap.size (bxO (.slice aF nF cF) (.slice aC nC cC) (.slice aL nL cL)) := ⟨hbx, fun j hj => by have hj : w.heap.size + 1 = j := Option.some.inj hj; omega⟩
  clear q1 q2 q3 q4 hA2 hbx
  have HY0 := Lib.hid hby
  have HP0 := Lib.hid hpr
  clear hby
  have c0 : w1.cell? ⟨w.heap.size, 0, none⟩ = some (.slice aF nF cF) := lb_at hpr.blk 0 rfl
  clear hpr
  go_upto_region 3 with (go_at_call 37; refine (HY0.out.add (size := 2) rfl (by omega) (by omega) (by simp)).mono ?_; rintro _ w2 ⟨v2, rfl, hby2, hg2⟩)
  have hpr := hg2.pr HP0.out
  have HY1 := Lib.hid hby2
  have HP1 := Lib.hid hpr
  clear hby2 hg2 c0 HY0 HP0
  have c1' : w2.cell? ⟨w.heap.size, 1, none⟩ = some (.slice aC nC cC) := lb_at hpr.blk 1 rfl
  clear hpr
  go_upto_region 4 with (go_at_call 37; refine (HY1.out.add (size := 2) rfl (by omega) (by omega) (by simp [be_len])).mono ?_; rintro _ w3 ⟨v3, rfl, hby2, hg2⟩)
  have hpr := hg2.pr HP1.out
  have HY2 := Lib.hid hby2
  have HP2 := Lib.hid hpr
  clear hby2 hg2 c1' HY1 HP1
  have c2' : w3.cell? ⟨w.heap.size, 2, none⟩ = some (.slice aL nL cL) := lb_at hpr.blk 2 rfl
  clear hpr
  go_upto_region 5 with (go_at_call 37; refine (HY2.out.add (size := 2) rfl (by omega) (by omega) (by simp [be_len])).mono ?_; rintro _ w4 ⟨v4, rfl, hby2, hg2⟩)
  have hpr := hg2.pr HP2.out
  have HY3 : Hid (By w w4 v4 d.hd) := by
    have h := hby2
    rw [HNF.out, HNC.out, HNL.out] at h
    show By w w4 v4 d.hd
    unfold Cd.hd
    simpa only [List.append_assoc] using h
  have HP3 := Lib.hid hpr
  clear hby2 hg2 c2' HY2 HP2
  have c0 : w4.cell? ⟨w.heap.size, 0, none⟩ = some (.slice aF nF cF) := lb_at hpr.blk 0 rfl
  clear hpr
  go_upto_region 6 with fail
  go_loopg [3, 30] nF (fun gh u s (wr : World) => ∃ (i : Nat) (v : Value), i ≤ nF ∧ gh = nF - i ∧ u = v ∧ s = .int .i64 (i : Nat) ∧ By w wr v (d.hd ++ rowC d.eF i) ∧ Pr wr v w.heap.size (bxO (.slice aF nF cF) (.slice aC nC cC) (.slice aL nL cL)))
  case atStart => exact ⟨0, v4, Nat.zero_le _, rfl, rfl, rfl, by rw [rowC, List.append_nil]; exact HY3.out, HP3.out⟩
  case round =>
    obtain ⟨i, v, hi, hgk, hu, rfl, hy, hp⟩ := hrel
    have hu := hu.symm
    subst hu
    obtain ⟨wi, rfl⟩ : ∃ wi, wi = wr := ⟨_, rfl⟩
    have HY := Lib.hid hy
    have HP := Lib.hid hp
    clear hy
    rcases Nat.lt_or_ge i nF with hin | hin
    · have g1 : (i : Int) < (nF : Int) := by omega
      have hR := HF.out.on HY.out.low
      rw [← HNF.out] at hR
      obtain ⟨g, hga, hgl, e0⟩ := hR i 0 hin (by omega)
      obtain ⟨_, hg1, _, e1⟩ := hR i 1 hin (by omega)
      obtain ⟨_, hg2, _, e2⟩ := hR i 2 hin (by omega)
      obtain ⟨_, hg3, _, e3⟩ := hR i 3 hin (by omega)
      rw [hga] at hg1 hg2 hg3
      cases hg1
      cases hg2
      cases hg3
      clear hR
      subst hga
      rw [Nat.add_zero] at e0
      obtain ⟨f0, hf0⟩ : ∃ f, d.f i 0 = f := ⟨_, rfl⟩
      obtain ⟨f1, hf1⟩ : ∃ f, d.f i 1 = f := ⟨_, rfl⟩
      obtain ⟨f2, hf2⟩ : ∃ f, d.f i 2 = f := ⟨_, rfl⟩
      obtain ⟨f3, hf3⟩ : ∃ f, d.f i 3 = f := ⟨_, rfl⟩
      rw [hf0] at e0
      rw [hf1] at e1
      rw [hf2] at e2
      rw [hf3] at e3
      have r0 := HD.out.f0 i (by rw [← HNF.out]; exact hin)
      have r1 := HD.out.f1 i (by rw [← HNF.out]; exact hin)
      have r2 := HD.out.f2 i (by rw [← HNF.out]; exact hin)
      have r3 := HD.out.f3 i (by rw [← HNF.out]; exact hin)
      rw [hf0, ← HNL.out] at r0
      rw [hf1] at r1
      rw [hf2] at r2
      rw [hf3] at r3
      have HEF : Hid (d.eF i = be f0 2 ++ (be f1 1 ++ (be f2 1 ++ be f3 2))) := by show d.eF i = _; unfold Cd.eF; rw [hf0, hf1, hf2, hf3]
      clear hf0 hf1 hf2 hf3
      have hlen : (d.hd ++ rowC d.eF i).length = 8 + i * 6 := by rw [List.length_append, hd_len, rowC_len (eF_len d)]
      have HLN := Lib.hid hlen
      clear hlen
      clear hp
      go_upto_region 8 with fail
      have hpB : Pr (wi.alloc (.cells #[.int .i64 f0, .int .i64 f1, .int .i64 f2, .int .i64 f3] 97)) v wi.heap.size (.cells #[.int .i64 f0, .int .i64 f1, .int .i64 f2, .int .i64 f3] 97) := ⟨lb_new wi _, fun j hj => by have := HY.out.own.lt j hj; omega⟩
      have hpA := HP.out.al (.cells #[.int .i64 f0, .int .i64 f1, .int .i64 f2, .int .i64 f3] 97)
      have hyA := HY.out.al (.cells #[.int .i64 f0, .int .i64 f1, .int .i64 f2, .int .i64 f3] 97)
      generalize wi.alloc (.cells #[.int .i64 f0, .int .i64 f1, .int .i64 f2, .int .i64 f3] 97) = W0 at hpA hpB hyA ⊢
      have HY0 := Lib.hid hyA
      have HA0 := Lib.hid hpA
      have HB0 := Lib.hid hpB
      clear hyA hpA hpB HY HP
      have c0' : W0.cell? ⟨wi.heap.size, 0, none⟩ = some (.int .i64 f0) := lb_at HB0.out.blk 0 rfl
      go_upto_region 9 with (go_at_call 37; refine (HY0.out.add (size := 2) rfl (by omega) (by omega) (by have := HLN.out; simp only [List.length_append, be_len] at this ⊢; omega)).mono ?_; rintro _ W1 ⟨y1, rfl, hyN, hgN⟩)
      have HY1 := Lib.hid hyN
      have HA1 := Lib.hid (hgN.pr HA0.out)
      have HB1 := Lib.hid (hgN.pr HB0.out)
      clear hyN hgN c0' HY0 HA0 HB0
      have c1' : W1.cell? ⟨wi.heap.size, 1, none⟩ = some (.int .i64 f1) := lb_at HB1.out.blk 1 rfl
      go_upto_region 10 with (go_at_call 37; refine (HY1.out.add (size := 1) rfl (by omega) (by omega) (by have := HLN.out; simp only [List.length_append, be_len] at this ⊢; omega)).mono ?_; rintro _ W2 ⟨y2, rfl, hyN, hgN⟩)
      have HY2 := Lib.hid hyN
      have HA2 := Lib.hid (hgN.pr HA1.out)
      have HB2 := Lib.hid (hgN.pr HB1.out)
      clear hyN hgN c1' HY1 HA1 HB1
      have c2' : W2.cell? ⟨wi.heap.size, 2, none⟩ = some (.int .i64 f2) := lb_at HB2.out.blk 2 rfl
      go_upto_region 11 with (go_at_call 37; refine (HY2.out.add (size := 1) rfl (by omega) (by omega) (by have := HLN.out; simp only [List.length_append, be_len] at this ⊢; omega)).mono ?_; rintro _ W3 ⟨y3, rfl, hyN, hgN⟩)
      have HY3 := Lib.hid hyN
      have HA3 := Lib.hid (hgN.pr HA2.out)
      have HB3 := Lib.hid (hgN.pr HB2.out)
      clear hyN hgN c2' HY2 HA2 HB2
      have c3' : W3.cell? ⟨wi.heap.size, 3, none⟩ = some (.int .i64 f3) := lb_at HB3.out.blk 3 rfl
      go_upto_region 12 with (go_at_call 37; refine (HY3.out.add (size := 2) rfl (by omega) (by omega) (by have := HLN.out; simp only [List.length_append, be_len] at this ⊢; omega)).mono ?_; rintro _ W4 ⟨y4, rfl, hyN, hgN⟩)
      have HY4 := Lib.hid hyN
      have HA4 := Lib.hid (hgN.pr HA3.out)
      have HB4 := Lib.hid (hgN.pr HB3.out)
      clear hyN hgN c3' HY3 HA3 HB3
      go_wp2_with fail
      go_roundg (nF - (i + 1))
      case measure => omega
      case rel =>
        have h := HY4.out
        exact ⟨i + 1, y4, by omega, rfl, rfl, by go_num, by rw [rowC, HEF.out]; simpa only [List.append_assoc] using h, HA4.out⟩
    · have g1 : ¬ (i : Int) < (nF : Int) := by omega
      have hie : i = nF := by omega
      have HX : Hid (By w wi v (d.hd ++ rowC d.eF d.nF)) := by
        have h := HY.out
        rw [hie, HNF.out] at h
        exact h
      have c1' : wi.cell? ⟨w.heap.size, 1, none⟩ = some (.slice aC nC cC) := lb_at hp.blk 1 rfl
      clear hp HY hie hgk hi
      go_upto_region 14 with fail
      clear g1
      go_loopg [3, 54] nC (fun gh u s (wr : World) => ∃ (i : Nat) (v : Value), i ≤ nC ∧ gh = nC - i ∧ u = v ∧ s = .int .i64 (i : Nat) ∧ By w wr v (d.hd ++ rowC d.eF d.nF ++ rowC d.eC i) ∧ Pr wr v w.heap.size (bxO (.slice aF nF cF) (.slice aC nC cC) (.slice aL nL cL)))
      case atStart => exact ⟨0, v, Nat.zero_le _, rfl, rfl, rfl, by rw [rowC, List.append_nil]; exact HX.out, HP.out⟩
      case round =>
        clear HX HP c1'
        obtain ⟨i, v, hi, hgk, hu, rfl, hy, hp⟩ := hrel
        have hu := hu.symm
        subst hu
        obtain ⟨wi, rfl⟩ : ∃ wi, wi = wr := ⟨_, rfl⟩
        have HY := Lib.hid hy
        have HP := Lib.hid hp
        clear hy
        rcases Nat.lt_or_ge i nC with hin | hin
        · have g1 : (i : Int) < (nC : Int) := by omega
          have hR := HC.out.on HY.out.low
          rw [← HNC.out] at hR
          obtain ⟨g, hga, hgl, e0⟩ := hR i 0 hin (by omega)
          clear hR
          subst hga
          rw [Nat.add_zero, Nat.mul_one] at e0
          obtain ⟨f0, hf0⟩ : ∃ f, d.c i = f := ⟨_, rfl⟩
          have r0 := HD.out.c i (by rw [← HNC.out]; exact hin)
          replace e0 : wi.cell? ⟨g, i, none⟩ = some (.int .i64 (d.c i)) := e0
          rw [hf0] at e0 r0
          have HEF : Hid (d.eC i = be f0 8) := by show d.eC i = _; unfold Cd.eC; rw [hf0]
          clear hf0
          have hlen : (d.hd ++ rowC d.eF d.nF ++ rowC d.eC i).length = 8 + nF * 6 + i * 8 := by rw [List.length_append, List.length_append, hd_len, rowC_len (eF_len d), rowC_len (eC_len d), ← HNF.out]
          have HLN := Lib.hid hlen
          clear hlen hp
          go_upto_region 17 with (go_at_call 37; refine (HY.out.add (size := 8) rfl (by omega) (by omega) (by have := HLN.out; omega)).mono ?_; rintro _ W1 ⟨y1, rfl, hyN, hgN⟩)
          have HY1 := Lib.hid hyN
          have HA1 := Lib.hid (hgN.pr HP.out)
          clear hyN hgN HY HP
          go_wp2_with fail
          go_roundg (nC - (i + 1))
          case measure => omega
          case rel =>
            have h := HY1.out
            exact ⟨i + 1, y1, by omega, rfl, rfl, by go_num, by rw [rowC, HEF.out]; simpa only [List.append_assoc] using h, HA1.out⟩
        · have g1 : ¬ (i : Int) < (nC : Int) := by omega
          have hie : i = nC := by omega
          have HX : Hid (By w wi v (d.hd ++ rowC d.eF d.nF ++ rowC d.eC d.nC)) := by
            have h := HY.out
            rw [hie, HNC.out] at h
            exact h
          have c2' : wi.cell? ⟨w.heap.size, 2, none⟩ = some (.slice aL nL cL) := lb_at hp.blk 2 rfl
          clear hp HY hie hgk hi
          go_upto_region 19 with fail
          clear g1
          go_loopg [3, 65] nL (fun gh u s (wr : World) => ∃ (i : Nat) (v : Value), i ≤ nL ∧ gh = nL - i ∧ u = v ∧ s = .int .i64 (i : Nat) ∧ By w wr v (d.hd ++ rowC d.eF d.nF ++ rowC d.eC d.nC ++ rowC d.eL i) ∧ Pr wr v w.heap.size (bxO (.slice aF nF cF) (.slice aC nC cC) (.slice aL nL cL)))
          case atStart => exact ⟨0, v, Nat.zero_le _, rfl, rfl, rfl, by rw [rowC, List.append_nil]; exact HX.out, HP.out⟩
          case round =>
            clear HX HP c2'
            obtain ⟨i, v, hi, hgk, hu, rfl, hy, hp⟩ := hrel
            have hu := hu.symm
            subst hu
            obtain ⟨wi, rfl⟩ : ∃ wi, wi = wr := ⟨_, rfl⟩
            have HY := Lib.hid hy
            have HP := Lib.hid hp
            clear hy
            rcases Nat.lt_or_ge i nL with hin | hin
            · have g1 : (i : Int) < (nL : Int) := by omega
              have hR := HL.out.on HY.out.low
              rw [← HNL.out] at hR
              obtain ⟨g, hga, hgl, e0⟩ := hR i 0 hin (by omega)
              obtain ⟨_, hg1, _, e1⟩ := hR i 1 hin (by omega)
              obtain ⟨_, hg2, _, e2⟩ := hR i 2 hin (by omega)
              obtain ⟨_, hg3, _, e3⟩ := hR i 3 hin (by omega)
              obtain ⟨_, hg4, _, e4⟩ := hR i 4 hin (by omega)
              rw [hga] at hg1 hg2 hg3 hg4
              cases hg1
              cases hg2
              cases hg3
              cases hg4
              clear hR
              subst hga
              rw [Nat.add_zero] at e0
              obtain ⟨f0, hf0⟩ : ∃ f, d.l i 0 = f := ⟨_, rfl⟩
              obtain ⟨f1, hf1⟩ : ∃ f, d.l i 1 = f := ⟨_, rfl⟩
              obtain ⟨f2, hf2⟩ : ∃ f, d.l i 2 = f := ⟨_, rfl⟩
              obtain ⟨f3, hf3⟩ : ∃ f, d.l i 3 = f := ⟨_, rfl⟩
              obtain ⟨f4, hf4⟩ : ∃ f, d.l i 4 = f := ⟨_, rfl⟩
              rw [hf0] at e0
              rw [hf1] at e1
              rw [hf2] at e2
              rw [hf3] at e3
              rw [hf4] at e4
              have r0 := HD.out.l0 i (by rw [← HNL.out]; exact hin)
              have r1 := HD.out.l1 i (by rw [← HNL.out]; exact hin)
              have r2 := HD.out.l2 i (by rw [← HNL.out]; exact hin)
              have r3 := HD.out.l3 i (by rw [← HNL.out]; exact hin)
              have r4 := HD.out.l4 i (by rw [← HNL.out]; exact hin)
              rw [hf0] at r0
              rw [hf1] at r1
              rw [hf2] at r2
              rw [hf3] at r3
              rw [hf4] at r4
              have HEF : Hid (d.eL i = be f0 1 ++ (be f1 1 ++ (be f2 2 ++ (be f3 2 ++ be f4 2)))) := by show d.eL i = _; unfold Cd.eL; rw [hf0, hf1, hf2, hf3, hf4]
              clear hf0 hf1 hf2 hf3 hf4
              have hlen : (d.hd ++ rowC d.eF d.nF ++ rowC d.eC d.nC ++ rowC d.eL i).length = 8 + nF * 6 + nC * 8 + i * 8 := by rw [List.length_append, List.length_append, List.length_append, hd_len, rowC_len (eF_len d), rowC_len (eC_len d), rowC_len (eL_len d), ← HNF.out, ← HNC.out]
              have HLN := Lib.hid hlen
              clear hlen hp
              go_upto_region 21 with fail
              have hpB : Pr (wi.alloc (.cells #[.int .i64 f0, .int .i64 f1, .int .i64 f2, .int .i64 f3, .int .i64 f4] 99)) v wi.heap.size (.cells #[.int .i64 f0, .int .i64 f1, .int .i64 f2, .int .i64 f3, .int .i64 f4] 99) := ⟨lb_new wi _, fun j hj => by have := HY.out.own.lt j hj; omega⟩
              have hpA := HP.out.al (.cells #[.int .i64 f0, .int .i64 f1, .int .i64 f2, .int .i64 f3, .int .i64 f4] 99)
              have hyA := HY.out.al (.cells #[.int .i64 f0, .int .i64 f1, .int .i64 f2, .int .i64 f3, .int .i64 f4] 99)
              generalize wi.alloc (.cells #[.int .i64 f0, .int .i64 f1, .int .i64 f2, .int .i64 f3, .int .i64 f4] 99) = W0 at hpA hpB hyA ⊢
              have HY0 := Lib.hid hyA
              have HA0 := Lib.hid hpA
              have HB0 := Lib.hid hpB
              clear hyA hpA hpB HY HP
              have c0' : W0.cell? ⟨wi.heap.size, 0, none⟩ = some (.int .i64 f0) := lb_at HB0.out.blk 0 rfl
              go_upto_region 22 with (go_at_call 37; refine (HY0.out.add (size := 1) rfl (by omega) (by omega) (by have := HLN.out; simp only [List.length_append, be_len] at this ⊢; omega)).mono ?_; rintro _ W1 ⟨y1, rfl, hyN, hgN⟩)
              have HY1 := Lib.hid hyN
              have HA1 := Lib.hid (hgN.pr HA0.out)
              have HB1 := Lib.hid (hgN.pr HB0.out)
              clear hyN hgN c0' HY0 HA0 HB0
              have c1' : W1.cell? ⟨wi.heap.size, 1, none⟩ = some (.int .i64 f1) := lb_at HB1.out.blk 1 rfl
              go_upto_region 23 with (go_at_call 37; refine (HY1.out.add (size := 1) rfl (by omega) (by omega) (by have := HLN.out; simp only [List.length_append, be_len] at this ⊢; omega)).mono ?_; rintro _ W2 ⟨y2, rfl, hyN, hgN⟩)
              have HY2 := Lib.hid hyN
              have HA2 := Lib.hid (hgN.pr HA1.out)
              have HB2 := Lib.hid (hgN.pr HB1.out)
              clear hyN hgN c1' HY1 HA1 HB1
              have c2' : W2.cell? ⟨wi.heap.size, 2, none⟩ = some (.int .i64 f2) := lb_at HB2.out.blk 2 rfl
              go_upto_region 24 with (go_at_call 37; refine (HY2.out.add (size := 2) rfl (by omega) (by omega) (by have := HLN.out; simp only [List.length_append, be_len] at this ⊢; omega)).mono ?_; rintro _ W3 ⟨y3, rfl, hyN, hgN⟩)
              have HY3 := Lib.hid hyN
              have HA3 := Lib.hid (hgN.pr HA2.out)
              have HB3 := Lib.hid (hgN.pr HB2.out)
              clear hyN hgN c2' HY2 HA2 HB2
              have c3' : W3.cell? ⟨wi.heap.size, 3, none⟩ = some (.int .i64 f3) := lb_at HB3.out.blk 3 rfl
              go_upto_region 25 with (go_at_call 37; refine (HY3.out.add (size := 2) rfl (by omega) (by omega) (by have := HLN.out; simp only [List.length_append, be_len] at this ⊢; omega)).mono ?_; rintro _ W4 ⟨y4, rfl, hyN, hgN⟩)
              have HY4 := Lib.hid hyN
              have HA4 := Lib.hid (hgN.pr HA3.out)
              have HB4 := Lib.hid (hgN.pr HB3.out)
              clear hyN hgN c3' HY3 HA3 HB3
              have c4' : W4.cell? ⟨wi.heap.size, 4, none⟩ = some (.int .i64 f4) := lb_at HB4.out.blk 4 rfl
              go_upto_region 26 with (go_at_call 37; refine (HY4.out.add (size := 2) rfl (by omega) (by omega) (by have := HLN.out; simp only [List.length_append, be_len] at this ⊢; omega)).mono ?_; rintro _ W5 ⟨y5, rfl, hyN, hgN⟩)
              have HY5 := Lib.hid hyN
              have HA5 := Lib.hid (hgN.pr HA4.out)
              have HB5 := Lib.hid (hgN.pr HB4.out)
              clear hyN hgN c4' HY4 HA4 HB4
              go_wp2_with fail
              go_roundg (nL - (i + 1))
              case measure => omega
              case rel =>
                have h := HY5.out
                exact ⟨i + 1, y5, by omega, rfl, rfl, by go_num, by rw [rowC, HEF.out]; simpa only [List.append_assoc] using h, HA5.out⟩
            · have g1 : ¬ (i : Int) < (nL : Int) := by omega
              have hie : i = nL := by omega
              have HX : Hid (By w wi v d.enc) := by
                have h := HY.out
                rw [hie, HNL.out] at h
                exact h
              have hl8 : 0 < d.enc.length := by rw [enc_len]; omega
              clear hp HY HP hie hgk hi
              go_wp2_with (first | (show wpList _ _ _ (Oper.mk (some 91) (Op.convert 34 9 (.tmp 90)) _ _ _ _ :: _) _ _; refine wpList_strB rfl (.tmp 90) 34 9 5 rfl d.enc _ rfl HX.out.own tU1 tS1 tS2 hl8 ?_))
              go_ret
              exact ⟨rfl, HX.out.low⟩
end Lo
end Go.Proofs.YtjmifcnfnihhnaaGreatDoor
