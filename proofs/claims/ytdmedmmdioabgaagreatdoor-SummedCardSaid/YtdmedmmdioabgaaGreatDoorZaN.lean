import Derived.Test.YtdmedmmdioabgaaGreatDoorZaK
import Derived.Test.YtdmedmmdioabgaaGreatDoorZaM
/- SUMMED: a text that comes to a number: its code, and its run. -/
set_option linter.unusedVariables false
set_option linter.unusedSimpArgs false
namespace Go.Proofs.YtdmedmmdioabgaaGreatDoor
namespace Sm
open Ev Go.RowKit Sl
/-- the code's bytes depend on the number alone -/
theorem byt_Y (p : Pm) {j i : Nat} (hj : j < 100) (hi : i < 8) : byt1 p (.y (1000 + 16 * j + (8 + i))) = (bytV (p.v j) i).toNat := by
  show (intV (p.env1 (1000 + 16 * j + (8 + i)))).toNat = _
  have : p.env1 (1000 + 16 * j + (8 + i)) = .int .u8 (bytV (p.v j) i) := by
    unfold Pm.env1
    rw [if_pos (by omega), if_neg (by omega), show (1000 + 16 * j + (8 + i) - 1000) / 16 = j by omega, show (1000 + 16 * j + (8 + i) - 1000) % 16 - 8 = i by omega]
  rw [this]
  rfl
theorem lbY_map (p : Pm) {j : Nat} (hj : j < 100) : (lbY j).map (byt1 p) = [109, 108, 0, 1, 0, 1, 0, 2, 0, 0, 0, 0, 0, 0] ++ [(bytV (p.v j) 7).toNat, (bytV (p.v j) 6).toNat, (bytV (p.v j) 5).toNat, (bytV (p.v j) 4).toNat, (bytV (p.v j) 3).toNat, (bytV (p.v j) 2).toNat, (bytV (p.v j) 1).toNat, (bytV (p.v j) 0).toNat] ++ [1, 0, 0, 0, 0, 0, 0, 0, 33, 0, 0, 0, 0, 0, 0, 0] := by
  unfold lbY lbOf
  rw [List.map_append, List.map_append]
  congr 1
  congr 1
  simp only [List.map_cons, List.map_nil]
  rw [show 1000 + 16 * j + 15 = 1000 + 16 * j + (8 + 7) by omega, show 1000 + 16 * j + 14 = 1000 + 16 * j + (8 + 6) by omega, show 1000 + 16 * j + 13 = 1000 + 16 * j + (8 + 5) by omega, show 1000 + 16 * j + 12 = 1000 + 16 * j + (8 + 4) by omega, show 1000 + 16 * j + 11 = 1000 + 16 * j + (8 + 3) by omega, show 1000 + 16 * j + 10 = 1000 + 16 * j + (8 + 2) by omega, show 1000 + 16 * j + 9 = 1000 + 16 * j + (8 + 1) by omega, show 1000 + 16 * j + 8 = 1000 + 16 * j + (8 + 0) by omega]
  rw [byt_Y p hj (by omega), byt_Y p hj (by omega), byt_Y p hj (by omega), byt_Y p hj (by omega), byt_Y p hj (by omega), byt_Y p hj (by omega), byt_Y p hj (by omega), byt_Y p hj (by omega)]
def twoL (z : Int) : List Nat := [109, 108, 0, 1, 0, 1, 0, 2, 0, 0, 0, 0, 0, 0] ++ [(bytV z 7).toNat, (bytV z 6).toNat, (bytV z 5).toNat, (bytV z 4).toNat, (bytV z 3).toNat, (bytV z 2).toNat, (bytV z 1).toNat, (bytV z 0).toNat] ++ [1, 0, 0, 0, 0, 0, 0, 0, 33, 0, 0, 0, 0, 0, 0, 0]
def twoB (z : Int) : ByteArray := (twoL z).foldl (fun r n => r.push (UInt8.ofNat n)) ByteArray.empty
theorem str_Y (p : Pm) {j : Nat} (hj : j < 100) : strOf p (lbY j) = twoB (p.v j) := by
  unfold strOf twoB twoL
  rw [lbY_map p hj]
theorem two_N {t : Nat} (ht : t = 0 ∨ t = 1) : twoL (t : Int) = twoN t := by
  rcases ht with rfl | rfl <;> decide
theorem two_data (z : Int) : (twoB z).data.toList = (twoL z).map UInt8.ofNat := by
  have key : ∀ (m : List Nat) (b : ByteArray), (m.foldl (fun r n => r.push (UInt8.ofNat n)) b).data.toList = b.data.toList ++ m.map UInt8.ofNat := by
    intro m
    induction m with
    | nil => intro b; simp
    | cons n m ih =>
      intro b
      rw [List.foldl_cons, ih]
      simp [ByteArray.push]
  unfold twoB
  rw [key]
  simp
/-- what run answers, by the evaluator -/
noncomputable def isRun (r : R AV) : Bool := match r with
  | .ok (.tp [.ag [e, p, .y 3, .sn, st, rd, gc, us], .c (.b true)]) _ => eqZ e 0 && (eqZ p 0 && (eqZ st 2 && (eqZ rd 0 && (eqZ gc 0 && eqZ us 0))))
  | _ => false
theorem eqZ_eq {x : Sc} {n : Int} (h : eqZ x n = true) : x = .i .i64 n := by
  unfold eqZ at h
  split at h
  · rw [ieq_eq] at h; rw [eq_of_beq h]
  · cases h
theorem isRun_ok {r : R AV} (h : isRun r = true) : ∃ s', r = .ok (.tp [.ag [.i .i64 0, .i .i64 0, .y 3, .sn, .i .i64 2, .i .i64 0, .i .i64 0, .i .i64 0], .c (.b true)]) s' := by
  unfold isRun at h
  split at h
  · simp only [Bool.and_eq_true] at h
    obtain ⟨h1, h2, h3, h4, h5, h6⟩ := h
    rw [eqZ_eq h1, eqZ_eq h2, eqZ_eq h3, eqZ_eq h4, eqZ_eq h5, eqZ_eq h6]
    exact ⟨_, rfl⟩
  · cases h
set_option maxRecDepth 100000 in
set_option maxHeartbeats 0 in
theorem run_two0 : isRun (runR (lbY 3) codY) = true := by kernel_rfl
def pz (src : ByteArray) (z : Int) : Pm := ⟨.pointer none, src, lbY 3, 0, 0, 0, fun _ => 0, fun _ => 0, z⟩
theorem all2_8 {env : Nat → Value} {ρ : Rh} {a0 a1 a2 a3 a4 a5 a6 a7 : Sc} {l : List Value} (h : All2 (VS env ρ) [a0, a1, a2, a3, a4, a5, a6, a7] l) : ∃ u0 u1 u2 u3 u4 u5 u6 u7, l = [u0, u1, u2, u3, u4, u5, u6, u7] ∧ VS env ρ a0 u0 ∧ VS env ρ a1 u1 ∧ VS env ρ a2 u2 ∧ VS env ρ a3 u3 ∧ VS env ρ a4 u4 ∧ VS env ρ a5 u5 ∧ VS env ρ a6 u6 ∧ VS env ρ a7 u7 := by
  cases h with
  | cons h0 h => cases h with
    | cons h1 h => cases h with
      | cons h2 h => cases h with
        | cons h3 h => cases h with
          | cons h4 h => cases h with
            | cons h5 h => cases h with
              | cons h6 h => cases h with
                | cons h7 h => cases h; exact ⟨_, _, _, _, _, _, _, _, rfl, h0, h1, h2, h3, h4, h5, h6, h7⟩
theorem run_two {src : ByteArray} {z : Int} (hz : Sn.I5 z) (hC : CmpIs src (twoB z)) {w : World} (hw : Lw w) : Sn.RunIs src (.slice none 0 0) w (Sn.rsV 0 0 z (.slice none 0 0) 2 0 0 0) := by
  intro W hW
  have hWL := hw.on hW
  have hN : N3 (pz src z) := ⟨fun j h3 h6 => by
    have : j = 3 ∨ j = 4 ∨ j = 5 := by omega
    rcases this with rfl | rfl | rfl
    · show -4611686018427387904 ≤ z ∧ z < 4611686018427387904; omega
    · show -4611686018427387904 ≤ NN 0 ∧ NN 0 < 4611686018427387904; decide
    · show -4611686018427387904 ≤ NN 0 ∧ NN 0 < 4611686018427387904; decide⟩
  have hs : strOf (pz src z) (lbY 3) = twoB z := str_Y (pz src z) (by omega)
  have hx : ∀ ρ, VA (pz src z).env ρ codY (.tuple #[.string (twoB z), .int .i64 0, .int .i64 0]) := fun ρ =>
    ⟨#[.string (twoB z), .int .i64 0, .int .i64 0], rfl, .cons (by show Value.string (twoB z) = Value.string (strOf (pz src z) (lbY 3)); rw [hs]) (.cons rfl (.cons rfl .nil))⟩
  have hT : TOk (T6 (lbY 3) codY) (pz src z).env W := tok6 (p := pz src z) (lb := lbY 3) rfl hN (by kernel_rfl) rfl (cv := twoB z) hx hC hWL
  obtain ⟨s', hr⟩ := isRun_ok run_two0
  refine (run_sim' (p := pz src z) hT hWL hr).mono ?_
  rintro e w' ⟨v', ρ, rfl, ⟨arr, rfl, ha⟩, hb⟩
  refine ⟨?_, hb⟩
  obtain ⟨l0⟩ := arr
  cases ha with
  | cons h1 ha => cases ha with
    | cons h2 ha =>
      cases ha
      obtain ⟨⟨l1⟩, rfl, ha⟩ := h1
      obtain ⟨u0, u1, u2, u3, u4, u5, u6, u7, rfl, e0, e1, e2, e3, e4, e5, e6, e7⟩ := all2_8 ha
      cases e0
      cases e1
      cases e2
      cases e3
      cases e4
      cases e5
      cases e6
      cases e7
      cases h2
      rfl
end Sm
end Go.Proofs.YtdmedmmdioabgaaGreatDoor
/- SUMMED: the texts of one operator come to their number. -/
set_option linter.unusedVariables false
set_option linter.unusedSimpArgs false
namespace Go.Proofs.YtdmedmmdioabgaaGreatDoor
namespace Sm
open Ev Go.RowKit Sl
/-! digits -/
theorem dig_nat {r : Nat} (h : r < 10) : digB (UInt8.ofNat (48 + r)) = true ∧ (UInt8.ofNat (48 + r)).toNat = 48 + r := by
  have h1 : (UInt8.ofNat (48 + r)).toNat = 48 + r := by rw [UInt8.toNat_ofNat', Nat.mod_eq_of_lt (by show 48 + r < 256; omega)]
  refine ⟨?_, h1⟩
  unfold digB
  rw [h1]
  simp
  omega
theorem decF_app : ∀ (l m : List UInt8) (n k : Nat), decF n l = some k → decF n (l ++ m) = decF k m
  | [], m, n, k, h => by cases h; rfl
  | c :: l, m, n, k, h => by
    unfold decF at h
    rw [List.cons_append]
    show (if digB c then (if n * 10 + (c.toNat - 48) ≤ 4611686018427387903 then decF (n * 10 + (c.toNat - 48)) (l ++ m) else none) else none) = _
    split at h
    · rename_i h1
      split at h
      · rename_i h2
        rw [if_pos h1, if_pos h2]
        exact decF_app l m _ k h
      · cases h
    · cases h
theorem decL_ok : ∀ (n : Nat), n < 4611686018427387904 → Sn.decL n ≠ [] ∧ (Sn.decL n).all digB = true ∧ decF 0 (Sn.decL n) = some n := by
  intro n
  induction n using Nat.strongRecOn with
  | ind n ih =>
    intro hn
    by_cases h : n < 10
    · rw [Sn.decL_lo h]
      obtain ⟨h1, h2⟩ := dig_nat h
      refine ⟨by simp, by rw [List.all_cons, h1]; rfl, ?_⟩
      show (if digB _ then (if 0 * 10 + ((UInt8.ofNat (48 + n)).toNat - 48) ≤ 4611686018427387903 then decF (0 * 10 + ((UInt8.ofNat (48 + n)).toNat - 48)) [] else none) else none) = _
      rw [if_pos h1, h2, if_pos (by omega)]
      show some _ = some n
      congr 1
      omega
    · rw [Sn.decL_hi h]
      obtain ⟨i1, i2, i3⟩ := ih (n / 10) (by omega) (by omega)
      obtain ⟨h1, h2⟩ := dig_nat (r := n % 10) (by omega)
      refine ⟨by simp, by rw [List.all_append, i2, List.all_cons, h1]; rfl, ?_⟩
      rw [decF_app _ _ _ _ i3]
      show (if digB _ then (if n / 10 * 10 + ((UInt8.ofNat (48 + n % 10)).toNat - 48) ≤ 4611686018427387903 then decF (n / 10 * 10 + ((UInt8.ofNat (48 + n % 10)).toNat - 48)) [] else none) else none) = _
      rw [if_pos h1, h2, if_pos (by omega)]
      show some _ = some n
      congr 1
      omega
def nvO (a b : Int) (i : Nat) : Nat := if i = 5 then (NN b).toNat else if i = 4 then (NN a).toNat else 0
def dgO (a b : Int) (i : Nat) : List UInt8 := Sn.decL (nvO a b i)
theorem NN_lt {a : Int} (ha : Sn.I5 a) : (NN a).toNat < 4611686018427387904 ∧ ((NN a).toNat : Int) = NN a := by
  have := NN_in (a := a) (by omega)
  omega
theorem dg_ok {a b : Int} (ha : Sn.I5 a) (hb : Sn.I5 b) : Dg (dgO a b) (nvO a b) := by
  have h : ∀ i, nvO a b i < 4611686018427387904 := fun i => by
    unfold nvO
    have h1 := NN_lt ha
    have h2 := NN_lt hb
    split
    · exact h2.1
    · split
      · exact h1.1
      · omega
  exact ⟨fun i => (decL_ok _ (h i)).1, fun i => (decL_ok _ (h i)).2.1, fun i => (decL_ok _ (h i)).2.2⟩
/-! the texts are those of the law -/
def bN (a : Int) : Bool := decide (a < 0)
theorem said_flat {a b : Int} {i : Nat} {c : Int} (h : nvO a b i = (NN c).toNat) : flat (dgO a b) (saidL (bN c) i) = Sn.saidS c := by
  unfold Sn.saidS bN
  by_cases hc : c < 0
  · rw [if_pos hc, decide_eq_true hc]
    show sgB 23 ++ (sgB 31 ++ (dgO a b i ++ (sgB 31 ++ ([49] ++ (sgB 24 ++ []))))) = _
    unfold dgO
    rw [h]
    have : NN c = -(c + 1) := by unfold NN; rw [if_pos hc]
    rw [this]
    rfl
  · rw [if_neg hc, decide_eq_false hc]
    show dgO a b i ++ [] = _
    unfold dgO
    rw [h, List.append_nil]
    have : NN c = c := by unfold NN; rw [if_neg hc]
    rw [this]
theorem flat_app (dg : Nat → List UInt8) (l m : List Lm) : flat dg (l ++ m) = flat dg l ++ flat dg m := by unfold flat; rw [List.flatMap_append]
theorem op_flat (dg : Nat → List UInt8) {o : Nat} (ho : o < 11) : flat dg [.sg (opK o)] = Sn.sgnL o := by
  have ho' : o = 0 ∨ o = 1 ∨ o = 2 ∨ o = 3 ∨ o = 4 ∨ o = 5 ∨ o = 6 ∨ o = 7 ∨ o = 8 ∨ o = 9 ∨ o = 10 := by omega
  rcases ho' with rfl | rfl | rfl | rfl | rfl | rfl | rfl | rfl | rfl | rfl | rfl <;> rfl
theorem cmp_flat (dg : Nat → List UInt8) (o : Nat) (l : List Lm) : flat dg (cmpL o l) = Sn.cmpS o (flat dg l) := by
  unfold cmpL Sn.cmpS
  by_cases h : 5 ≤ o
  · rw [if_pos h, show Nat.ble 5 o = true from Nat.ble_eq_true_of_le h]
    show flat dg ([.wd [105, 102], .bl] ++ l ++ _) = _
    rw [flat_app, flat_app]
    rfl
  · rw [if_neg h, show Nat.ble 5 o = false by cases hh : Nat.ble 5 o with | true => exact absurd (Nat.le_of_ble_eq_true hh) h | false => rfl]
    rfl
theorem f_flat (dg : Nat → List UInt8) {o : Nat} (ho : o < 11) : flat dg (fL o) = Sn.fS o := by
  unfold fL Sn.fS
  rw [cmp_flat, ← op_flat dg ho]
  show Sn.cmpS o (flat dg ([.wd [120]] ++ [.sg (opK o)] ++ [.wd [121]])) = _
  rw [flat_app, flat_app]
  rfl
/-- the text of a form -/
def txS (f o : Nat) (a b : Int) : List UInt8 := match f with
  | 0 => Sn.eS o a b
  | 1 => Sn.recS o a b
  | 2 => Sn.tupS o a b
  | _ => Sn.minS a
theorem lx_flat {f o : Nat} (hf : f < 4) (ho : o < 11) (a b : Int) : flat (dgO a b) (lx f o (bN a) (bN b)) = txS f o a b := by
  have h4 : flat (dgO a b) (saidL (bN a) 4) = Sn.saidS a := said_flat rfl
  have h5 : flat (dgO a b) (saidL (bN b) 5) = Sn.saidS b := said_flat rfl
  have hf' : f = 0 ∨ f = 1 ∨ f = 2 ∨ f = 3 := by omega
  rcases hf' with rfl | rfl | rfl | rfl
  · show flat (dgO a b) (cmpL o (saidL (bN a) 4 ++ [.sg (opK o)] ++ saidL (bN b) 5)) = Sn.cmpS o (Sn.saidS a ++ Sn.sgnL o ++ Sn.saidS b)
    rw [cmp_flat, flat_app, flat_app, h4, h5, op_flat _ ho]
  · show flat (dgO a b) ([.wd [108, 101, 116], .bl, .wd [114, 101, 99], .bl, .wd [102], .bl, .wd [120], .bl, .wd [121], .sg 27] ++ fL o ++ [.bl, .wd [105, 110], .bl, .wd [102], .sg 23] ++ saidL (bN a) 4 ++ [.sg 24, .sg 23] ++ saidL (bN b) 5 ++ [.sg 24]) = Sn.recS o a b
    rw [flat_app, flat_app, flat_app, flat_app, flat_app, flat_app, h4, h5, f_flat _ ho]
    rfl
  · show flat (dgO a b) ([.wd [108, 101, 116], .sg 23, .wd [120], .sg 25, .wd [121], .sg 24, .sg 27, .sg 23] ++ saidL (bN a) 4 ++ [.sg 25] ++ saidL (bN b) 5 ++ [.sg 24, .wd [105, 110], .bl] ++ fL o) = Sn.tupS o a b
    rw [flat_app, flat_app, flat_app, flat_app, flat_app, h4, h5, f_flat _ ho]
    rfl
  · show flat (dgO a b) ([.sg 31] ++ saidL (bN a) 4) = [45] ++ Sn.saidS a
    rw [flat_app, h4]
    rfl
theorem tx_len {f o : Nat} (ho : o < 11) {a b : Int} (ha : Sn.I5 a) (hb : Sn.I5 b) : (txS f o a b).length ≤ 400 := by
  have h1 := Sn.said_len ha
  have h2 := Sn.said_len hb
  have h3 := Sn.sgl_len o
  have h4 := Sn.cmp_len o ([120] ++ Sn.sgnL o ++ [121])
  have h5 := Sn.cmp_len o (Sn.saidS a ++ Sn.sgnL o ++ Sn.saidS b)
  simp only [List.length_append, List.length_cons, List.length_nil] at h4 h5
  unfold txS
  split
  · unfold Sn.eS; omega
  · unfold Sn.recS Sn.fS; simp only [List.length_append, List.length_cons, List.length_nil]; omega
  · unfold Sn.tupS Sn.fS; simp only [List.length_append, List.length_cons, List.length_nil]; omega
  · unfold Sn.minS; simp only [List.length_append, List.length_cons, List.length_nil]; omega
end Sm
end Go.Proofs.YtdmedmmdioabgaaGreatDoor
/- SUMMED: the code of a text of one operator is two lines. -/
set_option linter.unusedVariables false
set_option linter.unusedSimpArgs false
namespace Go.Proofs.YtdmedmmdioabgaaGreatDoor
namespace Sm
open Ev Go.RowKit Sl
/-! the number -/
theorem wr63_in {z : Int} (h1 : -4611686018427387904 ≤ z) (h2 : z < 4611686018427387904) : wr63 (i6 z) = z := by
  unfold wr63
  rw [show i6 z = z from i6_in (by omega) (by omega)]
  exact half h1 h2
theorem wr63_wv (z : Int) : wr63 (i6 z) = Sn.wv z := by
  unfold wr63 Sn.wv wrap64
  rw [i6_eq, i6_eq, Int.fdiv_eq_ediv_of_nonneg _ (by omega)]
  omega
theorem opv_val {o : Nat} (ho : o < 5) {a b : Int} (ha : Sn.I5 a) (hb : Sn.I5 b) (hd : Sn.wok o b = true) : wr63 (i6 (opv o a b)) = Sn.wval o a b := by
  have ho' : o = 0 ∨ o = 1 ∨ o = 2 ∨ o = 3 ∨ o = 4 := by omega
  rcases ho' with rfl | rfl | rfl | rfl | rfl
  · exact wr63_wv _
  · exact wr63_wv _
  · show wr63 (i6 (a * b)) = Sn.wv (wrap64 (a * b))
    generalize a * b = n
    rw [wr63_wv]
    unfold Sn.wv wrap64
    omega
  · have h0 : b ≠ 0 := fun e => by rw [e] at hd; cases hd
    show wr63 (i6 (a.tdiv b)) = if b = 0 then 0 else Sn.wv (a.tdiv b)
    rw [if_neg h0]
    exact wr63_wv _
  · have h0 : b ≠ 0 := fun e => by rw [e] at hd; cases hd
    show wr63 (i6 (a.tmod b)) = if b = 0 then 0 else a.tmod b
    rw [if_neg h0]
    have h2 : (a.tmod b).natAbs ≤ a.natAbs := by rw [Int.natAbs_tmod]; exact Nat.mod_le _ _
    by_cases e : 0 ≤ a
    · have := Int.tmod_nonneg b e
      exact wr63_in (by omega) (by omega)
    · have := Int.tmod_nonneg b (show 0 ≤ -a by omega)
      rw [Int.neg_tmod] at this
      exact wr63_in (by omega) (by omega)
def ordO (a b : Int) : Nat := if a < b then 0 else if a = b then 1 else 2
theorem tru_val {o : Nat} (h5 : 5 ≤ o) (ho : o < 11) (a b : Int) : ((tru o (ordO a b) : Nat) : Int) = Sn.wval o a b ∧ (tru o (ordO a b) = 0 ∨ tru o (ordO a b) = 1) := by
  have ho' : o = 5 ∨ o = 6 ∨ o = 7 ∨ o = 8 ∨ o = 9 ∨ o = 10 := by omega
  have ht : ∀ {c : Prop} [Decidable c], Sn.tr (decide c) = if c then 1 else 0 := fun {c} _ => by
    by_cases h : c
    · rw [if_pos h, decide_eq_true h]; rfl
    · rw [if_neg h, decide_eq_false h]; rfl
  have hbe : ∀ c d : Int, (c == d) = decide (c = d) := fun c d => by rw [Bool.eq_iff_iff]; simp
  have hbn : ∀ c d : Int, (c != d) = decide (¬ c = d) := fun c d => by rw [Bool.eq_iff_iff]; simp
  have e5 : Sn.wval 5 a b = if a = b then 1 else 0 := by show Sn.tr (a == b) = _; rw [hbe, ht]
  have e6 : Sn.wval 6 a b = if ¬ a = b then 1 else 0 := by show Sn.tr (a != b) = _; rw [hbn, ht]
  have e7 : Sn.wval 7 a b = if a < b then 1 else 0 := ht
  have e8 : Sn.wval 8 a b = if a ≤ b then 1 else 0 := ht
  have e9 : Sn.wval 9 a b = if b < a then 1 else 0 := ht
  have e10 : Sn.wval 10 a b = if b ≤ a then 1 else 0 := ht
  unfold ordO
  by_cases h1 : a < b
  · rw [if_pos h1]
    rcases ho' with rfl | rfl | rfl | rfl | rfl | rfl
    · rw [e5, if_neg (by omega)]; exact ⟨rfl, .inl rfl⟩
    · rw [e6, if_pos (by omega)]; exact ⟨rfl, .inr rfl⟩
    · rw [e7, if_pos (by omega)]; exact ⟨rfl, .inr rfl⟩
    · rw [e8, if_pos (by omega)]; exact ⟨rfl, .inr rfl⟩
    · rw [e9, if_neg (by omega)]; exact ⟨rfl, .inl rfl⟩
    · rw [e10, if_neg (by omega)]; exact ⟨rfl, .inl rfl⟩
  · rw [if_neg h1]
    by_cases h2 : a = b
    · rw [if_pos h2]
      rcases ho' with rfl | rfl | rfl | rfl | rfl | rfl
      · rw [e5, if_pos (by omega)]; exact ⟨rfl, .inr rfl⟩
      · rw [e6, if_neg (by omega)]; exact ⟨rfl, .inl rfl⟩
      · rw [e7, if_neg (by omega)]; exact ⟨rfl, .inl rfl⟩
      · rw [e8, if_pos (by omega)]; exact ⟨rfl, .inr rfl⟩
      · rw [e9, if_neg (by omega)]; exact ⟨rfl, .inl rfl⟩
      · rw [e10, if_pos (by omega)]; exact ⟨rfl, .inr rfl⟩
    · rw [if_neg h2]
      rcases ho' with rfl | rfl | rfl | rfl | rfl | rfl
      · rw [e5, if_neg (by omega)]; exact ⟨rfl, .inl rfl⟩
      · rw [e6, if_pos (by omega)]; exact ⟨rfl, .inr rfl⟩
      · rw [e7, if_neg (by omega)]; exact ⟨rfl, .inl rfl⟩
      · rw [e8, if_neg (by omega)]; exact ⟨rfl, .inl rfl⟩
      · rw [e9, if_pos (by omega)]; exact ⟨rfl, .inr rfl⟩
      · rw [e10, if_pos (by omega)]; exact ⟨rfl, .inr rfl⟩
/-! the case that there is -/
def oO (o : Nat) (a b : Int) : Nat := if 5 ≤ o then ordO a b else 0
def zO (o : Nat) (a b : Int) : Bool := decide ((if 9 ≤ o then a else b) = 0)
theorem ble_f {m n : Nat} (h : ¬ m ≤ n) : Nat.ble m n = false := by cases hh : Nat.ble m n with | true => exact absurd (Nat.le_of_ble_eq_true hh) h | false => rfl
theorem oO_in {o : Nat} (ho : o < 11) (a b : Int) : oO o a b ∈ ords o (bN a) (bN b) := by
  unfold oO ords
  by_cases h5 : 5 ≤ o
  · rw [if_pos h5, show Nat.ble 5 o = true from Nat.ble_eq_true_of_le h5]
    unfold bN ordO
    by_cases ha : a < 0
    · rw [decide_eq_true ha]
      by_cases hb : b < 0
      · rw [decide_eq_true hb]
        show _ ∈ [0, 1, 2]
        split
        · decide
        · split <;> decide
      · rw [decide_eq_false hb, if_pos (by omega)]; decide
    · rw [decide_eq_false ha]
      by_cases hb : b < 0
      · rw [decide_eq_true hb, if_neg (by omega), if_neg (by omega)]; decide
      · rw [decide_eq_false hb]
        show _ ∈ [0, 1, 2]
        split
        · decide
        · split <;> decide
  · rw [if_neg h5, ble_f h5]; show 0 ∈ [0]; decide
theorem zO_in {o : Nat} (ho : o < 11) {a b : Int} (hd : Sn.wok o b = true) : zO o a b ∈ zbs o (bN a) (bN b) := by
  have hb2 : ∀ x : Bool, x ∈ [false, true] := fun x => by cases x <;> decide
  have hn : ∀ c : Int, c < 0 → decide (c = 0) = false := fun c h => decide_eq_false (by omega)
  have ho' : o = 3 ∨ o = 4 ∨ ((o = 0 ∨ o = 1 ∨ o = 2 ∨ o = 5 ∨ o = 6 ∨ o = 7 ∨ o = 8) ∨ (o = 9 ∨ o = 10)) := by omega
  rcases ho' with rfl | rfl | ho' | ho'
  · have h0 : b ≠ 0 := fun e => by rw [e] at hd; cases hd
    show decide (b = 0) ∈ [false]
    rw [decide_eq_false h0]; decide
  · have h0 : b ≠ 0 := fun e => by rw [e] at hd; cases hd
    show decide (b = 0) ∈ [false]
    rw [decide_eq_false h0]; decide
  · have : zO o a b = decide (b = 0) := by unfold zO; rw [if_neg (by omega)]
    rw [this]
    have : zbs o (bN a) (bN b) = bif bN b then [false] else [false, true] := by rcases ho' with rfl | rfl | rfl | rfl | rfl | rfl | rfl <;> rfl
    rw [this]
    unfold bN
    by_cases hb : b < 0
    · rw [decide_eq_true hb, hn b hb]; decide
    · rw [decide_eq_false hb]; exact hb2 _
  · have : zO o a b = decide (a = 0) := by unfold zO; rw [if_pos (by omega)]
    rw [this]
    have : zbs o (bN a) (bN b) = bif bN a then [false] else [false, true] := by rcases ho' with rfl | rfl <;> rfl
    rw [this]
    unfold bN
    by_cases hb : a < 0
    · rw [decide_eq_true hb, hn a hb]; decide
    · rw [decide_eq_false hb]; exact hb2 _
/-- the text's own -/
noncomputable def pmO (c : Value) (f o oq : Nat) (a b : Int) (lb l : List Sc) : Pm := ⟨c, Sn.bs (txS f o a b), lb, a, b, oq, plOf (toks (dgO a b) (nvO a b) (lx f o (bN a) (bN b)) 0) (flat (dgO a b) (lx f o (bN a) (bN b))).length, pnL a b l, 0⟩
theorem hy_O {f o : Nat} (ho : o < 11) {a b : Int} (ha : Sn.I5 a) (hb : Sn.I5 b) (c : Value) (lb l : List Sc) : Hy (pmO c f o o a b lb l) (qOf o (bN a) (bN b) (oO o a b) (zO o a b)) := by
  have hcm : (qOf o (bN a) (bN b) (oO o a b) (zO o a b)).cm = true → oO o a b = ordO a b := fun h => by
    replace h : (Nat.ble 5 o && Nat.ble o 10) = true := h
    rw [Bool.and_eq_true] at h
    have : 5 ≤ o := ble_t h.1
    unfold oO
    rw [if_pos this]
  refine ⟨⟨ha.1, by show a < _; omega⟩, ⟨hb.1, by show b < _; omega⟩, rfl, ?_, ?_, fun h => ?_, fun h => ?_, fun h => ?_, fun h => ?_⟩
  · show iA (bN a) = if a < 0 then 12 else 4
    unfold bN
    by_cases h : a < 0
    · rw [decide_eq_true h, if_pos h]; rfl
    · rw [decide_eq_false h, if_neg h]; rfl
  · show iB (bN b) = if b < 0 then 13 else 5
    unfold bN
    by_cases h : b < 0
    · rw [decide_eq_true h, if_pos h]; rfl
    · rw [decide_eq_false h, if_neg h]; rfl
  · show oO o a b = 0 ↔ a < b
    rw [hcm h]
    unfold ordO
    split
    · omega
    · split <;> omega
  · show oO o a b = 1 ↔ a = b
    rw [hcm h]
    unfold ordO
    split
    · omega
    · split <;> omega
  · show oO o a b = 2 ↔ b < a
    rw [hcm h]
    unfold ordO
    split
    · omega
    · split <;> omega
  · show zO o a b = true ↔ (if 9 ≤ o then a else b) = 0
    unfold zO
    exact decide_eq_true_iff
theorem tk_O {f o : Nat} (hf : f < 4) (ho : o < 11) {a b : Int} (ha : Sn.I5 a) (hb : Sn.I5 b) (c : Value) (oq : Nat) (lb l : List Sc) : Tk (pmO c f o oq a b lb l) (txt f o (bN a) (bN b)) (toks (dgO a b) (nvO a b) (lx f o (bN a) (bN b)) 0) := by
  have h := lx_ok hf ho (bN a) (bN b)
  simp only [Bool.and_eq_true] at h
  have h3 : (w3s (lx f o (bN a) (bN b))).length < 100 := blt_t h.2.2
  have := tk_of (p := pmO c f o oq a b lb l) (dg_ok ha hb) (fun i hi => ?_) h.1 h.2.1 (by omega) ?_ ?_ rfl
  · rw [lx_w hf ho] at this; exact this
  · rcases hi with rfl | rfl
    · exact (NN_lt ha).2.symm
    · exact (NN_lt hb).2.symm
  · rw [lx_flat hf ho]; rfl
  · rw [lx_flat hf ho]; exact tx_len ho ha hb
theorem good_pool (o : Nat) (sa sb : Bool) : goodQ (pool o sa sb) = true ∧ (pool o sa sb).length < 900 := by
  unfold pool
  cases Nat.ble 5 o <;> cases sa <;> cases sb <;> exact ⟨rfl, by decide⟩
theorem isY_ok {r : R AV} (h : isY r = true) : ∃ s', r = .ok (.tp [.c (.y 2), .c (.i .i64 0), .c (.i .i64 0)]) s' := by
  unfold isY at h
  split at h
  · rw [Bool.and_eq_true] at h
    rw [eqZ_eq h.1, eqZ_eq h.2]
    exact ⟨_, rfl⟩
  · cases h
theorem isS_ok {l : List Nat} {r : R AV} (h : isS l r = true) : ∃ s', r = .ok (.tp [.c (.s l), .c (.i .i64 0), .c (.i .i64 0)]) s' := by
  unfold isS at h
  split at h
  · simp only [Bool.and_eq_true] at h
    have h1 := h.1
    rw [leq_eq] at h1
    rw [eqZ_eq h.2.1, eqZ_eq h.2.2, of_decide_eq_true h1]
    exact ⟨_, rfl⟩
  · cases h
theorem va3 {env : Nat → Value} {ρ : Rh} {x : Sc} {v : Value} (h : VA env ρ (.tp [.c x, .c (.i .i64 0), .c (.i .i64 0)]) v) : ∃ u, VS env ρ x u ∧ v = .tuple #[u, .int .i64 0, .int .i64 0] := by
  obtain ⟨⟨l0⟩, rfl, ha⟩ := h
  cases ha with
  | cons h1 ha => cases ha with
    | cons h2 ha => cases ha with
      | cons h3 ha =>
        cases ha
        cases h2
        cases h3
        exact ⟨_, h1, rfl⟩
theorem cmp_num {f o oq : Nat} (hf : f < 4) (ho : o < 11) {a b : Int} (ha : Sn.I5 a) (hb : Sn.I5 b) {l : List Sc} (hl : goodQ l = true ∧ l.length < 900) {j : Nat} (hj : j < 100) {q : Q} (hy : ∀ c, Hy (pmO c f o oq a b (lbY j) l) q) (h : isY (compR (txt f o (bN a) (bN b)) l q (lbY j)) = true) (hg : goodB (lbY j) = true) {z : Int} (hz : ∀ c, (pmO c f o oq a b (lbY j) l).v j = z) : CmpIs (Sn.bs (txS f o a b)) (twoB z) := by
  intro c w hc hw
  obtain ⟨s', hr⟩ := isY_ok h
  refine (comp_sim (p := pmO c f o oq a b (lbY j) l) hc (tk_O hf ho ha hb c oq _ _) hl.1 hl.2 rfl (hy c) hg rfl hw hr).mono ?_
  rintro e w' ⟨v', ρ, rfl, hv, hb'⟩
  obtain ⟨u, hu, rfl⟩ := va3 hv
  refine ⟨?_, hb'⟩
  have hu : u = .string (strOf (pmO c f o oq a b (lbY j) l) (lbY j)) := hu
  rw [hu, str_Y _ hj, hz c]
theorem cmp_tru {f o oq : Nat} (hf : f < 4) (ho : o < 11) {a b : Int} (ha : Sn.I5 a) (hb : Sn.I5 b) {l : List Sc} (hl : goodQ l = true ∧ l.length < 900) {q : Q} (hy : ∀ c, Hy (pmO c f o oq a b [] l) q) {t : Nat} (ht : t = 0 ∨ t = 1) (h : isS (twoN t) (compR (txt f o (bN a) (bN b)) l q []) = true) : CmpIs (Sn.bs (txS f o a b)) (twoB (t : Int)) := by
  intro c w hc hw
  obtain ⟨s', hr⟩ := isS_ok h
  refine (comp_sim (p := pmO c f o oq a b [] l) hc (tk_O hf ho ha hb c oq _ _) hl.1 hl.2 rfl (hy c) rfl rfl hw hr).mono ?_
  rintro e w' ⟨v', ρ, rfl, hv, hb'⟩
  obtain ⟨u, hu, rfl⟩ := va3 hv
  refine ⟨?_, hb'⟩
  obtain ⟨s, rfl, hs⟩ := hu
  have : s = twoB (t : Int) := str_inj (by rw [hs, two_data, two_N ht]; rcases ht with rfl | rfl <;> rfl)
  rw [this]
theorem goodY : goodB (lbY 18) = true ∧ goodB (lbY 6) = true ∧ goodB (lbY 21) = true := ⟨by kernel_rfl, by kernel_rfl, by kernel_rfl⟩
/-- a text of one operator -/
theorem cmp_two {f o : Nat} (hf : f < 3) (ho : o < 11) {a b : Int} (ha : Sn.I5 a) (hb : Sn.I5 b) (hd : Sn.wok o b = true) (hC : chk f o (bN a) (bN b) = true) : CmpIs (Sn.bs (txS f o a b)) (twoB (Sn.wval o a b)) := by
  have h := List.all_eq_true.1 (List.all_eq_true.1 hC _ (oO_in ho a b)) _ (zO_in (a := a) ho hd)
  unfold okR at h
  by_cases h5 : 5 ≤ o
  · rw [show Nat.ble 5 o = true from Nat.ble_eq_true_of_le h5] at h
    replace h : isS (twoN (tru o (oO o a b))) (compR (txt f o (bN a) (bN b)) (pool o (bN a) (bN b)) (qOf o (bN a) (bN b) (oO o a b) (zO o a b)) []) = true := h
    have e : oO o a b = ordO a b := by unfold oO; rw [if_pos h5]
    obtain ⟨t1, t2⟩ := tru_val h5 ho a b
    rw [← t1]
    refine cmp_tru (by omega) ho ha hb (good_pool o (bN a) (bN b)) (fun c => hy_O ho ha hb c _ _) t2 ?_
    rw [← e]
    exact h
  · rw [ble_f h5] at h
    replace h : isY (compR (txt f o (bN a) (bN b)) (pool o (bN a) (bN b)) (qOf o (bN a) (bN b) (oO o a b) (zO o a b)) (lbY 18)) = true := h
    exact cmp_num (by omega) ho ha hb (good_pool o (bN a) (bN b)) (by omega) (fun c => hy_O ho ha hb c _ _) h goodY.1 (fun c => opv_val (o := o) (show o < 5 by omega) ha hb hd)
/-- a sign ahead -/
theorem cmp_min {a : Int} (ha : Sn.I5 a) (hC : chkN (bN a) = true) : CmpIs (Sn.bs (Sn.minS a)) (twoB (Sn.wv (-a))) := by
  have hy : ∀ (c : Value) (lb l : List Sc), Hy (pmO c 3 0 11 a 0 lb l) (qOf 11 (bN a) false 0 false) := fun c lb l => by
    refine ⟨⟨ha.1, by show a < _; omega⟩, ⟨by show _ ≤ (0 : Int); omega, by show (0 : Int) < _; omega⟩, rfl, ?_, rfl, (fun h => by cases h), (fun h => by cases h), (fun h => by cases h), fun h => absurd h (by show ¬ 11 ≤ 10; omega)⟩
    show iA (bN a) = if a < 0 then 12 else 4
    unfold bN
    by_cases h : a < 0
    · rw [decide_eq_true h, if_pos h]; rfl
    · rw [decide_eq_false h, if_neg h]; rfl
  unfold chkN at hC
  by_cases h : a < 0
  · have hs : bN a = true := decide_eq_true h
    have hC' : isY (compR (txt 3 0 (bN a) (bN 0)) [.y 4, o1] (qOf 11 (bN a) false 0 false) (lbY 21)) = true := by rw [hs] at hC ⊢; exact hC
    refine cmp_num (f := 3) (o := 0) (oq := 11) (by omega) (by omega) ha (b := 0) (by omega) (l := [.y 4, o1]) ⟨rfl, by decide⟩ (j := 21) (by omega) (fun c => hy c _ _) hC' goodY.2.2 (fun c => ?_)
    show wr63 (i6 (-(-NN a - 1))) = _
    have : NN a = -(a + 1) := by unfold NN; rw [if_pos h]
    rw [this, wr63_wv]
    congr 1
    omega
  · have hs : bN a = false := decide_eq_false h
    have hC' : isY (compR (txt 3 0 (bN a) (bN 0)) [.y 4] (qOf 11 (bN a) false 0 false) (lbY 6)) = true := by rw [hs] at hC ⊢; exact hC
    refine cmp_num (f := 3) (o := 0) (oq := 11) (by omega) (by omega) ha (b := 0) (by omega) (l := [.y 4]) ⟨rfl, by decide⟩ (j := 6) (by omega) (fun c => hy c _ _) hC' goodY.2.1 (fun c => ?_)
    show -NN a = _
    have : NN a = a := by unfold NN; rw [if_neg h]
    rw [this]
    unfold Sn.wv wrap64
    omega
end Sm
end Go.Proofs.YtdmedmmdioabgaaGreatDoor
