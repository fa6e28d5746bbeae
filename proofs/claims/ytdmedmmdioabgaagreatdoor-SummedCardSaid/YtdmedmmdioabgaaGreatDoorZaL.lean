import Derived.Test.YtdmedmmdioabgaaGreatDoorProg
import Derived.WalkKit
import Derived.WalkSpells
import Derived.WalkLawsBesides
import Derived.Handy
import Derived.Deep.RegionWith
import Derived.Lib.Hide
import Derived.Test.YtdmedmmdioabgaaGreatDoorZaF
import Derived.Deep.LoopGhost
import Derived.Laws.Strings
import Derived.Lib.Strings
import Derived.Laws.IdiomStrings
/- WALKS: the law's own helpers: wrap, pick, truth, works. -/
set_option linter.unusedVariables false
set_option linter.unusedSimpArgs false
namespace Go.Proofs.YtdmedmmdioabgaaGreatDoor
namespace Sn
open Go.RowKit
abbrev I6 (n : Int) : Prop := -9223372036854775808 ≤ n ∧ n ≤ 9223372036854775807
/-- a number of 63 bits -/
abbrev I5 (n : Int) : Prop := -4611686018427387904 ≤ n ∧ n ≤ 4611686018427387903
def wv (n : Int) : Int := wrap64 (n * 2) / 2
theorem wrap_w (n : Int) (w : World) : Calls Tryz.prog 5 #[.int .i64 n] w fun e w' => e = .returned (.int .i64 (wv n)) ∧ w' = w := by
  go_enter Tryz.func5, Tryz.ntmps5
  go_wp2
  go_ret
  exact ⟨rfl, rfl⟩
theorem pick_w {c : Int} (hc : I6 c) : ∃ k : Nat, k < 11 ∧ ∀ w, Calls Tryz.prog 6 #[.int .i64 c, .int .i64 11] w fun e w' => e = .returned (.int .i64 (k : Nat)) ∧ w' = w := by
  have hm : ∀ z : Int, 0 ≤ z → ∃ k : Nat, k < 11 ∧ z.tmod 11 = (k : Nat) := fun z hz => by
    have h1 := Int.tmod_nonneg 11 hz
    have h2 := Int.tmod_lt_of_pos z (show (0 : Int) < 11 by omega)
    exact ⟨(z.tmod 11).toNat, by omega, by omega⟩
  by_cases h : c < 0
  · obtain ⟨k, h1, h2⟩ := hm (-(c + 1)) (by omega)
    refine ⟨k, h1, fun w => ?_⟩
    go_enter Tryz.func6, Tryz.ntmps6
    go_wp2
    go_ret
    exact ⟨rfl, rfl⟩
  · obtain ⟨k, h1, h2⟩ := hm c (by omega)
    refine ⟨k, h1, fun w => ?_⟩
    go_enter Tryz.func6, Tryz.ntmps6
    go_wp2
    go_ret
    exact ⟨rfl, rfl⟩
def tr (b : Bool) : Int := if b then 1 else 0
theorem truth_w (b : Bool) (w : World) : Calls Tryz.prog 13 #[.bool b] w fun e w' => e = .returned (.int .i64 (tr b)) ∧ w' = w := by
  cases b
  all_goals
    go_enter Tryz.func13, Tryz.ntmps13
    go_wp2
    go_ret
    exact ⟨rfl, rfl⟩
def sgnL (o : Nat) : List UInt8 := match o with
  | 0 => [43]
  | 1 => [45]
  | 2 => [42]
  | 3 => [47]
  | 4 => [37]
  | 5 => [61]
  | 6 => [60, 62]
  | 7 => [60]
  | 8 => [60, 61]
  | 9 => [62]
  | _ => [62, 61]
def sgnB (o : Nat) : ByteArray := ⟨(sgnL o).toArray⟩
def wval (o : Nat) (a b : Int) : Int := match o with
  | 0 => wv (a + b)
  | 1 => wv (a - b)
  | 2 => wv (wrap64 (a * b))
  | 3 => if b = 0 then 0 else wv (a.tdiv b)
  | 4 => if b = 0 then 0 else a.tmod b
  | 5 => tr (a == b)
  | 6 => tr (a != b)
  | 7 => tr (decide (a < b))
  | 8 => tr (decide (a ≤ b))
  | 9 => tr (decide (b < a))
  | _ => tr (decide (b ≤ a))
def wok (o : Nat) (b : Int) : Bool := !((o == 3 || o == 4) && b == 0)
set_option maxRecDepth 100000 in
theorem works_w {o : Nat} (ho : o < 11) {a b : Int} (ha : I5 a) (hb : I5 b) (w : World) : Calls Tryz.prog 7 #[.int .i64 a, .int .i64 b, .int .i64 (o : Nat)] w fun e w' => e = .returned (.tuple #[.string (sgnB o), .int .i64 (wval o a b), .bool (wok o b)]) ∧ Below w.heap.size w w' := by
  have CW := Lib.hid wrap_w
  have CT := Lib.hid truth_w
  have ho' : o = 0 ∨ o = 1 ∨ o = 2 ∨ o = 3 ∨ o = 4 ∨ o = 5 ∨ o = 6 ∨ o = 7 ∨ o = 8 ∨ o = 9 ∨ o = 10 := by omega
  clear ho
  rcases ho' with rfl | rfl | rfl | rfl | rfl | rfl | rfl | rfl | rfl | rfl | rfl
  case inr.inr.inr.inl =>
    by_cases hb0 : b = 0
    · subst hb0
      go_enter Tryz.func7, Tryz.ntmps7
      go_wp2_with (first | (go_at_call 5; refine (CW.out _ _).mono ?_; rintro e w1 ⟨rfl, rfl⟩) | (go_at_call 13; refine (CT.out _ _).mono ?_; rintro e w1 ⟨rfl, rfl⟩))
      go_ret3
      exact ⟨rfl, Below.refl _ _⟩
    · have g0 : (b == 0) = false := by simpa using hb0
      have e1 : wval 3 a b = wv (a.tdiv b) := if_neg hb0
      have e2 : wok 3 b = true := by show (!((true) && b == 0)) = true; rw [g0]; rfl
      rw [e1, e2]
      clear e1 e2
      have h1 := Int.natAbs_tdiv_le_natAbs a b
      obtain ⟨q, hq⟩ : ∃ q, a.tdiv b = q := ⟨_, rfl⟩
      rw [hq] at h1 ⊢
      have hq1 : -9223372036854775808 ≤ q ∧ q ≤ 9223372036854775807 := by omega
      clear h1
      go_enter Tryz.func7, Tryz.ntmps7
      go_wp2_with (first | (go_at_call 5; refine (CW.out _ _).mono ?_; rintro e w1 ⟨rfl, rfl⟩) | (go_at_call 13; refine (CT.out _ _).mono ?_; rintro e w1 ⟨rfl, rfl⟩))
      go_ret3
      exact ⟨rfl, Below.refl _ _⟩
  case inr.inr.inr.inr.inl =>
    by_cases hb0 : b = 0
    · subst hb0
      go_enter Tryz.func7, Tryz.ntmps7
      go_wp2_with (first | (go_at_call 5; refine (CW.out _ _).mono ?_; rintro e w1 ⟨rfl, rfl⟩) | (go_at_call 13; refine (CT.out _ _).mono ?_; rintro e w1 ⟨rfl, rfl⟩))
      go_ret3
      exact ⟨rfl, Below.refl _ _⟩
    · have g0 : (b == 0) = false := by simpa using hb0
      have e1 : wval 4 a b = a.tmod b := if_neg hb0
      have e2 : wok 4 b = true := by show (!((true) && b == 0)) = true; rw [g0]; rfl
      rw [e1, e2]
      clear e1 e2
      have h1 : (a.tmod b).natAbs ≤ a.natAbs := by rw [Int.natAbs_tmod]; exact Nat.mod_le _ _
      obtain ⟨q, hq⟩ : ∃ q, a.tmod b = q := ⟨_, rfl⟩
      rw [hq] at h1 ⊢
      have hq1 : -9223372036854775808 ≤ q ∧ q ≤ 9223372036854775807 := by omega
      clear h1
      go_enter Tryz.func7, Tryz.ntmps7
      go_wp2_with (first | (go_at_call 5; refine (CW.out _ _).mono ?_; rintro e w1 ⟨rfl, rfl⟩) | (go_at_call 13; refine (CT.out _ _).mono ?_; rintro e w1 ⟨rfl, rfl⟩))
      go_region
      go_wp2_with fail
      go_ret3
      exact ⟨rfl, (Below.refl _ _).drew⟩
  all_goals
    go_enter Tryz.func7, Tryz.ntmps7
    go_wp2_with (first | (go_at_call 5; refine (CW.out _ _).mono ?_; rintro e w1 ⟨rfl, rfl⟩) | (go_at_call 13; refine (CT.out _ _).mono ?_; rintro e w1 ⟨rfl, rfl⟩))
    go_ret3
    exact ⟨rfl, Below.refl _ _⟩
end Sn
end Go.Proofs.YtdmedmmdioabgaaGreatDoor
/- WALKS: digits, said. -/
set_option linter.unusedVariables false
set_option linter.unusedSimpArgs false
namespace Go.Proofs.YtdmedmmdioabgaaGreatDoor
namespace Sn
open Go.RowKit
def decL (n : Nat) : List UInt8 := if h : n < 10 then [UInt8.ofNat (48 + n)] else decL (n / 10) ++ [UInt8.ofNat (48 + n % 10)]
termination_by n
theorem decL_lo {n : Nat} (h : n < 10) : decL n = [UInt8.ofNat (48 + n)] := by rw [decL, dif_pos h]
theorem decL_hi {n : Nat} (h : ¬ n < 10) : decL n = decL (n / 10) ++ [UInt8.ofNat (48 + n % 10)] := by rw [decL, dif_neg h]
theorem decL_len : ∀ (k n : Nat), n < 10 ^ k → 1 ≤ k → 1 ≤ (decL n).length ∧ (decL n).length ≤ k
  | 0, n, _, h => by omega
  | k + 1, n, h, _ => by
    by_cases h10 : n < 10
    · rw [decL_lo h10]; simp
    · rw [decL_hi h10, List.length_append]
      have hk : 1 ≤ k := by
        rcases Nat.eq_zero_or_pos k with e | e
        · subst e; simp at h; omega
        · exact e
      have := decL_len k (n / 10) (by rw [Nat.div_lt_iff_lt_mul (by omega)]; rw [Nat.pow_succ] at h; exact h) hk
      simp
      omega
section
variable {P : Program} {w : World}
theorem wpList_strOf {ops : Array Oper} {rest : List Oper} {o : Oper} {a : Act} {Q : Exit → Act → World → Prop} (hgd : o.guard = none) (s : Operand) (src dst e : TypeId)
    (ho : o.op = .convert src dst s) (l : List UInt8) (ad : Addr) (n cap : Nat) (hx : a.eval s = .slice (some ad) n cap) (hn : l.length = n) (hs : P.underlying src = some (.slice e)) (he : P.underlying e = some (.int .u8)) (hd : P.underlying dst = some .string)
    (hc : ∀ j (hj : j < l.length), w.cell? (ad.add j) = some (.int .u8 (l[j].toNat : Int)))
    (h : wpList P ops Q rest (a.put o.dst (.string ⟨l.toArray⟩)) w) : wpList P ops Q (o :: rest) a w := by
  refine wpList_plain hgd fun K hK => ?_
  subst hn
  have hr := run_convert_bytes_back (P := P) w src dst e ad cap l hs he hd hc
  unfold Oper.wp execOp
  simp only [ho, hx, hr, Sem.run_bind, Sem.run_pure, Result.andThen_ok]
  exact hK _ _ h
end
theorem tB1 : Tryz.prog.underlying 48 = some (.slice 5) := by kernel_rfl
theorem tB2 : Tryz.prog.underlying 5 = some (.int .u8) := by kernel_rfl
theorem tB3 : Tryz.prog.underlying 9 = some .string := by kernel_rfl
theorem ret_str {a b : ByteArray} (h : a = b) : Ending.returned (Value.string a) = .returned (.string b) := by rw [h]
theorem app_l (a b : List UInt8) : (⟨a.toArray⟩ : ByteArray) ++ ⟨b.toArray⟩ = ⟨(a ++ b).toArray⟩ := by
  apply ByteArray.ext
  simp [ByteArray.data_append]
theorem cell_dig {r : Nat} {c : UInt8} (hc : c.toNat = 48 + r) (W : World) : ∀ j (hj : j < [c].length), (W.alloc (.cells #[.int .u8 (48 + (r : Int))] 5)).cell? ((⟨W.heap.size, 0, none⟩ : Addr).add j) = some (.int .u8 ([c][j].toNat : Int)) := by
  intro j hj
  have hj0 : j = 0 := by simp at hj; exact hj
  subst hj0
  rw [cells_new W [.int .u8 (48 + (r : Int))] 5 W.heap.size rfl 0 _ rfl]
  congr 2
  show (48 + (r : Int)) = ((c.toNat : Nat) : Int)
  rw [hc]
  omega
set_option maxRecDepth 100000 in
theorem digits_w {n : Nat} (hn : n < 4611686018427387904) (w : World) : Calls Tryz.prog 14 #[.int .i64 (n : Nat)] w fun e w' => e = .returned (.string ⟨(decL n).toArray⟩) ∧ Below w.heap.size w w' := by
  have hlen := (decL_len 19 n (by omega) (by omega)).2
  have HL := Lib.hid hlen
  clear hlen
  have HB := Lib.hid (Below.refl w.heap.size w)
  go_enter Tryz.func14, Tryz.ntmps14
  go_wp2_with fail
  go_loopg [0, 3] n (fun gh u s (wr : World) => ∃ (m : Nat) (l : List UInt8), m ≤ n ∧ gh = m ∧ u = .int .i64 (m : Nat) ∧ s = .string ⟨l.toArray⟩ ∧ decL n = decL m ++ l ∧ Below w.heap.size w wr)
  case atStart => exact ⟨n, [], Nat.le_refl _, rfl, rfl, rfl, by simp, HB.out⟩
  case round =>
    obtain ⟨m, l, hm, hgk, rfl, rfl, hl, hb⟩ := hrel
    have HD := Lib.hid hl
    have HW := Lib.hid hb
    clear hl hb
    have t1 : (m : Int).tmod 10 = ((m % 10 : Nat) : Int) := by rw [Int.tmod_eq_emod_of_nonneg (by omega)]; omega
    have t2 : (m : Int).tdiv 10 = ((m / 10 : Nat) : Int) := by rw [Int.tdiv_eq_ediv_of_nonneg (by omega)]; omega
    obtain ⟨r, hr⟩ : ∃ r, m % 10 = r := ⟨_, rfl⟩
    obtain ⟨d, hd⟩ : ∃ d, m / 10 = d := ⟨_, rfl⟩
    have hr10 : r < 10 := by omega
    have hdm : d ≤ m := by omega
    obtain ⟨c, hc⟩ : ∃ c : UInt8, UInt8.ofNat (48 + r) = c := ⟨_, rfl⟩
    have hcn : c.toNat = 48 + r := by rw [← hc, UInt8.toNat_ofNat', Nat.mod_eq_of_lt (by show 48 + r < 256; omega)]
    have HCC := Lib.hid hc
    clear hc
    rw [hr] at t1
    rw [hd] at t2
    have HR := Lib.hid hr
    have HQ := Lib.hid hd
    clear hr hd
    have HC := Lib.hid (cell_dig hcn)
    clear hcn
    have hll : l.length ≤ 19 := by
      have h1 := HL.out
      rw [HD.out, List.length_append] at h1
      omega
    by_cases hd0 : d = 0
    · subst hd0
      go_wp2_with (first | (show wpList _ _ _ (Oper.mk (some 11) (Op.convert 48 9 (.tmp 10)) _ _ _ _ :: _) _ _; refine wpList_strOf rfl (.tmp 10) 48 9 5 rfl [c] ⟨wr.heap.size, 0, none⟩ 1 1 rfl rfl tB1 tB2 tB3 (HC.out wr) ?_))
      go_ret
      have hm10 : m < 10 := by have := HQ.out; omega
      refine ⟨ret_str ?_, HW.out.alloc HW.out.size _⟩
      rw [HD.out, decL_lo hm10, show m = r by have := HR.out; omega, HCC.out]
      exact app_l [c] l
    · have g0 : ((d : Int) == 0) = false := by simpa using hd0
      go_wp2_with (first | (show wpList _ _ _ (Oper.mk (some 11) (Op.convert 48 9 (.tmp 10)) _ _ _ _ :: _) _ _; refine wpList_strOf rfl (.tmp 10) 48 9 5 rfl [c] ⟨wr.heap.size, 0, none⟩ 1 1 rfl rfl tB1 tB2 tB3 (HC.out wr) ?_))
      go_roundg d
      case measure => have := HQ.out; omega
      case rel =>
        have h1 := HQ.out
        refine ⟨d, c :: l, by omega, rfl, rfl, congrArg Value.string (app_l [c] l), ?_, HW.out.alloc HW.out.size _⟩
        rw [HD.out, decL_hi (n := m) (by omega), h1, HR.out, HCC.out, List.append_assoc]
        rfl
def saidS (a : Int) : List UInt8 := if a < 0 then [40, 45] ++ decL (-(a + 1)).toNat ++ [45, 49, 41] else decL a.toNat
set_option maxRecDepth 100000 in
theorem said_w {a : Int} (ha : I5 a) (w : World) : Calls Tryz.prog 8 #[.int .i64 a] w fun e w' => e = .returned (.string ⟨(saidS a).toArray⟩) ∧ Below w.heap.size w w' := by
  by_cases h : a < 0
  · obtain ⟨n, hn⟩ : ∃ n : Nat, -(a + 1) = (n : Int) := ⟨(-(a + 1)).toNat, by omega⟩
    have hlen := (decL_len 19 n (by omega) (by omega)).2
    have CD := Lib.hid (digits_w (n := n) (by omega))
    have e : saidS a = [40, 45] ++ decL n ++ [45, 49, 41] := by unfold saidS; rw [if_pos h, hn]; rfl
    have HE := Lib.hid e
    clear e
    go_enter Tryz.func8, Tryz.ntmps8
    go_wp2_with (first | (go_at_call 14; refine (CD.out _).mono ?_; rintro e w1 ⟨rfl, hb⟩))
    go_ret
    refine ⟨ret_str ?_, hb⟩
    rw [HE.out]
    exact (congrArg (· ++ (⟨[45, 49, 41].toArray⟩ : ByteArray)) (app_l [40, 45] (decL n))).trans (app_l _ _)
  · obtain ⟨n, rfl⟩ : ∃ n : Nat, a = (n : Int) := ⟨a.toNat, by omega⟩
    have CD := Lib.hid (digits_w (n := n) (by omega))
    have e : saidS (n : Int) = decL n := by unfold saidS; rw [if_neg h]; rfl
    have HE := Lib.hid e
    clear e
    go_enter Tryz.func8, Tryz.ntmps8
    go_wp2_with (first | (go_at_call 14; refine (CD.out _).mono ?_; rintro e w1 ⟨rfl, hb⟩))
    go_ret
    exact ⟨ret_str (by rw [HE.out]), hb⟩
end Sn
end Go.Proofs.YtdmedmmdioabgaaGreatDoor
/- WALKS: given, two, by what run answers. -/
set_option linter.unusedVariables false
set_option linter.unusedSimpArgs false
namespace Go.Proofs.YtdmedmmdioabgaaGreatDoor
namespace Sn
open Go.RowKit
/-- a result -/
def rsV (err pos val : Int) (out : Value) (steps read gcs used : Int) : Value := .agg #[.int .i64 err, .int .i64 pos, .int .i64 val, out, .int .i64 steps, .int .i64 read, .int .i64 gcs, .int .i64 used]
def RunIs (src : ByteArray) (inv : Value) (w : World) (R : Value) : Prop := ∀ W, Below w.heap.size w W → Calls Tryz.prog 11 #[.string src, inv, .int .i64 0, .int .i64 1, .int .i64 20000] W fun e w' => e = .returned (.tuple #[R, .bool true]) ∧ Below W.heap.size W w'
theorem RunIs.on {src : ByteArray} {inv : Value} {w w' : World} {R : Value} (h : RunIs src inv w R) (hb : Below w.heap.size w w') : RunIs src inv w' R := fun W hW => h W (hb.trans (hW.mono hb.size))
set_option maxRecDepth 100000 in
theorem given_ok {src : ByteArray} {ba : Option Addr} {n c : Nat} {w : World} {val at' steps gcs used : Int} (hR : RunIs src (.slice ba n c) w (rsV 0 0 val (.slice none 0 0) steps (n : Nat) gcs used)) : Calls Tryz.prog 9 #[.string src, .slice ba n c, .int .i64 val, .bool true, .int .i64 at'] w fun e w' => e = .returned (.bool true) ∧ Below w.heap.size w w' := by
  have HR := Lib.hid hR
  clear hR
  unfold rsV at HR
  have HB0 := Lib.hid (Below.refl w.heap.size w)
  go_enter Tryz.func9, Tryz.ntmps9
  go_wp2_with (first | (go_at_call 11; refine (HR.out _ (by first | exact HB0.out | exact HB0.out.alloc (Nat.le_refl _) _)).mono ?_; rintro e w1 ⟨rfl, hb⟩))
  go_ret
  exact ⟨rfl, hb.alloc hb.size _⟩
set_option maxRecDepth 100000 in
theorem given_div {src : ByteArray} {ba : Option Addr} {n c : Nat} {w : World} {val at' steps gcs used : Int} (hR : RunIs src (.slice ba n c) w (rsV 32 at' 0 (.slice none 0 0) steps (n : Nat) gcs used)) : Calls Tryz.prog 9 #[.string src, .slice ba n c, .int .i64 val, .bool false, .int .i64 at'] w fun e w' => e = .returned (.bool true) ∧ Below w.heap.size w w' := by
  have HR := Lib.hid hR
  clear hR
  unfold rsV at HR
  have HB0 := Lib.hid (Below.refl w.heap.size w)
  go_enter Tryz.func9, Tryz.ntmps9
  go_wp2_with (first | (go_at_call 11; refine (HR.out _ (by first | exact HB0.out | exact HB0.out.alloc (Nat.le_refl _) _)).mono ?_; rintro e w1 ⟨rfl, hb⟩))
  go_ret
  exact ⟨rfl, hb.alloc hb.size _⟩
set_option maxRecDepth 100000 in
theorem two_ok {src : ByteArray} {w : World} {err pos val read gcs : Int} {oa : Option Addr} {on oc : Nat} (hR : RunIs src (.slice none 0 0) w (rsV err pos val (.slice oa on oc) 2 read gcs 0)) : Calls Tryz.prog 10 #[.string src, .bool true] w fun e w' => e = .returned (.bool true) ∧ Below w.heap.size w w' := by
  have HR := Lib.hid hR
  clear hR
  unfold rsV at HR
  have HB0 := Lib.hid (Below.refl w.heap.size w)
  go_enter Tryz.func10, Tryz.ntmps10
  go_wp2_with (first | (go_at_call 11; refine (HR.out _ (by first | exact HB0.out | exact HB0.out.alloc (Nat.le_refl _) _)).mono ?_; rintro e w1 ⟨rfl, hb⟩))
  go_ret
  exact ⟨rfl, hb.alloc hb.size _⟩
set_option maxRecDepth 100000 in
theorem two_div {src : ByteArray} {w : World} {err pos val steps read gcs used : Int} {oa : Option Addr} {on oc : Nat} (hR : RunIs src (.slice none 0 0) w (rsV err pos val (.slice oa on oc) steps read gcs used)) : Calls Tryz.prog 10 #[.string src, .bool false] w fun e w' => e = .returned (.bool true) ∧ Below w.heap.size w w' := by
  have HR := Lib.hid hR
  clear hR
  unfold rsV at HR
  have HB0 := Lib.hid (Below.refl w.heap.size w)
  go_enter Tryz.func10, Tryz.ntmps10
  go_wp2_with (first | (go_at_call 11; refine (HR.out _ (by first | exact HB0.out | exact HB0.out.alloc (Nat.le_refl _) _)).mono ?_; rintro e w1 ⟨rfl, hb⟩))
  go_ret
  exact ⟨rfl, hb.alloc hb.size _⟩
end Sn
end Go.Proofs.YtdmedmmdioabgaaGreatDoor
/- WALKS: begins, sameInts of two rows that hold the same. -/
set_option linter.unusedVariables false
set_option linter.unusedSimpArgs false
namespace Go.Proofs.YtdmedmmdioabgaaGreatDoor
namespace Sn
open Go.RowKit
theorem cell_lt {W : World} {g j : Nat} {v : Value} (h : W.cell? ⟨g, j, none⟩ = some v) : g < W.heap.size := by
  rcases Nat.lt_or_ge g W.heap.size with q | q
  · exact q
  · unfold World.cell? at h
    rw [Array.getElem?_eq_none (by exact q)] at h
    cases h
set_option maxRecDepth 100000 in
theorem begins_w {W : World} {g k c d : Nat} {l : List Int} (hl : l.length ≤ 1000) (h1 : ∀ (j : Nat) (z : Int), l[j]? = some z → W.cell? ⟨g, j, none⟩ = some (.int .i64 z)) (h2 : ∀ (j : Nat) (z : Int), l[j]? = some z → W.cell? ⟨k, j, none⟩ = some (.int .i64 z)) :
    Calls Tryz.prog 20 #[.slice (some ⟨g, 0, none⟩) l.length c, .slice (some ⟨k, 0, none⟩) l.length d] W fun e w' => e = .returned (.bool true) ∧ Below W.heap.size W w' := by
  have H1 := Lib.hid h1
  have H2 := Lib.hid h2
  clear h1 h2
  obtain ⟨n, hn⟩ : ∃ n, l.length = n := ⟨_, rfl⟩
  rw [hn] at hl ⊢
  have HN := Lib.hid hn
  clear hn
  go_enter Tryz.func20, Tryz.ntmps20
  go_wp2_with fail
  go_loopg [5] n (fun gh u (wr : World) => ∃ j : Nat, j ≤ n ∧ gh = n - j ∧ u = .int .i64 (j : Nat) ∧ Below W.heap.size W wr)
  case atStart => exact ⟨0, Nat.zero_le _, rfl, rfl, Below.refl _ _⟩
  case round =>
    obtain ⟨j, hj, hgk, rfl, hb⟩ := hrel
    have HB := Lib.hid hb
    clear hb
    rcases Nat.lt_or_ge j n with hjd | hjd
    · obtain ⟨z, hz⟩ : ∃ z, l[j]? = some z := ⟨_, List.getElem?_eq_getElem (by rw [HN.out]; exact hjd)⟩
      have d1 := (HB.out.cell (p := ⟨g, j, none⟩) (cell_lt (H1.out j z hz))).trans (H1.out j z hz)
      have d2 := (HB.out.cell (p := ⟨k, j, none⟩) (cell_lt (H2.out j z hz))).trans (H2.out j z hz)
      clear hz
      have g1 : (j : Int) < (n : Int) := by omega
      go_wp2_with fail
      go_region
      go_wp2_with fail
      go_roundg (n - (j + 1))
      case measure => omega
      case rel => exact ⟨j + 1, by omega, rfl, by go_num, HB.out.drew⟩
    · have g1 : ¬ (j : Int) < (n : Int) := by omega
      go_wp2_with fail
      go_ret
      exact ⟨rfl, HB.out⟩
theorem same_w {W : World} {g k c d : Nat} {l : List Int} (hl : l.length ≤ 1000) (h1 : ∀ (j : Nat) (z : Int), l[j]? = some z → W.cell? ⟨g, j, none⟩ = some (.int .i64 z)) (h2 : ∀ (j : Nat) (z : Int), l[j]? = some z → W.cell? ⟨k, j, none⟩ = some (.int .i64 z)) :
    Calls Tryz.prog 12 #[.slice (some ⟨g, 0, none⟩) l.length c, .slice (some ⟨k, 0, none⟩) l.length d] W fun e w' => e = .returned (.bool true) ∧ Below W.heap.size W w' := by
  have CB := Lib.hid (begins_w (c := c) (d := d) hl h1 h2)
  clear h1 h2
  obtain ⟨n, hn⟩ : ∃ n, l.length = n := ⟨_, rfl⟩
  rw [hn] at CB hl ⊢
  clear hn
  go_enter Tryz.func12, Tryz.ntmps12
  go_wp2_with (go_at_call 20; refine CB.out.mono ?_; rintro e w1 ⟨rfl, hb⟩)
  go_ret
  exact ⟨rfl, hb⟩
end Sn
end Go.Proofs.YtdmedmmdioabgaaGreatDoor
