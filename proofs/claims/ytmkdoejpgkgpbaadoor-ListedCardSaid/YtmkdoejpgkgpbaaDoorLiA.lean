/- WALKS: numbers of a code's bytes, on both sides. -/
import Derived.Test.YtmkdoejpgkgpbaaDoorProg
import Derived.Test.YtmkdoejpgkgpbaaDoorLiP
import Derived.Test.YtmkdoejpgkgpbaaDoorAid
import Derived.WalkKit
import Derived.WalkSpells
import Derived.WalkLawsBesides
set_option linter.unusedVariables false
set_option linter.unusedSimpArgs false
namespace Go.Proofs.YtmkdoejpgkgpbaaDoor
open Go.RowKit Li

theorem wrap64_i64 (n : Int) : IntKind.i64.wrap n = wrap64 n := by unfold wrap64; exact IntKind.wrap_i64 n
theorem or_low8 (x : Int) (b : Nat) (hb : b < 256) : bits BinOp.or IntKind.i64 (wrap64 (x * 256)) (wrap64 (b : Int)) = wrap64 (x * 256 + b) := by
  show IntKind.i64.wrap ((BitVec.ofInt 64 (wrap64 (x * 256)) ||| BitVec.ofInt 64 (wrap64 (b : Int))).toNat : Int) = _
  rw [BitVec.toNat_or, BitVec.toNat_ofInt, BitVec.toNat_ofInt, wrap64_i64]
  obtain ⟨q, hq⟩ : ∃ q : Nat, (wrap64 (x * 256) % ((2 ^ 64 : Nat) : Int)).toNat = 2 ^ 8 * q := ⟨((wrap64 (x * 256) % 18446744073709551616).toNat) / 256, by unfold wrap64; omega⟩
  have hb2 : (wrap64 (b : Int) % ((2 ^ 64 : Nat) : Int)).toNat = b := by unfold wrap64; omega
  rw [hq, hb2, ← Nat.two_pow_add_eq_or_of_lt hb]
  unfold wrap64 at hq ⊢
  omega
theorem ret_str' {a b : ByteArray} (h : a = b) : Ending.returned (.string a) = .returned (.string b) := by rw [h]
theorem ret_int' {k : IntKind} {a b : Int} (h : a = b) : Ending.returned (.int k a) = .returned (.int k b) := by rw [h]
set_option maxHeartbeats 800000 in
theorem num_any {s : ByteArray} {a n : Nat} {w : World} (hs : s.size ≤ 600000) (hn : a + n ≤ s.size) :
    Calls Tryd.prog 27 #[.string s, .int .i64 a, .int .i64 n] w fun e w' => e = .returned (.int .i64 (nV s a n)) ∧ w' = w := by
  go_enter Tryd.func27, Tryd.ntmps27
  go_wp2
  go_loop [7, 8] (fun v i => ∃ k : Nat, k ≤ n ∧ i = .int .i64 ((a + k : Nat) : Int) ∧ v = .int .i64 (nV s a k)) (fun _ i => a + n - (intOf i).toNat)
  case atStart => exact ⟨0, by omega, rfl, rfl⟩
  case round =>
    obtain ⟨k, hk, rfl, rfl⟩ := hrel
    have hbd := nV_bd s a k
    have HS : Hid (nV s a (k + 1) = wrap64 (nV s a k * 256 + bt s (a + k))) := rfl
    by_cases hlt : k < n
    · have HB : Hid (bt s (a + k) = s[a + k].toNat) := bt_at (by omega)
      go_wp2
      go_round
      case rel =>
        refine ⟨k + 1, by omega, by go_num, ?_⟩
        rw [HS.out, HB.out]
        congr 1
        unfold wrap64; omega
      case measure => simp [intOf]; omega
    · go_wp2
      go_ret
      exact ⟨ret_int' (by rw [show k = n by omega]), rfl⟩
set_option maxHeartbeats 800000 in
theorem number_any {s : ByteArray} {a n : Nat} {w : World} (hs : s.size ≤ 600000) (hn : a + n ≤ s.size) :
    Calls Tryd.prog 22 #[.string s, .int .i64 a, .int .i64 n] w fun e w' => e = .returned (.int .i64 (nV s a n)) ∧ w' = w := by
  go_enter Tryd.func22, Tryd.ntmps22
  go_wp2
  go_loop [7, 8] (fun v i => ∃ k : Nat, k ≤ n ∧ i = .int .i64 ((a + k : Nat) : Int) ∧ v = .int .i64 (nV s a k)) (fun _ i => a + n - (intOf i).toNat)
  case atStart => exact ⟨0, by omega, rfl, rfl⟩
  case round =>
    obtain ⟨k, hk, rfl, rfl⟩ := hrel
    have hbd := nV_bd s a k
    have HS : Hid (nV s a (k + 1) = wrap64 (nV s a k * 256 + bt s (a + k))) := rfl
    by_cases hlt : k < n
    · have HB : Hid (bt s (a + k) = s[a + k].toNat) := bt_at (by omega)
      go_wp2
      all_goals
        go_round
        case rel =>
          refine ⟨k + 1, by omega, by go_num, ?_⟩
          rw [HS.out, HB.out, or_low8 _ _ (UInt8.toNat_lt _)]
        case measure => simp [intOf]; omega
    · go_wp2
      go_ret
      exact ⟨ret_int' (by rw [show k = n by omega]), rfl⟩
theorem wrapped_any {n : Int} {w : World} (h0 : -9223372036854775808 ≤ n) (h1 : n ≤ 9223372036854775807) :
    Calls Tryd.prog 39 #[.int .i64 n] w fun e w' => e = .returned (.int .i64 (wrap64 (n * 2) / 2)) ∧ w' = w := by
  go_enter Tryd.func39, Tryd.ntmps39
  go_wp2
  go_ret
  exact ⟨rfl, rfl⟩
end Go.Proofs.YtmkdoejpgkgpbaaDoor
