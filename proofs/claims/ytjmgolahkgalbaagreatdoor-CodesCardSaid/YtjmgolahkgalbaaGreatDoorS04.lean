import Derived.Test.YtjmgolahkgalbaaGreatDoorS01
import Derived.Test.YtjmgolahkgalbaaGreatDoorS03
import Derived.Test.YtjmgolahkgalbaaGreatDoorProg
import Derived.WalkKit
import Derived.WalkSpells
import Derived.WalkLawsBesides
set_option linter.unusedVariables false
set_option linter.unusedSimpArgs false
set_option maxHeartbeats 20000000
namespace Go.Proofs.YtjmgolahkgalbaaGreatDoor
open Go.RowKit Li
variable {s : ByteArray} {w : World}
theorem jbn (n : Int) : IntKind.i64.wrap n = wrap64 n := by unfold wrap64;exact IntKind.wrap_i64 n
theorem jh8 (x : Int) (b : Nat) (hb : b < 256) : bits BinOp.or IntKind.i64 (wrap64 (x * 256)) (wrap64 (b : Int)) = wrap64 (x * 256 + b) := by
 show IntKind.i64.wrap ((BitVec.ofInt 64 (wrap64 (x * 256)) ||| BitVec.ofInt 64 (wrap64 (b : Int))).toNat : Int) = _
 rw [BitVec.toNat_or,BitVec.toNat_ofInt,BitVec.toNat_ofInt,jbn]
 obtain ⟨q,hq⟩ : ∃ q : Nat,(wrap64 (x * 256) % ((2 ^ 64 : Nat) : Int)).toNat = 2 ^ 8 * q := ⟨((wrap64 (x * 256) % 18446744073709551616).toNat) / 256,by unfold wrap64;omega⟩
 have hb2 : (wrap64 (b : Int) % ((2 ^ 64 : Nat) : Int)).toNat = b := by unfold wrap64;omega
 rw [hq,hb2,<- Nat.two_pow_add_eq_or_of_lt hb]
 unfold wrap64 at hq ⊢
 omega
theorem jmA {a b : ByteArray} (h : a = b) : Ending.returned (.string a) = .returned (.string b) := by rw [h]
theorem jR {k : IntKind} {a b : Int} (h : a = b) : Ending.returned (.int k a) = .returned (.int k b) := by rw [h]
theorem J7 {a n : Nat} (hs : s.size <= 600000) (hn : a + n <= s.size) :
 Calls Tryz.prog 48 #[.string s,.int .i64 a,.int .i64 n] w fun e w' => e = .returned (.int .i64 (nV s a n)) /\ w' = w := by
 go_enter Tryz.func48,Tryz.ntmps48
 go_wp2
 go_loop [7,8] (fun v i => ∃ k : Nat,k <= n /\ i = .int .i64 ((a + k : Nat) : Int) /\ v = .int .i64 (nV s a k)) (fun _ i => a + n - (intOf i).toNat)
 case atStart => exact ⟨0,by omega,rfl,rfl⟩
 case round =>
  obtain ⟨k,hk,rfl,rfl⟩ := hrel
  have hbd := jcc s a k
  have HS : Hid (nV s a (k + 1) = wrap64 (nV s a k * 256 + bt s (a + k))) := rfl
  by_cases hlt : k < n
  ·have HB : Hid (bt s (a + k) = s[a + k].toNat) := jbj (by omega)
   go_wp2
   go_round
   case rel =>
    refine ⟨k + 1,by omega,by go_num,?_⟩
    rw [HS.out,HB.out]
    congr 1
    unfold wrap64;omega
   case measure => simp [intOf];omega
  ·go_wp2
   go_ret
   exact ⟨jR (by rw [show k = n by omega]),rfl⟩
theorem Jz {a n : Nat} (hs : s.size <= 600000) (hn : a + n <= s.size) :
 Calls Tryz.prog 40 #[.string s,.int .i64 a,.int .i64 n] w fun e w' => e = .returned (.int .i64 (nV s a n)) /\ w' = w := by
 go_enter Tryz.func40,Tryz.ntmps40
 go_wp2
 go_loop [7,8] (fun v i => ∃ k : Nat,k <= n /\ i = .int .i64 ((a + k : Nat) : Int) /\ v = .int .i64 (nV s a k)) (fun _ i => a + n - (intOf i).toNat)
 case atStart => exact ⟨0,by omega,rfl,rfl⟩
 case round =>
  obtain ⟨k,hk,rfl,rfl⟩ := hrel
  have hbd := jcc s a k
  have HS : Hid (nV s a (k + 1) = wrap64 (nV s a k * 256 + bt s (a + k))) := rfl
  by_cases hlt : k < n
  ·have HB : Hid (bt s (a + k) = s[a + k].toNat) := jbj (by omega)
   go_wp2
   all_goals
    go_round
    case rel =>
     refine ⟨k + 1,by omega,by go_num,?_⟩
     rw [HS.out,HB.out,jh8 _ _ (UInt8.toNat_lt _)]
    case measure => simp [intOf];omega
  ·go_wp2
   go_ret
   exact ⟨jR (by rw [show k = n by omega]),rfl⟩
theorem jbm {n : Int} (h0 : -9223372036854775808 <= n) (h1 : n <= 9223372036854775807) :
 Calls Tryz.prog 65 #[.int .i64 n] w fun e w' => e = .returned (.int .i64 (wrap64 (n * 2) / 2)) /\ w' = w := by
 go_enter Tryz.func65,Tryz.ntmps65
 go_wp2
 go_ret
 exact ⟨rfl,rfl⟩
end Go.Proofs.YtjmgolahkgalbaaGreatDoor
