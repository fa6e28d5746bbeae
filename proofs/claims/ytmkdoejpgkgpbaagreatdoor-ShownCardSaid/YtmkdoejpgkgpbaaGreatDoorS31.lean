import Derived.Test.YtmkdoejpgkgpbaaGreatDoorS29
set_option linter.unusedVariables false
set_option linter.unusedSimpArgs false
set_option maxHeartbeats 20000000
namespace Go.Proofs.YtmkdoejpgkgpbaaGreatDoor
open Go.RowKit Sl
theorem lt26 {k : Nat} (h : k < 26) : k = 0 \/ k = 1 \/ k = 2 \/ k = 3 \/ k = 4 \/ k = 5 \/ k = 6 \/ k = 7 \/ k = 8 \/ k = 9 \/ k = 10 \/ k = 11 \/ k = 12 \/ k = 13 \/ k = 14 \/ k = 15 \/ k = 16 \/ k = 17 \/ k = 18 \/ k = 19 \/ k = 20 \/ k = 21 \/ k = 22 \/ k = 23 \/ k = 24 \/ k = 25 := by omega
set_option maxRecDepth 100000 in
theorem rankOf_any {k : Nat} (hk : k < 26) (w : World) :
 Calls Tryz.prog 179 #[.int .i64 k] w fun e w' => e = .returned (.int .i64 (rk k)) /\ w' = w := by
 rcases lt26 hk with rfl | rfl | rfl | rfl | rfl | rfl | rfl | rfl | rfl | rfl | rfl | rfl | rfl | rfl | rfl | rfl | rfl | rfl | rfl | rfl | rfl | rfl | rfl | rfl | rfl | rfl
 all_goals
  clear hk
  go_enter Tryz.func179,Tryz.ntmps179
  go_wp2
  go_ret
  exact ⟨rfl,rfl⟩
set_option maxRecDepth 100000 in
theorem wantedRank_any {k i : Nat} (hk : k < 26) (w : World) :
 Calls Tryz.prog 321 #[.int .i64 k,.int .i64 i] w fun e w' => e = .returned (.int .i64 (wanted k i)) /\ w' = w := by
 by_cases hi : i = 0
 ·subst hi
  rcases lt26 hk with rfl | rfl | rfl | rfl | rfl | rfl | rfl | rfl | rfl | rfl | rfl | rfl | rfl | rfl | rfl | rfl | rfl | rfl | rfl | rfl | rfl | rfl | rfl | rfl | rfl | rfl
  all_goals
   clear hk
   go_enter Tryz.func321,Tryz.ntmps321
   go_wp2
   go_ret
   exact ⟨rfl,rfl⟩
 ·have hb : ((i : Int) == (0 : Int)) = false := by simpa using hi
  have hw : ∀ k,wanted k i = wanted k 1 := fun k => by unfold wanted;simp [hi]
  rw [hw]
  clear hw
  rcases lt26 hk with rfl | rfl | rfl | rfl | rfl | rfl | rfl | rfl | rfl | rfl | rfl | rfl | rfl | rfl | rfl | rfl | rfl | rfl | rfl | rfl | rfl | rfl | rfl | rfl | rfl | rfl
  all_goals
   clear hk
   go_enter Tryz.func321,Tryz.ntmps321
   go_wp2
   go_ret
   exact ⟨rfl,rfl⟩
end Go.Proofs.YtmkdoejpgkgpbaaGreatDoor
