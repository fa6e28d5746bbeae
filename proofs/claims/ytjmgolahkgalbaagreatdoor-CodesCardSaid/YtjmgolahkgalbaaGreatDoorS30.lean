import Derived.Test.YtjmgolahkgalbaaGreatDoorS07
import Derived.Test.YtjmgolahkgalbaaGreatDoorS13
import Derived.Test.YtjmgolahkgalbaaGreatDoorS14
import Derived.Laws.BitsAll
import Derived.Laws.Shifts
import Derived.Lib.Hide
set_option linter.unusedVariables false
set_option linter.unusedSimpArgs false
set_option maxHeartbeats 20000000
namespace Go.Proofs.YtjmgolahkgalbaaGreatDoor
open Go.RowKit Li Ro
variable {w : World}
theorem jcI (n : Nat) (h : n < 2 ^ 62) : bits BinOp.and IntKind.i64 (n : Int) 63 = ((n % 64 : Nat) : Int) := by
 have := i64_and n 63 h (by decide)
 rw [show (63 : Nat) = 2 ^ 6 - 1 from rfl,Nat.and_two_pow_sub_one_eq_mod] at this
 exact this
theorem jex {n : Nat} (hn : n < 60) : Calls Tryz.prog 112 #[.int .i64 n] w fun e w' => e = .returned (.int .i64 ((2 ^ n : Nat) : Int)) /\ w' = w := by
 have h1 := jcI n (by omega)
 rw [Nat.mod_eq_of_lt (by omega)] at h1
 go_enter Tryz.func112,Tryz.ntmps112
 go_wp2
 go_ret
 have h2 : 2 ^ n < 2 ^ 60 := Nat.pow_lt_pow_right (by decide) hn
 refine ⟨jR ?_,rfl⟩
 rw [show (2 : Int) ^ n = ((2 ^ n : Nat) : Int) by simp]
 generalize 2 ^ n = q at *
 unfold wrap64;omega
theorem jkg {n : Nat} (hn : n <= 8) : Calls Tryz.prog 111 #[.int .i64 n] w fun e w' => e = .returned (.int .i64 ((jh (fun i => decide (i < n)) 8 : Nat) : Int)) /\ w' = w := by
 go_enter Tryz.func111,Tryz.ntmps111
 go_wp2
 go_loop [3,4] (fun v i => ∃ k : Nat,k <= n /\ i = .int .i64 k /\ v = .int .i64 ((jh (fun i => decide (i < k)) 8 : Nat) : Int)) (fun _ i => n - (intOf i).toNat)
 case atStart => exact ⟨0,by omega,rfl,by rw [show (fun i : Nat => decide (i < 0)) = (fun _ => false) from funext fun i => by simp,jeJ];rfl⟩
 case round =>
  obtain ⟨k,hk,rfl,rfl⟩ := hrel
  by_cases hlt : k < n
  ·have h1 : Hid (jh (fun i => decide (i < k + 1)) 8 = jh (fun i => decide (i < k)) 8 ||| 2 ^ k) := by
    show _ = _
    rw [jbI (show k < 8 by omega),jbH]
    apply JA
    intro i _
    by_cases e : i < k
    ·rw [decide_eq_true e,decide_eq_true (by omega)];rfl
    ·by_cases e2 : i = k
     ·subst e2;simp
     ·rw [decide_eq_false e,decide_eq_false (by omega)];simp [e2]
   have h2 : Hid (jh (fun i => decide (i < k)) 8 < 2 ^ 8) := JK _ _
   have h3 : Hid (2 ^ k < 2 ^ 60) := Nat.pow_lt_pow_right (by decide) (by omega)
   have C : Hid (∀ W,Calls Tryz.prog 112 #[.int .i64 k] W fun e w' => e = .returned (.int .i64 ((2 ^ k : Nat) : Int)) /\ w' = W) := fun W => jex (by omega)
   generalize jh (fun i => decide (i < k)) 8 = m at *
   generalize 2 ^ k = q at *
   go_wp2_with (go_at_call 112;refine (C.out _).mono ?_;rintro _ w2 ⟨rfl,hw2⟩;have hw3 := hw2.symm;subst hw3)
   go_round
   case rel => exact ⟨k + 1,by omega,by go_num,by rw [jcn m q (by have := h2.out;omega) (by have := h3.out;omega),h1.out]⟩
   case measure => simp [intOf];omega
  ·go_wp2_with fail
   go_ret
   exact ⟨jR (by rw [show k = n by omega]),rfl⟩
theorem jjS {n M b o : Nat} {R : Bool} (hn : n < 1024) (hM : M < 18446744073709551616) (hc : w.cell? ⟨b,o + 2 + n / 64,none⟩ = some (.int .u64 M)) (hR : decide (M / 2 ^ (n % 64) % 2 = 1) = R) :
 Calls Tryz.prog 113 #[.pointer (some ⟨b,o,none⟩),.int .i64 n] w fun e w' => e = .returned (.bool R) /\ w' = w := by
 have h1 := jcI n (by omega)
 have HR := jH hR
 clear hR
 have hj : n / 64 < 16 := by omega
 have hq : n % 64 < 64 := by omega
 obtain ⟨j,hj'⟩ : ∃ j,n / 64 = j := ⟨_,rfl⟩
 obtain ⟨q,hq'⟩ : ∃ q,n % 64 = q := ⟨_,rfl⟩
 rw [hj'] at hc hj
 rw [hq'] at h1 hq HR
 have hj3 : (n : Int) / 64 = (j : Int) := by omega
 clear hj' hq'
 go_enter Tryz.func113,Tryz.ntmps113
 go_wp2
 go_ret
 refine ⟨JQ ?_,rfl⟩
 have hd : M / 2 ^ q < 18446744073709551616 := Nat.lt_of_le_of_lt (Nat.div_le_self _ _) hM
 rw [<- HR.out,show ((M : Int) / 2 ^ q) = ((M / 2 ^ q : Nat) : Int) by simp,show (1 : Int) = ((1 : Nat) : Int) from rfl,u64_and_nat _ _ hd (by decide),Nat.and_one_is_mod,Bool.eq_iff_iff]
 generalize M / 2 ^ q = z
 simp
 omega
theorem jjt {n M b o : Nat} (hn : n < 1024) (hM : M < 18446744073709551616) (hc : w.cell? ⟨b,o + 2 + n / 64,none⟩ = some (.int .u64 M)) (hf : w.frozen? ⟨b,o + 2 + n / 64,none⟩ = false) :
 Calls Tryz.prog 116 #[.pointer (some ⟨b,o,none⟩),.int .i64 n] w fun e w' => e = .returned (.tuple #[]) /\ w' = (w.setCell ⟨b,o + 2 + n / 64,none⟩ (.int .u64 ((M ||| 2 ^ (n % 64) : Nat) : Int))).drew := by
 have h1 := jcI n (by omega)
 have hj : n / 64 < 16 := by omega
 have hq : n % 64 < 64 := by omega
 obtain ⟨j,hj'⟩ : ∃ j,n / 64 = j := ⟨_,rfl⟩
 obtain ⟨q,hq'⟩ : ∃ q,n % 64 = q := ⟨_,rfl⟩
 rw [hj'] at hc hf hj ⊢
 rw [hq'] at h1 hq ⊢
 have hj3 : (n : Int) / 64 = (j : Int) := by omega
 clear hj' hq'
 go_enter Tryz.func116,Tryz.ntmps116
 go_wp2
 go_region
 go_returns
 refine ⟨rfl,?_⟩
 have h2 : 2 ^ q < 18446744073709551616 := Nat.lt_of_lt_of_le (Nat.pow_lt_pow_right (by decide) hq) (by decide)
 rw [show (2 : Int) ^ q = ((2 ^ q : Nat) : Int) by simp]
 generalize 2 ^ q = z at *
 rw [IntKind.wrap_u64,show (z : Int) % 18446744073709551616 = (z : Int) by omega,u64_or_nat _ _ hM h2]
theorem jdP {n M b o : Nat} (hn : n < 1024) (hM : M < 18446744073709551616) (hc : w.cell? ⟨b,o + 2 + n / 64,none⟩ = some (.int .u64 M)) (hf : w.frozen? ⟨b,o + 2 + n / 64,none⟩ = false) :
 Calls Tryz.prog 115 #[.pointer (some ⟨b,o,none⟩),.int .i64 n] w fun e w' => e = .returned (.tuple #[]) /\ w' = (w.setCell ⟨b,o + 2 + n / 64,none⟩ (.int .u64 ((M &&& (18446744073709551615 - 2 ^ (n % 64)) : Nat) : Int))).drew := by
 have h1 := jcI n (by omega)
 have hj : n / 64 < 16 := by omega
 have hq : n % 64 < 64 := by omega
 obtain ⟨j,hj'⟩ : ∃ j,n / 64 = j := ⟨_,rfl⟩
 obtain ⟨q,hq'⟩ : ∃ q,n % 64 = q := ⟨_,rfl⟩
 rw [hj'] at hc hf hj ⊢
 rw [hq'] at h1 hq ⊢
 have hj3 : (n : Int) / 64 = (j : Int) := by omega
 clear hj' hq'
 go_enter Tryz.func115,Tryz.ntmps115
 go_wp2
 go_region
 go_returns
 refine ⟨rfl,?_⟩
 have h2 : 2 ^ q < 18446744073709551616 := Nat.lt_of_lt_of_le (Nat.pow_lt_pow_right (by decide) hq) (by decide)
 rw [show (2 : Int) ^ q = ((2 ^ q : Nat) : Int) by simp]
 generalize 2 ^ q = z at *
 rw [IntKind.wrap_u64,show (z : Int) % 18446744073709551616 = (z : Int) by omega,u64_andNot_nat _ _ hM h2]
end Go.Proofs.YtjmgolahkgalbaaGreatDoor
