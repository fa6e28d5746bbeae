import Derived.Laws.BitsAllLaws
import Derived.Laws.BitsLemmas
set_option linter.unusedVariables false
set_option linter.unusedSimpArgs false
set_option maxHeartbeats 20000000
namespace Go.Proofs.YtjmgolahkgalbaaGreatDoor
namespace Ro
def jh (p : Nat -> Bool) : Nat -> Nat
 | 0 => 0
 | n + 1 => if p n then jh p n ||| 2 ^ n else jh p n
theorem Ji (p : Nat -> Bool) : ∀ (n i : Nat),(jh p n).testBit i = (decide (i < n) && p i)
 | 0,i => by simp [jh]
 | n + 1,i => by
   unfold jh
   by_cases hp : p n = true
   ·rw [if_pos hp,Nat.testBit_or,Ji p n i,Nat.testBit_two_pow]
    by_cases h : i = n
    ·subst h;simp [hp]
    ·have : ¬ n = i := fun e => h e.symm
     simp only [this,decide_false,Bool.or_false]
     by_cases h2 : i < n
     ·rw [decide_eq_true h2,decide_eq_true (by omega)]
     ·rw [decide_eq_false h2,decide_eq_false (by omega)]
   ·rw [if_neg hp,Ji p n i]
    by_cases h : i = n
    ·subst h;simp at hp;simp [hp]
    ·by_cases h2 : i < n
     ·rw [decide_eq_true h2,decide_eq_true (by omega)]
     ·rw [decide_eq_false h2,decide_eq_false (by omega)]
theorem JK (p : Nat -> Bool) (n : Nat) : jh p n < 2 ^ n := by
 apply Nat.lt_pow_two_of_testBit
 intro i hi
 rw [Ji,decide_eq_false (by omega)];rfl
theorem JA {p q : Nat -> Bool} {n : Nat} (h : ∀ i,i < n -> p i = q i) : jh p n = jh q n := by
 apply Nat.eq_of_testBit_eq
 intro i
 rw [Ji,Ji]
 by_cases hi : i < n
 ·rw [h i hi]
 ·rw [decide_eq_false hi];rfl
theorem jeL (p q : Nat -> Bool) (n : Nat) : jh p n &&& jh q n = jh (fun i => p i && q i) n := by
 apply Nat.eq_of_testBit_eq
 intro i
 rw [Nat.testBit_and,Ji,Ji,Ji]
 cases decide (i < n) <;> simp
theorem jbH (p q : Nat -> Bool) (n : Nat) : jh p n ||| jh q n = jh (fun i => p i || q i) n := by
 apply Nat.eq_of_testBit_eq
 intro i
 rw [Nat.testBit_or,Ji,Ji,Ji]
 cases decide (i < n) <;> simp
theorem jbI {k n : Nat} (h : k < n) : 2 ^ k = jh (fun i => i == k) n := by
 apply Nat.eq_of_testBit_eq
 intro i
 rw [Nat.testBit_two_pow,Ji]
 by_cases e : k = i
 ·subst e;simp [h]
 ·have : ¬ i = k := fun h => e h.symm
  simp [e,this]
theorem jeJ (n : Nat) : jh (fun _ => false) n = 0 := by
 apply Nat.eq_of_testBit_eq
 intro i
 rw [Ji];simp
theorem jiC (p q : Nat -> Bool) (n N : Nat) (hN : n <= N) : (jh p n &&& (2 ^ N - 1 - jh q n) = 0) ↔ ∀ i,i < n -> p i = true -> q i = true := by
 have hq : jh q n < 2 ^ N := Nat.lt_of_lt_of_le (JK q n) (Nat.pow_le_pow_right (by decide) hN)
 have hb : ∀ i,(jh p n &&& (2 ^ N - 1 - jh q n)).testBit i = ((decide (i < n) && p i) && (decide (i < N) && !(decide (i < n) && q i))) := fun i => by
  rw [Nat.testBit_and,Ji,show 2 ^ N - 1 - jh q n = 2 ^ N - (jh q n + 1) by omega,Nat.testBit_two_pow_sub_succ hq,Ji]
 constructor
 ·intro h i hi hp
  have := hb i
  rw [h,Nat.zero_testBit,decide_eq_true hi,decide_eq_true (show i < N by omega),hp] at this
  cases hqi : q i with
  | true => rfl
  | false => rw [hqi] at this;simp at this
 ·intro h
  apply Nat.eq_of_testBit_eq
  intro i
  rw [hb,Nat.zero_testBit]
  by_cases hi : i < n
  ·cases hp : p i with
   | false => simp
   | true => rw [h i hi hp];simp [hi]
  ·simp [hi]
theorem jeK (p q : Nat -> Bool) (n : Nat) : jh p n &&& (2 ^ n - 1 - jh q n) = jh (fun i => p i && !q i) n := by
 have hq := JK q n
 apply Nat.eq_of_testBit_eq
 intro i
 rw [Nat.testBit_and,Ji,show 2 ^ n - 1 - jh q n = 2 ^ n - (jh q n + 1) by omega,Nat.testBit_two_pow_sub_succ hq,Ji,Ji]
 cases decide (i < n) <;> simp
theorem jiD (p : Nat -> Bool) {k n : Nat} (h : k < n) : jh p n / 2 ^ k % 2 = if p k then 1 else 0 := by
 have := Ji p n k
 rw [Nat.testBit_eq_decide_div_mod_eq,decide_eq_true h,Bool.true_and] at this
 cases hp : p k with
 | true => rw [hp] at this;simpa using this
 | false =>
   rw [hp] at this
   simp only [decide_eq_false_iff_not] at this
   simp only [Bool.false_eq_true,if_false];omega
theorem je9 (n : Int) (h0 : 0 <= n) (h1 : n < 2 ^ 62) : IntKind.i64.wrap n = n := by rw [IntKind.wrap_i64];omega
theorem i64_and (a b : Nat) (ha : a < 2 ^ 62) (hb : b < 2 ^ 62) : bits .and .i64 (a : Int) (b : Int) = ((a &&& b : Nat) : Int) := (bits_nat .i64 62 (by decide) je9 a b ha hb).1
theorem jcn (a b : Nat) (ha : a < 2 ^ 62) (hb : b < 2 ^ 62) : bits .or .i64 (a : Int) (b : Int) = ((a ||| b : Nat) : Int) := (bits_nat .i64 62 (by decide) je9 a b ha hb).2
theorem jjI (a b : Nat) (ha : a < 2 ^ 62) (hb : b < 2 ^ 62) : bits .andNot .i64 (a : Int) (b : Int) = ((a &&& (2 ^ 64 - 1 - b) : Nat) : Int) := by
 have hx : a &&& (2 ^ 64 - 1 - b) <= a := Nat.and_le_left
 show IntKind.i64.wrap ((BitVec.ofInt 64 (a : Int) &&& ~~~BitVec.ofInt 64 (b : Int)).toNat : Int) = _
 rw [BitVec.toNat_and,BitVec.toNat_not,ofInt_u64 a (by omega),ofInt_u64 b (by omega),IntKind.wrap_i64]
 omega
end Ro
end Go.Proofs.YtjmgolahkgalbaaGreatDoor
