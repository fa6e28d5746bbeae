/- PLAIN: sets of places as bits. No program is named here. -/
import Derived.Laws.BitsAllLaws
import Derived.Laws.BitsLemmas
set_option linter.unusedVariables false
set_option linter.unusedSimpArgs false
namespace Go.Proofs.YtmkdoejpgkgpbaaDoor
namespace Ro
/-- the number whose bits are the places below n that are in the set -/
def mask (p : Nat → Bool) : Nat → Nat
  | 0 => 0
  | n + 1 => if p n then mask p n ||| 2 ^ n else mask p n
theorem mask_bit (p : Nat → Bool) : ∀ (n i : Nat), (mask p n).testBit i = (decide (i < n) && p i)
  | 0, i => by simp [mask]
  | n + 1, i => by
    unfold mask
    by_cases hp : p n = true
    · rw [if_pos hp, Nat.testBit_or, mask_bit p n i, Nat.testBit_two_pow]
      by_cases h : i = n
      · subst h; simp [hp]
      · have : ¬ n = i := fun e => h e.symm
        simp only [this, decide_false, Bool.or_false]
        by_cases h2 : i < n
        · rw [decide_eq_true h2, decide_eq_true (by omega)]
        · rw [decide_eq_false h2, decide_eq_false (by omega)]
    · rw [if_neg hp, mask_bit p n i]
      by_cases h : i = n
      · subst h; simp at hp; simp [hp]
      · by_cases h2 : i < n
        · rw [decide_eq_true h2, decide_eq_true (by omega)]
        · rw [decide_eq_false h2, decide_eq_false (by omega)]
theorem mask_lt (p : Nat → Bool) (n : Nat) : mask p n < 2 ^ n := by
  apply Nat.lt_pow_two_of_testBit
  intro i hi
  rw [mask_bit, decide_eq_false (by omega)]; rfl
theorem mask_congr {p q : Nat → Bool} {n : Nat} (h : ∀ i, i < n → p i = q i) : mask p n = mask q n := by
  apply Nat.eq_of_testBit_eq
  intro i
  rw [mask_bit, mask_bit]
  by_cases hi : i < n
  · rw [h i hi]
  · rw [decide_eq_false hi]; rfl
theorem mask_and (p q : Nat → Bool) (n : Nat) : mask p n &&& mask q n = mask (fun i => p i && q i) n := by
  apply Nat.eq_of_testBit_eq
  intro i
  rw [Nat.testBit_and, mask_bit, mask_bit, mask_bit]
  cases decide (i < n) <;> simp
theorem mask_or (p q : Nat → Bool) (n : Nat) : mask p n ||| mask q n = mask (fun i => p i || q i) n := by
  apply Nat.eq_of_testBit_eq
  intro i
  rw [Nat.testBit_or, mask_bit, mask_bit, mask_bit]
  cases decide (i < n) <;> simp
theorem mask_one {k n : Nat} (h : k < n) : 2 ^ k = mask (fun i => i == k) n := by
  apply Nat.eq_of_testBit_eq
  intro i
  rw [Nat.testBit_two_pow, mask_bit]
  by_cases e : k = i
  · subst e; simp [h]
  · have : ¬ i = k := fun h => e h.symm
    simp [e, this]
theorem mask_none (n : Nat) : mask (fun _ => false) n = 0 := by
  apply Nat.eq_of_testBit_eq
  intro i
  rw [mask_bit]; simp
/-- is nothing of p outside q? -/
theorem mask_sub (p q : Nat → Bool) (n N : Nat) (hN : n ≤ N) : (mask p n &&& (2 ^ N - 1 - mask q n) = 0) ↔ ∀ i, i < n → p i = true → q i = true := by
  have hq : mask q n < 2 ^ N := Nat.lt_of_lt_of_le (mask_lt q n) (Nat.pow_le_pow_right (by decide) hN)
  have hb : ∀ i, (mask p n &&& (2 ^ N - 1 - mask q n)).testBit i = ((decide (i < n) && p i) && (decide (i < N) && !(decide (i < n) && q i))) := fun i => by
    rw [Nat.testBit_and, mask_bit, show 2 ^ N - 1 - mask q n = 2 ^ N - (mask q n + 1) by omega, Nat.testBit_two_pow_sub_succ hq, mask_bit]
  constructor
  · intro h i hi hp
    have := hb i
    rw [h, Nat.zero_testBit, decide_eq_true hi, decide_eq_true (show i < N by omega), hp] at this
    cases hqi : q i with
    | true => rfl
    | false => rw [hqi] at this; simp at this
  · intro h
    apply Nat.eq_of_testBit_eq
    intro i
    rw [hb, Nat.zero_testBit]
    by_cases hi : i < n
    · cases hp : p i with
      | false => simp
      | true => rw [h i hi hp]; simp [hi]
    · simp [hi]
theorem mask_andNot (p q : Nat → Bool) (n : Nat) : mask p n &&& (2 ^ n - 1 - mask q n) = mask (fun i => p i && !q i) n := by
  have hq := mask_lt q n
  apply Nat.eq_of_testBit_eq
  intro i
  rw [Nat.testBit_and, mask_bit, show 2 ^ n - 1 - mask q n = 2 ^ n - (mask q n + 1) by omega, Nat.testBit_two_pow_sub_succ hq, mask_bit, mask_bit]
  cases decide (i < n) <;> simp
theorem mask_has (p : Nat → Bool) {k n : Nat} (h : k < n) : mask p n / 2 ^ k % 2 = if p k then 1 else 0 := by
  have := mask_bit p n k
  rw [Nat.testBit_eq_decide_div_mod_eq, decide_eq_true h, Bool.true_and] at this
  cases hp : p k with
  | true => rw [hp] at this; simpa using this
  | false =>
    rw [hp] at this
    simp only [decide_eq_false_iff_not] at this
    simp only [Bool.false_eq_true, if_false]; omega
/-! on the machine's numbers -/
theorem i64_w (n : Int) (h0 : 0 ≤ n) (h1 : n < 2 ^ 62) : IntKind.i64.wrap n = n := by rw [IntKind.wrap_i64]; omega
theorem i64_and (a b : Nat) (ha : a < 2 ^ 62) (hb : b < 2 ^ 62) : bits .and .i64 (a : Int) (b : Int) = ((a &&& b : Nat) : Int) := (bits_nat .i64 62 (by decide) i64_w a b ha hb).1
theorem i64_or (a b : Nat) (ha : a < 2 ^ 62) (hb : b < 2 ^ 62) : bits .or .i64 (a : Int) (b : Int) = ((a ||| b : Nat) : Int) := (bits_nat .i64 62 (by decide) i64_w a b ha hb).2
theorem i64_andNot (a b : Nat) (ha : a < 2 ^ 62) (hb : b < 2 ^ 62) : bits .andNot .i64 (a : Int) (b : Int) = ((a &&& (2 ^ 64 - 1 - b) : Nat) : Int) := by
  have hx : a &&& (2 ^ 64 - 1 - b) ≤ a := Nat.and_le_left
  show IntKind.i64.wrap ((BitVec.ofInt 64 (a : Int) &&& ~~~BitVec.ofInt 64 (b : Int)).toNat : Int) = _
  rw [BitVec.toNat_and, BitVec.toNat_not, ofInt_u64 a (by omega), ofInt_u64 b (by omega), IntKind.wrap_i64]
  omega
end Ro
end Go.Proofs.YtmkdoejpgkgpbaaDoor
