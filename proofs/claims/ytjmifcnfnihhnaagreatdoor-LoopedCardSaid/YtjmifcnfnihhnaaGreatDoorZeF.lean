import Derived.WalkKit
import Derived.WalkSpells
import Derived.WalkLawsBesides
import Derived.Laws.Strings
import Derived.Lib.Strings
import Derived.Test.YtjmifcnfnihhnaaGreatDoorProg
/- AID: small laws on rows that a call owns. No program is named here. -/
set_option linter.unusedVariables false
set_option linter.unusedSimpArgs false
namespace Go.Proofs.YtjmifcnfnihhnaaGreatDoor
open Go.RowKit

theorem own_below {w w1 : World} {base size n : Nat} {e : TypeId} {v : Value} {xs : List Value} (h : w.ownsRow base e size v n xs) (hb : Below w.heap.size w w1) : w1.ownsRow base e size v n xs := by
  refine ⟨h.1, ?_⟩
  rcases h.2 with h' | ⟨g, cap, cur, h1, h2, h3, h4⟩
  · exact .inl h'
  · refine .inr ⟨g, cap, cur, h1, h2, ?_, h4⟩
    have hg : g < w.heap.size := by
      rcases Nat.lt_or_ge g w.heap.size with h | h
      · exact h
      · rw [Array.getElem?_eq_none h] at h3; simp at h3
    rw [hb.block g hg]; exact h3
/-- the cells of a block that was laid last -/
theorem cells_new (w : World) (arr : List Value) (e : TypeId) (b : Nat) (hb : b = w.heap.size) : ∀ j u, arr[j]? = some u → (w.alloc (.cells arr.toArray e)).cell? ((⟨b, 0, none⟩ : Addr).add j) = some u := by
  intro j u hj
  subst hb
  have := World.cell?_alloc_new (w := w) arr.toArray e j
  have ha : (⟨w.heap.size, 0, none⟩ : Addr).add j = ⟨w.heap.size, j, none⟩ := by
    unfold Addr.add
    split
    · rename_i h; rw [h]
    · simp
  rw [ha, this]; simpa using hj
theorem own_ge {w : World} {base size n : Nat} {e : TypeId} {v : Value} {xs : List Value} (h : w.ownsRow base e size v n xs) : ∀ k, v.ownBlock = some k → base ≤ k :=
  fun k hk => (h.lt k hk).1
theorem below_app {B : Nat} {w wr w3 : World} {row : Option Nat} (h : Below B w wr) (hB : B ≤ wr.heap.size) (o : Obj) (hg : (wr.alloc o).grownBy w3 row) (hr : ∀ k, row = some k → B ≤ k) : Below B w w3 :=
  (h.alloc hB o).grown hg (by have := World.size_alloc (w := wr) o; omega) hr
theorem below_app2 {B : Nat} {w wr w1 w3 : World} {row : Option Nat} (h : Below B w wr) (hB : B ≤ wr.heap.size) (h2 : Below wr.heap.size wr w1) (o1 o2 : Obj) (hg : ((w1.alloc o1).alloc o2).grownBy w3 row) (hr : ∀ k, row = some k → B ≤ k) : Below B w w3 := by
  have hs := h2.size
  have h3 : Below B w (w1.alloc o1) := (h.trans (h2.mono hB)).alloc (by omega) o1
  have := World.size_alloc (w := w1) o1
  exact below_app h3 (by omega) o2 hg hr
end Go.Proofs.YtjmifcnfnihhnaaGreatDoor
/- PLAIN: the words of a text, as functions of its bytes. No program is named here. -/
set_option linter.unusedVariables false
set_option linter.unusedSimpArgs false
namespace Go.Proofs.YtjmifcnfnihhnaaGreatDoor
namespace Sl

def digB (c : UInt8) : Bool := decide (48 ≤ c.toNat) && decide (c.toNat ≤ 57)
def smlB (c : UInt8) : Bool := c.toNat == 95 || (decide (97 ≤ c.toNat) && decide (c.toNat ≤ 122))
def letB (c : UInt8) : Bool := digB c || smlB c
def blkB (c : UInt8) : Bool := c.toNat == 32 || c.toNat == 10 || c.toNat == 9 || c.toNat == 13
/-- the text t stands in s at i -/
def stB (s : ByteArray) (i : Nat) (t : ByteArray) : Bool := decide (i + t.size ≤ s.size) && ((s.extract i (i + t.size)).toList == t.toList)
abbrev opn : ByteArray := ⟨#[40, 42]⟩
abbrev cls : ByteArray := ⟨#[42, 41]⟩

theorem stB_size {s : ByteArray} {i : Nat} {t : ByteArray} (h : stB s i t = true) : i + t.size ≤ s.size := by
  simp [stB] at h; exact h.1
theorem opn_cls {s : ByteArray} {i : Nat} (h : stB s i opn = true) : stB s i cls = false := by
  have h' := h
  unfold stB at h ⊢
  simp only [Bool.and_eq_true, decide_eq_true_eq, beq_iff_eq] at h
  have e1 : opn.size = 2 := rfl
  have e2 : cls.size = 2 := rfl
  rw [e1] at h; rw [e2, h.2]
  have : (opn.toList == cls.toList) = false := by simp [ByteArray.toList_eq]
  rw [this]; simp
/-- behind a remark's "(*": the place behind its "*)"; by fuel -/
def remF (s : ByteArray) : Nat → Nat → Option Nat
  | 0, _ => none
  | f + 1, i => if i < s.size then
      (if stB s i cls then some (i + 2) else if stB s i opn then (match remF s f (i + 2) with | some j => remF s f j | none => none) else remF s f (i + 1))
    else none
theorem remF_gt (s : ByteArray) : ∀ f i j, remF s f i = some j → i < j ∧ j ≤ s.size := by
  intro f
  induction f with
  | zero => intro i j h; simp [remF] at h
  | succ f ih =>
    intro i j h
    simp only [remF] at h
    split at h
    · split at h
      · rename_i h1
        have := stB_size h1
        have e2 : cls.size = 2 := rfl
        simp at h; omega
      · split at h
        · split at h
          · rename_i j' hj
            have a := ih _ _ hj
            have b := ih _ _ h
            omega
          · simp at h
        · have := ih _ _ h; omega
    · simp at h
/-- more fuel changes nothing -/
theorem remF_more (s : ByteArray) : ∀ f g i, s.size < f + i → s.size < g + i → remF s f i = remF s g i := by
  intro f
  induction f with
  | zero =>
    intro g i hf hg
    cases g with
    | zero => rfl
    | succ g => simp only [remF]; rw [if_neg (by omega)]
  | succ f ih =>
    intro g i hf hg
    cases g with
    | zero => simp only [remF]; rw [if_neg (by omega)]
    | succ g =>
      simp only [remF]
      split
      · split
        · rfl
        · split
          · rw [ih g (i + 2) (by omega) (by omega)]
            split
            · rename_i j hj
              have := remF_gt s g _ _ hj
              exact ih g j (by omega) (by omega)
            · rfl
          · exact ih g (i + 1) (by omega) (by omega)
      · rfl
def rem (s : ByteArray) (i : Nat) : Option Nat := remF s (s.size + 1) i
theorem rem_eq (s : ByteArray) (i : Nat) : rem s i = if i < s.size then
      (if stB s i cls then some (i + 2) else if stB s i opn then (match rem s (i + 2) with | some j => rem s j | none => none) else rem s (i + 1))
    else none := by
  by_cases h : i < s.size
  · have e : rem s i = remF s (s.size + 1) i := rfl
    rw [e, remF, if_pos h, if_pos h]
    have m : ∀ k, i < k → remF s s.size k = rem s k := fun k hk => remF_more s _ _ _ (by omega) (by omega)
    rw [m (i + 2) (by omega), m (i + 1) (by omega)]
    split
    · rfl
    · split
      · split
        · rename_i j hj
          rw [m j]
          have := remF_gt s _ _ _ hj
          omega
        · rfl
      · rfl
  · rw [if_neg h]
    show remF s (s.size + 1) i = none
    rw [remF, if_neg h]
theorem rem_gt {s : ByteArray} {i j : Nat} (h : rem s i = some j) : i < j ∧ j ≤ s.size := remF_gt s _ _ _ h
def optI : Option Nat → Int
  | some j => j
  | none => -1
/-- the code's count of open remarks -/
def cnt (s : ByteArray) (d at' : Nat) : Option Nat :=
  match d with
  | 0 => some at'
  | d + 1 => if at' < s.size then (if stB s at' opn then cnt s (d + 2) (at' + 2) else if stB s at' cls then cnt s d (at' + 2) else cnt s (d + 1) (at' + 1)) else none
termination_by s.size - at'
theorem cnt_zero (s : ByteArray) (a : Nat) : cnt s 0 a = some a := by rw [cnt]
theorem cnt_end (s : ByteArray) (d a : Nat) (h : ¬ a < s.size) : cnt s (d + 1) a = none := by rw [cnt, if_neg h]
theorem cnt_opn (s : ByteArray) (d a : Nat) (h : a < s.size) (h1 : stB s a opn = true) : cnt s (d + 1) a = cnt s (d + 2) (a + 2) := by rw [cnt, if_pos h, if_pos h1]
theorem cnt_cls (s : ByteArray) (d a : Nat) (h : a < s.size) (h0 : stB s a opn = false) (h1 : stB s a cls = true) : cnt s (d + 1) a = cnt s d (a + 2) := by
  rw [cnt, if_pos h, if_neg (by simp [h0]), if_pos h1]
theorem cnt_on (s : ByteArray) (d a : Nat) (h : a < s.size) (h0 : stB s a opn = false) (h1 : stB s a cls = false) : cnt s (d + 1) a = cnt s (d + 1) (a + 1) := by
  rw [cnt, if_pos h, if_neg (by simp [h0]), if_neg (by simp [h1])]
theorem cnt_rem (s : ByteArray) : ∀ n a d, s.size ≤ n + a → cnt s (d + 1) a = match rem s a with | some j => cnt s d j | none => none := by
  intro n
  induction n with
  | zero =>
    intro a d h
    rw [cnt_end s d a (by omega), rem_eq, if_neg (by omega)]
  | succ n ih =>
    intro a d h
    by_cases hl : a < s.size
    · rw [rem_eq, if_pos hl]
      by_cases ho : stB s a opn = true
      · have hc := opn_cls ho
        rw [cnt_opn s d a hl ho, ih (a + 2) (d + 1) (by omega), if_neg (by simp [hc]), if_pos ho]
        cases hr : rem s (a + 2) with
        | none => rfl
        | some j =>
          have := rem_gt hr
          exact ih j d (by omega)
      · have ho' : stB s a opn = false := by simpa using ho
        by_cases hc : stB s a cls = true
        · rw [cnt_cls s d a hl ho' hc, if_pos hc]
        · have hc' : stB s a cls = false := by simpa using hc
          rw [cnt_on s d a hl ho' hc', if_neg hc, if_neg ho]
          exact ih (a + 1) d (by omega)
    · rw [cnt_end s d a hl, rem_eq, if_neg hl]
theorem cnt_one (s : ByteArray) (a : Nat) : cnt s 1 a = rem s a := by
  rw [cnt_rem s s.size a 0 (by omega)]
  cases rem s a with
  | none => rfl
  | some j => exact cnt_zero s j
/-- behind the remark that begins at b, or b -/
def rEnd (s : ByteArray) (b : Nat) : Nat := if stB s b opn then (match rem s (b + 2) with | some j => j | none => b) else b
theorem rEnd_le (s : ByteArray) (b : Nat) (h : b ≤ s.size) : b ≤ rEnd s b ∧ rEnd s b ≤ s.size := by
  unfold rEnd
  split
  · split
    · rename_i j hj
      have := rem_gt hj
      omega
    · omega
  · omega
/-- behind blanks and remarks -/
def skp (s : ByteArray) (a : Nat) : Nat :=
  if h : a < s.size then (if blkB s[a] then skp s (a + 1) else if a < rEnd s a then skp s (rEnd s a) else a) else a
termination_by s.size - a
theorem skp_end (s : ByteArray) (a : Nat) (h : ¬ a < s.size) : skp s a = a := by rw [skp, dif_neg h]
theorem skp_blk (s : ByteArray) (a : Nat) (h : a < s.size) (hb : blkB s[a] = true) : skp s a = skp s (a + 1) := by rw [skp, dif_pos h, if_pos hb]
theorem skp_rem (s : ByteArray) (a : Nat) (h : a < s.size) (hb : blkB s[a] = false) (hr : a < rEnd s a) : skp s a = skp s (rEnd s a) := by
  rw [skp, dif_pos h, if_neg (by simp [hb]), if_pos hr]
theorem skp_stay (s : ByteArray) (a : Nat) (h : a < s.size) (hb : blkB s[a] = false) (hr : ¬ a < rEnd s a) : skp s a = a := by
  rw [skp, dif_pos h, if_neg (by simp [hb]), if_neg hr]
end Sl
end Go.Proofs.YtjmifcnfnihhnaaGreatDoor
/- PLAIN: the table of words; numbers; runs of letters. -/
set_option linter.unusedVariables false
set_option linter.unusedSimpArgs false
namespace Go.Proofs.YtjmifcnfnihhnaaGreatDoor
namespace Sl

/-- how the words of the grammar's own and the signs are written, by kind -/
def txtL : List (List UInt8) := [[], [], [], [108, 101, 116], [114, 101, 99], [105, 110], [105, 102], [116, 104, 101, 110], [101, 108, 115, 101], [102, 117, 110], [110, 111, 116], [116, 114, 117, 101], [102, 97, 108, 115, 101], [114, 101, 97, 100], [112, 114, 105, 110, 116], [108, 101, 110], [97, 114, 114, 97, 121], [112, 117, 116], [46, 40], [60, 62], [60, 61], [62, 61], [45, 62], [40], [41], [44], [59], [61], [60], [62], [43], [45], [42], [47], [37]]
def txt (k : Nat) : ByteArray := ⟨(txtL.getD k []).toArray⟩
theorem txt_far (k : Nat) (h : 35 ≤ k) : txt k = ⟨#[]⟩ := by
  unfold txt
  have : txtL[k]? = none := List.getElem?_eq_none (by show txtL.length ≤ k; exact h)
  simp [this]
theorem txt_size (k : Nat) : (txt k).size ≤ 5 := by
  by_cases h : k < 35
  · have : ∀ k : Fin 35, (txt k.val).size ≤ 5 := by decide
    exact this ⟨k, h⟩
  · rw [txt_far k (by omega)]; decide
/-- the first k of a row for which p holds, beginning at a, n of them -/
def firstK (p : Nat → Bool) : Nat → Nat → Option Nat
  | _, 0 => none
  | a, n + 1 => if p a then some a else firstK p (a + 1) n
/-- the sign at i -/
def signK (s : ByteArray) (i : Nat) : Option Nat := firstK (fun k => stB s i (txt k)) 18 17
/-- the word of the grammar's own that t is -/
def kwK (t : ByteArray) : Option Nat := firstK (fun k => (txt k).toList == t.toList) 3 15
theorem firstK_range (p : Nat → Bool) : ∀ n a k, firstK p a n = some k → a ≤ k ∧ k < a + n ∧ p k = true := by
  intro n
  induction n with
  | zero => intro a k h; simp [firstK] at h
  | succ n ih =>
    intro a k h
    simp only [firstK] at h
    split at h
    · simp at h; subst h; exact ⟨Nat.le_refl _, by omega, by assumption⟩
    · have := ih _ _ h; exact ⟨by omega, by omega, this.2.2⟩
theorem dataget (s : ByteArray) (k : Nat) (h : k < s.size) : s.data.toList.drop k = s[k] :: s.data.toList.drop (k + 1) := by
  rw [List.drop_eq_getElem_cons (by simpa using h)]; rfl
/-- the number that digits say -/
def decF : Nat → List UInt8 → Option Nat
  | n, [] => some n
  | n, c :: r => if digB c then (if n * 10 + (c.toNat - 48) ≤ 4611686018427387903 then decF (n * 10 + (c.toNat - 48)) r else none) else none
def numV (t : ByteArray) : Option Nat := decF 0 t.data.toList
/-- where the letters from j on end -/
def runE (s : ByteArray) (j : Nat) : Nat := if h : j < s.size then (if letB s[j] then runE s (j + 1) else j) else j
termination_by s.size - j
theorem runE_end (s : ByteArray) (j : Nat) (h : ¬ j < s.size) : runE s j = j := by rw [runE, dif_neg h]
theorem runE_on (s : ByteArray) (j : Nat) (h : j < s.size) (hl : letB s[j] = true) : runE s j = runE s (j + 1) := by rw [runE, dif_pos h, if_pos hl]
theorem runE_off (s : ByteArray) (j : Nat) (h : j < s.size) (hl : letB s[j] = false) : runE s j = j := by rw [runE, dif_pos h, if_neg (by simp [hl])]
theorem runE_le (s : ByteArray) : ∀ n j, s.size ≤ n + j → j ≤ s.size → j ≤ runE s j ∧ runE s j ≤ s.size := by
  intro n
  induction n with
  | zero => intro j h hj; rw [runE_end s j (by omega)]; omega
  | succ n ih =>
    intro j h hj
    by_cases hlt : j < s.size
    · by_cases hl : letB s[j] = true
      · rw [runE_on s j hlt hl]; have := ih (j + 1) (by omega) (by omega); omega
      · rw [runE_off s j hlt (by simpa using hl)]; omega
    · rw [runE_end s j hlt]; omega
end Sl
end Go.Proofs.YtjmifcnfnihhnaaGreatDoor
/- PLAIN: the row of a text's words. -/
set_option linter.unusedVariables false
set_option linter.unusedSimpArgs false
namespace Go.Proofs.YtjmifcnfnihhnaaGreatDoor
namespace Sl

def nmK (t : ByteArray) : Nat := (kwK t).getD 2
/-- what stands at a place: an error; or kind, number, text, the place behind -/
inductive WR where
  | err (e : Nat)
  | ok (k n : Nat) (t : ByteArray) (z : Nat)
def wordR (s : ByteArray) (p : Nat) : WR :=
  if h : p < s.size then
    if stB s p opn then .err 2
    else if letB s[p] then
      (if digB s[p] then (match numV (s.extract p (runE s p)) with
        | some v => .ok 1 v (s.extract p (runE s p)) (runE s p)
        | none => .err 3)
      else .ok (nmK (s.extract p (runE s p))) 0 (s.extract p (runE s p)) (runE s p))
    else match signK s p with
      | some k => .ok k 0 (txt k) (p + (txt k).size)
      | none => .err 2
  else .err 2
structure Tok where
  k : Nat
  n : Nat
  p : Nat
  t : ByteArray
inductive LR where
  | bad (e p : Nat)
  | good (l : List Tok)
def LR.pre (acc : List Tok) : LR → LR
  | .bad e p => .bad e p
  | .good l => .good (acc ++ l)
theorem LR.pre_nil (r : LR) : r.pre [] = r := by cases r <;> rfl
theorem LR.pre_pre (a b : List Tok) (r : LR) : (r.pre b).pre a = r.pre (a ++ b) := by cases r <;> simp [LR.pre]
/-- the words from a place on at which a word begins, or the text ends -/
def lexF (s : ByteArray) : Nat → Nat → LR
  | 0, _ => .good []
  | f + 1, a => if a < s.size then (match wordR s a with
      | .err e => .bad e a
      | .ok k n t z => (lexF s f (skp s z)).pre [⟨k, n, a, t⟩]) else .good []

theorem skp_le (s : ByteArray) : ∀ n a, s.size ≤ n + a → a ≤ s.size → a ≤ skp s a ∧ skp s a ≤ s.size := by
  intro n
  induction n with
  | zero => intro a h ha; rw [skp_end s a (by omega)]; omega
  | succ n ih =>
    intro a h ha
    by_cases hl : a < s.size
    · by_cases hb : blkB s[a] = true
      · rw [skp_blk s a hl hb]; have := ih (a + 1) (by omega) (by omega); omega
      · have hb' : blkB s[a] = false := by simpa using hb
        by_cases hr : a < rEnd s a
        · rw [skp_rem s a hl hb' hr]
          have h1 := rEnd_le s a ha
          have := ih (rEnd s a) (by omega) (by omega); omega
        · rw [skp_stay s a hl hb' hr]; omega
    · rw [skp_end s a hl]; omega
theorem wordR_le {s : ByteArray} {p k n z : Nat} {t : ByteArray} (h : wordR s p = .ok k n t z) : p < z ∧ z ≤ s.size ∧ k < 35 := by
  unfold wordR at h
  split at h
  · rename_i hp
    split at h
    · simp at h
    · split at h
      · rename_i hl
        have h1 : p < runE s p ∧ runE s p ≤ s.size := by
          rw [runE_on s p hp hl]
          have := runE_le s s.size (p + 1) (by omega) (by omega)
          omega
        split at h
        · split at h
          · simp at h; obtain ⟨rfl, _, _, rfl⟩ := h; exact ⟨h1.1, h1.2, by omega⟩
          · simp at h
        · simp at h
          obtain ⟨rfl, _, _, rfl⟩ := h
          refine ⟨h1.1, h1.2, ?_⟩
          unfold nmK
          cases hk : kwK (s.extract p (runE s p)) with
          | none => simp
          | some k => have := firstK_range _ _ _ _ hk; simp; omega
      · split at h
        · rename_i k' hk
          simp at h
          obtain ⟨rfl, _, _, rfl⟩ := h
          have h2 := firstK_range _ _ _ _ hk
          have h3 := stB_size h2.2.2
          refine ⟨?_, h3, by omega⟩
          have : ∀ k : Fin 35, 18 ≤ k.val → 0 < (txt k.val).size := by decide
          have := this ⟨k', by omega⟩ h2.1
          simp at this
          omega
        · simp at h
  · simp at h
theorem wordR_err {s : ByteArray} {p e : Nat} (h : wordR s p = .err e) : e = 2 ∨ e = 3 := by
  unfold wordR at h
  split at h
  · split at h
    · simp at h; exact .inl h.symm
    · split at h
      · split at h
        · split at h
          · simp at h
          · simp at h; exact .inr h.symm
        · simp at h
      · split at h
        · simp at h
        · simp at h; exact .inl h.symm
  · simp at h; exact .inl h.symm
theorem lexF_more (s : ByteArray) : ∀ f g a, s.size < f + a → s.size < g + a → a ≤ s.size → lexF s f a = lexF s g a := by
  intro f
  induction f with
  | zero => intro g a h; intro _ h2; omega
  | succ f ih =>
    intro g a hf hg ha
    cases g with
    | zero => omega
    | succ g =>
      simp only [lexF]
      split
      · split
        · rfl
        · rename_i k n t z hw
          have h1 := wordR_le hw
          have h2 := skp_le s s.size z (by omega) (by omega)
          rw [ih g (skp s z) (by omega) (by omega) (by omega)]
      · rfl
def lex (s : ByteArray) (a : Nat) : LR := lexF s (s.size + 1) a
theorem lex_end (s : ByteArray) (a : Nat) (h : ¬ a < s.size) : lex s a = .good [] := by
  show lexF s (s.size + 1) a = _
  rw [lexF, if_neg h]
theorem lex_err {s : ByteArray} {a e : Nat} (h : a < s.size) (hw : wordR s a = .err e) : lex s a = .bad e a := by
  show lexF s (s.size + 1) a = _
  rw [lexF, if_pos h, hw]
theorem lex_ok {s : ByteArray} {a k n z : Nat} {t : ByteArray} (h : a < s.size) (hw : wordR s a = .ok k n t z) : lex s a = (lex s (skp s z)).pre [⟨k, n, a, t⟩] := by
  show lexF s (s.size + 1) a = _
  rw [lexF, if_pos h, hw]
  have h1 := wordR_le hw
  have h2 := skp_le s s.size z (by omega) (by omega)
  show (lexF s s.size (skp s z)).pre _ = (lexF s (s.size + 1) (skp s z)).pre _
  rw [lexF_more s s.size (s.size + 1) (skp s z) (by omega) (by omega) (by omega)]
end Sl
end Go.Proofs.YtjmifcnfnihhnaaGreatDoor
/- WALKS: the small functions of both lexers. -/
set_option linter.unusedVariables false
set_option linter.unusedSimpArgs false
namespace Go.Proofs.YtjmifcnfnihhnaaGreatDoor
namespace Sl
end Sl
open Go.RowKit Sl

theorem ret_bool {a b : Bool} (h : a = b) : Ending.returned (.bool a) = .returned (.bool b) := by rw [h]
theorem ret_int {k : IntKind} {a b : Int} (h : a = b) : Ending.returned (.int k a) = .returned (.int k b) := by rw [h]
theorem ret_str {a b : ByteArray} (h : a = b) : Ending.returned (.string a) = .returned (.string b) := by rw [h]

theorem isDigit_any (c : UInt8) (w : World) :
    Calls Tryz.prog 89 #[.int .u8 c.toNat] w fun e w' => e = .returned (.bool (digB c)) ∧ w' = w := by
  go_enter Tryz.func89, Tryz.ntmps89
  go_wp2
  all_goals
    go_ret
    refine ⟨ret_bool ?_, rfl⟩
    rw [Bool.eq_iff_iff]; simp [digB]; omega



theorem isBlank_any (c : UInt8) (w : World) :
    Calls Tryz.prog 84 #[.int .u8 c.toNat] w fun e w' => e = .returned (.bool (blkB c)) ∧ w' = w := by
  go_enter Tryz.func84, Tryz.ntmps84
  go_wp2
  all_goals
    go_ret
    refine ⟨ret_bool ?_, rfl⟩
    rw [Bool.eq_iff_iff]; simp [blkB]; omega


theorem isLetter_any (c : UInt8) (w : World) :
    Calls Tryz.prog 87 #[.int .u8 c.toNat] w fun e w' => e = .returned (.bool (letB c)) ∧ w' = w := by
  go_enter Tryz.func87, Tryz.ntmps87
  go_wp2_with (first | (go_at_call 89; refine (isDigit_any _ _).mono ?_; rintro e w' ⟨rfl, rfl⟩))
  all_goals
    go_ret
    refine ⟨ret_bool ?_, rfl⟩
    rw [Bool.eq_iff_iff]
    simp only [letB, smlB, digB] at *
    simp at *
    omega

theorem standsAt_any (s t : ByteArray) (i : Nat) (w : World) (hs : s.size ≤ maxLen) (hi : i + t.size ≤ maxLen) :
    Calls Tryz.prog 86 #[.string s, .int .i64 i, .string t] w fun e w' => e = .returned (.bool (stB s i t)) ∧ w' = w := by
  unfold maxLen at hs hi
  go_enter Tryz.func86, Tryz.ntmps86
  go_wp2
  all_goals
    go_ret
    refine ⟨ret_bool ?_, rfl⟩
  · have h : i + t.size ≤ s.size := by omega
    simp [stB, h]
  · have h : ¬ i + t.size ≤ s.size := by omega
    simp [stB, h]

end Go.Proofs.YtjmifcnfnihhnaaGreatDoor
/- WALKS: remarks and blanks. -/
set_option linter.unusedVariables false
set_option linter.unusedSimpArgs false
namespace Go.Proofs.YtjmifcnfnihhnaaGreatDoor
namespace Sl
end Sl
open Go.RowKit Sl

set_option maxHeartbeats 400000 in
theorem remarkEnd_any (s : ByteArray) (hs : s.size ≤ 1000) (b : Nat) (hb : b ≤ s.size) (w : World) :
    Calls Tryz.prog 85 #[.string s, .int .i64 b] w fun e w' => e = .returned (.int .i64 (rEnd s b)) ∧ w' = w := by
  have hm : s.size ≤ maxLen := by unfold maxLen; omega
  by_cases ho : stB s b opn = true
  · have hsz := stB_size ho
    have e2 : opn.size = 2 := rfl
    rw [e2] at hsz; clear e2
    go_enter Tryz.func85, Tryz.ntmps85
    go_wp2_with (go_at_call 86; refine (standsAt_any _ _ _ _ hm (by unfold maxLen; show b + 2 ≤ _; omega)).mono ?_; rintro e w' ⟨rfl, rfl⟩)
    go_loop [5, 6] (fun t u => ∃ d k : Nat, b + 2 ≤ k ∧ k ≤ s.size ∧ d ≤ k ∧ cnt s d k = rem s (b + 2) ∧ t = .int .i64 d ∧ u = .int .i64 k) (fun _ u => s.size - (intOf u).toNat)
    case atStart => exact ⟨1, b + 2, Nat.le_refl _, hsz, by omega, cnt_one s _, rfl, by go_num⟩
    case round =>
      obtain ⟨d, k, hbk, hks, hdk, hck, rfl, rfl⟩ := hrel
      have HC : Hid (cnt s d k = rem s (b + 2)) := hck
      clear hck
      by_cases hlt : k < s.size
      · cases d with
        | zero =>
          have HE : Hid (rEnd s b = k) := by
            show _ = _
            have h := HC.out
            rw [cnt_zero] at h
            rw [rEnd, if_pos ho, ← h]
          go_wp2_with fail
          go_ret
          exact ⟨ret_int (by rw [HE.out]), rfl⟩
        | succ d =>
          by_cases h1 : stB s k opn = true
          · have hsz1 := stB_size h1
            have e2 : opn.size = 2 := rfl
            rw [e2] at hsz1; clear e2
            go_wp2_with (go_at_call 86; refine (standsAt_any _ _ _ _ hm (by unfold maxLen; show k + 2 ≤ _; omega)).mono ?_; rintro e w' ⟨rfl, rfl⟩)
            go_round
            case rel => exact ⟨d + 2, k + 2, by omega, by omega, by omega, by rw [← HC.out, cnt_opn s d k hlt h1], by go_num, by go_num⟩
            case measure => simp [intOf]; omega
          · have h1' : stB s k opn = false := by simpa using h1
            clear h1
            by_cases h2 : stB s k cls = true
            · have hsz1 := stB_size h2
              have e2 : cls.size = 2 := rfl
              rw [e2] at hsz1; clear e2
              go_wp2_with (go_at_call 86; refine (standsAt_any _ _ _ _ hm (by unfold maxLen; show k + 2 ≤ _; omega)).mono ?_; rintro e w' ⟨rfl, rfl⟩)
              go_round
              case rel => exact ⟨d, k + 2, by omega, by omega, by omega, by rw [← HC.out, cnt_cls s d k hlt h1' h2], by go_num, by go_num⟩
              case measure => simp [intOf]; omega
            · have h2' : stB s k cls = false := by simpa using h2
              clear h2
              go_wp2_with (go_at_call 86; refine (standsAt_any _ _ _ _ hm (by unfold maxLen; show k + 2 ≤ _; omega)).mono ?_; rintro e w' ⟨rfl, rfl⟩)
              go_round
              case rel => exact ⟨d + 1, k + 1, by omega, by omega, by omega, by rw [← HC.out, cnt_on s d k hlt h1' h2'], by go_num, by go_num⟩
              case measure => simp [intOf]; omega
      · cases d with
        | zero =>
          have HE : Hid (rEnd s b = k) := by
            show _ = _
            have h := HC.out
            rw [cnt_zero] at h
            rw [rEnd, if_pos ho, ← h]
          go_wp2_with fail
          go_ret
          exact ⟨ret_int (by rw [HE.out]), rfl⟩
        | succ d =>
          have HE : Hid (rEnd s b = b) := by
            show _ = _
            have h := HC.out
            rw [cnt_end s d k hlt] at h
            rw [rEnd, if_pos ho, ← h]
          go_wp2_with fail
          go_ret
          exact ⟨ret_int (by rw [HE.out]), rfl⟩
  · have ho' : stB s b opn = false := by simpa using ho
    have HE : Hid (rEnd s b = b) := by
      show _ = _
      rw [rEnd, if_neg ho]
    clear ho
    go_enter Tryz.func85, Tryz.ntmps85
    go_wp2_with (go_at_call 86; refine (standsAt_any _ _ _ _ hm (by unfold maxLen; show b + 2 ≤ _; omega)).mono ?_; rintro e w' ⟨rfl, rfl⟩)
    go_ret
    exact ⟨ret_int (by rw [HE.out]), rfl⟩

set_option maxHeartbeats 400000 in
theorem skip_any (s : ByteArray) (hs : s.size ≤ 1000) (b : Nat) (hb : b ≤ s.size) (w : World) :
    Calls Tryz.prog 48 #[.string s, .int .i64 b] w fun e w' => e = .returned (.int .i64 (skp s b)) ∧ w' = w := by
  go_enter Tryz.func48, Tryz.ntmps48
  go_wp2_with fail
  go_loop [1] (fun t => ∃ k : Nat, b ≤ k ∧ k ≤ s.size ∧ skp s k = skp s b ∧ t = .int .i64 k) (fun t => s.size - (intOf t).toNat)
  case atStart => exact ⟨b, Nat.le_refl _, hb, rfl, rfl⟩
  case round =>
    obtain ⟨k, hbk, hks, hrk, rfl⟩ := hrel
    have HR : Hid (skp s k = skp s b) := hrk
    clear hrk
    by_cases hlt : k < s.size
    · by_cases hbl : blkB s[k] = true
      · go_wp2_with (go_at_call 84; refine (isBlank_any _ _).mono ?_; rintro e w' ⟨rfl, rfl⟩)
        go_round
        case rel => exact ⟨k + 1, by omega, by omega, by rw [← HR.out, skp_blk s k hlt hbl], by go_num⟩
        case measure => simp [intOf]; omega
      · have hbl' : blkB s[k] = false := by simpa using hbl
        clear hbl
        have hre := rEnd_le s k hks
        by_cases hr : k < rEnd s k
        · go_wp2_with (first | (go_at_call 84; refine (isBlank_any _ _).mono ?_; rintro e w' ⟨rfl, rfl⟩) | (go_at_call 85; refine (remarkEnd_any s hs k hks _).mono ?_; rintro e w' ⟨rfl, rfl⟩))
          go_round
          case rel => exact ⟨rEnd s k, by omega, by omega, by rw [← HR.out, skp_rem s k hlt hbl' hr], rfl⟩
          case measure => simp [intOf]; omega
        · go_wp2_with (first | (go_at_call 84; refine (isBlank_any _ _).mono ?_; rintro e w' ⟨rfl, rfl⟩) | (go_at_call 85; refine (remarkEnd_any s hs k hks _).mono ?_; rintro e w' ⟨rfl, rfl⟩))
          go_ret
          exact ⟨ret_int (by rw [← HR.out, skp_stay s k hlt hbl' hr]), rfl⟩
    · go_wp2_with fail
      go_ret
      exact ⟨ret_int (by rw [← HR.out, skp_end s k hlt]), rfl⟩
end Go.Proofs.YtjmifcnfnihhnaaGreatDoor
/- WALKS: the table of words; numbers. -/
set_option linter.unusedVariables false
set_option linter.unusedSimpArgs false
namespace Go.Proofs.YtjmifcnfnihhnaaGreatDoor
namespace Sl
end Sl
open Go.RowKit Sl

/-- the table of texts lies where the program lays it -/
def TX (w : World) : Prop := ∀ k : Nat, k < 35 → w.cell? ⟨1, k, none⟩ = some (.string (txt k))
theorem TX.below {B : Nat} {w w' : World} (h : TX w) (hb : Below B w w') (hB : 1 < B) : TX w' :=
  fun k hk => (hb.cell (p := ⟨1, k, none⟩) hB).trans (h k hk)

theorem text_any (k : Nat) (w : World) (hT : TX w) (hk : k ≤ 1000):
    Calls Tryz.prog 138 #[.int .i64 k] w fun e w' => e = .returned (.string (txt k)) ∧ w' = w := by
  by_cases h : k < 35
  · have hc := hT k h
    clear hT
    go_enter Tryz.func138, Tryz.ntmps138
    go_wp2
    go_ret
    exact ⟨rfl, rfl⟩
  · have e : Hid (txt k = ⟨#[]⟩) := txt_far k (by omega)
    clear hT
    go_enter Tryz.func138, Tryz.ntmps138
    go_wp2
    go_ret
    exact ⟨ret_str e.out.symm, rfl⟩

theorem decF_dig {n : Nat} {c : UInt8} {r : List UInt8} (h : digB c = true) : decF n (c :: r) = if n * 10 + (c.toNat - 48) ≤ 4611686018427387903 then decF (n * 10 + (c.toNat - 48)) r else none := by
  rw [decF, if_pos h]

set_option maxHeartbeats 400000 in
theorem numberOf_any (s : ByteArray) (hs : s.size ≤ 1000) (w : World) :
    Calls Tryz.prog 91 #[.string s] w fun e w' => e = .returned (.int .i64 (optI (numV s))) ∧ w' = w := by
  go_enter Tryz.func91, Tryz.ntmps91
  go_wp2_with fail
  go_loop [3, 4] (fun t u => ∃ v k : Nat, v ≤ 4611686018427387903 ∧ k ≤ s.size ∧ decF v (s.data.toList.drop k) = numV s ∧ t = .int .i64 v ∧ u = .int .i64 k) (fun _ u => s.size - (intOf u).toNat)
  case atStart => exact ⟨0, 0, by omega, by omega, rfl, rfl, rfl⟩
  case round =>
    obtain ⟨v, k, hv, hk, hd, rfl, rfl⟩ := hrel
    have HD : Hid (decF v (s.data.toList.drop k) = numV s) := hd
    clear hd
    by_cases hlt : k < s.size
    · by_cases hg : digB s[k] = true
      · have hr : 48 ≤ s[k].toNat ∧ s[k].toNat ≤ 57 := by simpa [digB] using hg
        by_cases hov : v * 10 + (s[k].toNat - 48) ≤ 4611686018427387903
        · have HN : Hid (decF (v * 10 + (s[k].toNat - 48)) (s.data.toList.drop (k + 1)) = numV s) := by
            show _ = _
            rw [← HD.out, dataget s k hlt, decF_dig hg, if_pos hov]
          go_wp2_with (go_at_call 89; refine (isDigit_any _ _).mono ?_; rintro e w' ⟨rfl, rfl⟩)
          go_round
          case rel => exact ⟨v * 10 + (s[k].toNat - 48), k + 1, hov, by omega, HN.out, by go_num, by go_num⟩
          case measure => simp [intOf]; omega
        · have HN : Hid (none = numV s) := by
            show _ = _
            rw [← HD.out, dataget s k hlt, decF_dig hg, if_neg hov]
          go_wp2_with (go_at_call 89; refine (isDigit_any _ _).mono ?_; rintro e w' ⟨rfl, rfl⟩)
          go_ret
          exact ⟨ret_int (by rw [← HN.out]; rfl), rfl⟩
      · have hg' : digB s[k] = false := by simpa using hg
        have HN : Hid (none = numV s) := by
          show _ = _
          rw [← HD.out, dataget s k hlt, decF, if_neg hg]
        clear hg
        go_wp2_with (go_at_call 89; refine (isDigit_any _ _).mono ?_; rintro e w' ⟨rfl, rfl⟩)
        go_ret
        exact ⟨ret_int (by rw [← HN.out]; rfl), rfl⟩
    · have HN : Hid (some v = numV s) := by
        show _ = _
        rw [← HD.out, List.drop_eq_nil_of_le (by simpa using hlt), decF]
      go_wp2_with fail
      go_ret
      exact ⟨ret_int (by rw [← HN.out]; rfl), rfl⟩
end Go.Proofs.YtjmifcnfnihhnaaGreatDoor
/- WALKS: the code's words. -/
set_option linter.unusedVariables false
set_option linter.unusedSimpArgs false
namespace Go.Proofs.YtjmifcnfnihhnaaGreatDoor
namespace Sl
end Sl
open Go.RowKit Sl

/-- a word of the code's: kind, place, number, name -/
abbrev wv (k p n : Nat) (t : ByteArray) : Value := .agg #[.int .i64 k, .int .i64 p, .int .i64 n, .string t]
def nmT (t : ByteArray) : ByteArray := if (kwK t).isSome then ⟨#[]⟩ else t

set_option maxHeartbeats 400000 in
theorem named_any (t : ByteArray) (p : Nat) (w : World) (hT : TX w) (h0 : 1 < w.heap.size) :
    Calls Tryz.prog 90 #[.string t, .int .i64 p] w fun e w' => e = .returned (wv (nmK t) p 0 (nmT t)) ∧ Below w.heap.size w w' := by
  have hb : Below w.heap.size w w := Below.refl _ _
  go_enter Tryz.func90, Tryz.ntmps90
  go_wp2_with fail
  go_loop [5] (fun u => ∃ k : Nat, 3 ≤ k ∧ k ≤ 18 ∧ firstK (fun k => (txt k).toList == t.toList) k (18 - k) = kwK t ∧ u = .int .i64 k) (fun u => 18 - (intOf u).toNat)
  case atStart => exact ⟨3, Nat.le_refl _, by omega, rfl, rfl⟩
  case round =>
    obtain ⟨k, hk3, hk, hf, rfl⟩ := hrel
    have HF : Hid (firstK (fun k => (txt k).toList == t.toList) k (18 - k) = kwK t) := hf
    clear hf
    by_cases hlt : k ≤ 17
    · by_cases he : ((txt k).toList == t.toList) = true
      · go_wp2_with (go_at_call 138; refine (text_any _ _ ?_ (by omega)).mono ?_; exact hT.below (hb.alloc (Nat.le_refl _) _) h0; rintro e w' ⟨rfl, rfl⟩)
        have HE : Hid (kwK t = some k) := by
          show _ = _
          rw [← HF.out, show 18 - k = (17 - k) + 1 by omega, firstK, if_pos he]
        refine bodyPost_ret (v := wv k p 0 ⟨#[]⟩) (by simp [results, Tryz.results90, go_sem]) rfl ⟨?_, hb.alloc (Nat.le_refl _) _⟩
        simp [nmK, nmT, HE.out]
      · have he' : ((txt k).toList == t.toList) = false := by simpa using he
        have HE : Hid (firstK (fun k => (txt k).toList == t.toList) (k + 1) (18 - (k + 1)) = kwK t) := by
          show _ = _
          rw [← HF.out, show 18 - k = (18 - (k + 1)) + 1 by omega, firstK, if_neg he]
        clear he
        go_wp2_with (go_at_call 138; refine (text_any _ _ ?_ (by omega)).mono ?_; exact hT.below (hb.alloc (Nat.le_refl _) _) h0; rintro e w' ⟨rfl, rfl⟩)
        go_round
        case rel => exact ⟨k + 1, by omega, by omega, HE.out, by go_num⟩
        case measure => simp [intOf]; omega
    · have HE : Hid (kwK t = none) := by
        show _ = _
        rw [← HF.out, show 18 - k = 0 by omega, firstK]
      go_wp2_with fail
      refine bodyPost_ret (v := wv 2 p 0 t) (by simp [results, Tryz.results90, go_sem]) rfl ⟨?_, hb.alloc (Nat.le_refl _) _⟩
      simp [nmK, nmT, HE.out]


/-- what signAt hands back -/
def signV (s : ByteArray) (p : Nat) : Value := match signK s p with
  | some k => .tuple #[wv k p 0 ⟨#[]⟩, .int .i64 0, .int .i64 ((p + (txt k).size : Nat) : Int)]
  | none => .tuple #[wv 0 0 0 ⟨#[]⟩, .int .i64 2, .int .i64 0]
set_option maxHeartbeats 400000 in
theorem signAt_any (s : ByteArray) (hs : s.size ≤ 1000) (p : Nat) (hp : p ≤ s.size) (w : World) (hT : TX w) (h0 : 1 < w.heap.size) :
    Calls Tryz.prog 88 #[.string s, .int .i64 p] w fun e w' => e = .returned (signV s p) ∧ Below w.heap.size w w' := by
  have hb : Below w.heap.size w w := Below.refl _ _
  have hm : s.size ≤ maxLen := by unfold maxLen; omega
  go_enter Tryz.func88, Tryz.ntmps88
  go_wp2_with fail
  go_loop [7] (fun u => ∃ k : Nat, 18 ≤ k ∧ k ≤ 35 ∧ firstK (fun k => stB s p (txt k)) k (35 - k) = signK s p ∧ u = .int .i64 k) (fun u => 35 - (intOf u).toNat)
  case atStart => exact ⟨18, Nat.le_refl _, by omega, rfl, rfl⟩
  case round =>
    obtain ⟨k, hk3, hk, hf, rfl⟩ := hrel
    have HF : Hid (firstK (fun k => stB s p (txt k)) k (35 - k) = signK s p) := hf
    clear hf
    have hz := txt_size k
    by_cases hlt : k ≤ 34
    · by_cases he : stB s p (txt k) = true
      · have HE : Hid (signK s p = some k) := by
          show _ = _
          rw [← HF.out, show 35 - k = (34 - k) + 1 by omega, firstK, if_pos he]
        go_wp2_with (first | (go_at_call 138; refine (text_any _ _ ?_ (by omega)).mono ?_; exact hT.below (hb.alloc (Nat.le_refl _) _) h0; rintro e w' ⟨rfl, rfl⟩) | (go_at_call 86; refine (standsAt_any _ _ _ _ hm (by unfold maxLen; omega)).mono ?_; rintro e w' ⟨rfl, rfl⟩))
        refine bodyPost_ret (v := .tuple #[wv k p 0 ⟨#[]⟩, .int .i64 0, .int .i64 (((p + (txt k).size : Nat)) : Int)]) (by simp [results, Tryz.results88, go_sem]) rfl ⟨by rw [signV, HE.out], hb.alloc (Nat.le_refl _) _⟩
      · have he' : stB s p (txt k) = false := by simpa using he
        have HE : Hid (firstK (fun k => stB s p (txt k)) (k + 1) (35 - (k + 1)) = signK s p) := by
          show _ = _
          rw [← HF.out, show 35 - k = (35 - (k + 1)) + 1 by omega, firstK, if_neg he]
        clear he
        go_wp2_with (first | (go_at_call 138; refine (text_any _ _ ?_ (by omega)).mono ?_; exact hT.below (hb.alloc (Nat.le_refl _) _) h0; rintro e w' ⟨rfl, rfl⟩) | (go_at_call 86; refine (standsAt_any _ _ _ _ hm (by unfold maxLen; omega)).mono ?_; rintro e w' ⟨rfl, rfl⟩))
        go_round
        case rel => exact ⟨k + 1, by omega, by omega, HE.out, by go_num⟩
        case measure => simp [intOf]; omega
    · have HE : Hid (signK s p = none) := by
        show _ = _
        rw [← HF.out, show 35 - k = 0 by omega, firstK]
      go_wp2_with fail
      exact bodyPost_ret (v := .tuple #[wv 0 0 0 ⟨#[]⟩, .int .i64 2, .int .i64 0]) (by simp [results, Tryz.results88, go_sem]) rfl ⟨by rw [signV, HE.out], hb.alloc (Nat.le_refl _) _⟩
end Go.Proofs.YtjmifcnfnihhnaaGreatDoor
/- WALKS: the word at a place. -/
set_option linter.unusedVariables false
set_option linter.unusedSimpArgs false
namespace Go.Proofs.YtjmifcnfnihhnaaGreatDoor
namespace Sl
end Sl
open Go.RowKit Sl

/-- a name's text; of other words nothing -/
def nmOf (k : Nat) (t : ByteArray) : ByteArray := if k = 2 then t else ⟨#[]⟩
def WR.val (p : Nat) : WR → Value
  | .err e => .tuple #[wv 0 0 0 ⟨#[]⟩, .int .i64 e, .int .i64 0]
  | .ok k n t z => .tuple #[wv k p n (nmOf k t), .int .i64 0, .int .i64 z]
theorem nmT_of (t : ByteArray) : nmT t = nmOf (nmK t) t := by
  unfold nmT nmOf nmK
  cases h : kwK t with
  | none => simp
  | some k =>
    have := firstK_range _ _ _ _ h
    simp; omega
theorem signV_of (s : ByteArray) (p : Nat) (hp : p < s.size) (ho : stB s p opn = false) (hl : letB s[p] = false) : signV s p = WR.val p (wordR s p) := by
  unfold signV wordR
  rw [dif_pos hp, if_neg (by simp [ho]), if_neg (by simp [hl])]
  cases h : signK s p with
  | none => rfl
  | some k =>
    have := firstK_range _ _ _ _ h
    simp only [WR.val, nmOf]
    rw [if_neg (by omega)]

theorem signV_form (s : ByteArray) (p : Nat) : ∃ k' p' e' z' : Nat, signV s p = .tuple #[wv k' p' 0 ⟨#[]⟩, .int .i64 e', .int .i64 z'] := by
  unfold signV
  split
  · exact ⟨_, _, 0, _, rfl⟩
  · exact ⟨0, 0, 2, 0, rfl⟩
theorem bcell {W w1 : World} (hb : Below W.heap.size W w1) : (∀ b o, b < W.heap.size → w1.cell? ⟨b, o, none⟩ = W.cell? ⟨b, o, none⟩) ∧ (∀ b o, b < W.heap.size → w1.frozen? ⟨b, o, none⟩ = W.frozen? ⟨b, o, none⟩) :=
  ⟨fun b o h => hb.cell (p := ⟨b, o, none⟩) h, fun b o h => hb.frozen (p := ⟨b, o, none⟩) h⟩
set_option maxHeartbeats 1000000 in
theorem wordAt_any (s : ByteArray) (hs : s.size ≤ 1000) (p : Nat) (hp : p < s.size) (w : World) (hT : TX w) (h0 : 1 < w.heap.size) :
    Calls Tryz.prog 49 #[.string s, .int .i64 p] w fun e w' => e = .returned (WR.val p (wordR s p)) ∧ Below w.heap.size w w' := by
  have hb : Below w.heap.size w w := Below.refl _ _
  have hm : s.size ≤ maxLen := by unfold maxLen; omega
  by_cases ho : stB s p opn = true
  · have HE : Hid (wordR s p = .err 2) := by show _ = _; rw [wordR, dif_pos hp, if_pos ho]
    go_enter Tryz.func49, Tryz.ntmps49
    go_wp2_with (first | (go_at_call 86; refine (standsAt_any _ _ _ _ hm (by unfold maxLen; show p + 2 ≤ _; omega)).mono ?_; rintro e w' ⟨rfl, rfl⟩))
    exact bodyPost_ret (v := .tuple #[wv 0 0 0 ⟨#[]⟩, .int .i64 2, .int .i64 0]) (by simp [results, Tryz.results49, go_sem]) rfl ⟨by rw [HE.out]; rfl, hb.alloc (Nat.le_refl _) _⟩
  · have ho' : stB s p opn = false := by simpa using ho
    clear ho
    by_cases hl : letB s[p] = true
    · have hr : p < runE s p ∧ runE s p ≤ s.size := by
        rw [runE_on s p hp hl]
        have := runE_le s s.size (p + 1) (by omega) (by omega)
        omega
      obtain ⟨z, hz⟩ : ∃ z, z = runE s p := ⟨_, rfl⟩
      rw [← hz] at hr
      have HZ : Hid (z = runE s p) := hz
      clear hz
      have hx : (s.extract p z).size ≤ 1000 := by simp; omega
      go_enter Tryz.func49, Tryz.ntmps49
      go_wp2_with (first | (go_at_call 86; refine (standsAt_any _ _ _ _ hm (by unfold maxLen; show p + 2 ≤ _; omega)).mono ?_; rintro e w' ⟨rfl, rfl⟩) | (go_at_call 87; refine (isLetter_any _ _).mono ?_; rintro e w' ⟨rfl, rfl⟩))
      go_loop [7] (fun u => ∃ j : Nat, p ≤ j ∧ j ≤ s.size ∧ runE s j = z ∧ u = .int .i64 j) (fun u => s.size - (intOf u).toNat)
      case atStart => exact ⟨p, Nat.le_refl _, by omega, HZ.out.symm, rfl⟩
      case round =>
        obtain ⟨j, hpj, hj, hf, rfl⟩ := hrel
        have HF : Hid (runE s j = z) := hf
        clear hf
        by_cases hg : ∃ h : j < s.size, letB s[j] = true
        · obtain ⟨hlt, hlj⟩ := hg
          go_wp2_with (go_at_call 87; refine (isLetter_any _ _).mono ?_; rintro e w' ⟨rfl, rfl⟩)
          go_round
          case rel => exact ⟨j + 1, by omega, by omega, by rw [← HF.out, runE_on s j hlt hlj], by go_num⟩
          case measure => simp [intOf]; omega
        · have hjz : j = z := by
            by_cases hlt : j < s.size
            · by_cases hlj : letB s[j] = true
              · exact absurd ⟨hlt, hlj⟩ hg
              · rw [← HF.out, runE_off s j hlt (by simpa using hlj)]
            · rw [← HF.out, runE_end s j hlt]
          clear HF
          subst hjz
          have hg' : ∀ h : j < s.size, letB s[j] = false := by
            intro h
            cases hh : letB s[j] with
            | false => rfl
            | true => exact absurd ⟨h, hh⟩ hg
          clear hg
          by_cases hd : digB s[p] = true
          · cases hv : numV (s.extract p j) with
            | none =>
              have HE : Hid (wordR s p = .err 3) := by show _ = _; rw [wordR, dif_pos hp, if_neg (by simp [ho']), if_pos hl, if_pos hd, ← HZ.out, hv]
              by_cases hlt : j < s.size
              all_goals
                first | have hgj := hg' hlt | skip
                clear hg'
                go_wp2_with (first | (go_at_call 87; refine (isLetter_any _ _).mono ?_; rintro e w' ⟨rfl, rfl⟩) | (go_at_call 89; refine (isDigit_any _ _).mono ?_; rintro e w' ⟨rfl, rfl⟩) | (go_at_call 91; refine (numberOf_any _ hx _).mono ?_; rw [hv]; rintro e w' ⟨rfl, rfl⟩; simp only [optI]))
                exact bodyPost_ret (v := .tuple #[wv 0 0 0 ⟨#[]⟩, .int .i64 3, .int .i64 0]) (by simp [results, Tryz.results49, go_sem]) rfl ⟨by rw [HE.out]; rfl, hb.alloc (Nat.le_refl _) _⟩
            | some v =>
              have HE : Hid (wordR s p = .ok 1 v (s.extract p j) j) := by show _ = _; rw [wordR, dif_pos hp, if_neg (by simp [ho']), if_pos hl, if_pos hd, ← HZ.out, hv]
              by_cases hlt : j < s.size
              all_goals
                first | have hgj := hg' hlt | skip
                clear hg'
                go_wp2_with (first | (go_at_call 87; refine (isLetter_any _ _).mono ?_; rintro e w' ⟨rfl, rfl⟩) | (go_at_call 89; refine (isDigit_any _ _).mono ?_; rintro e w' ⟨rfl, rfl⟩) | (go_at_call 91; refine (numberOf_any _ hx _).mono ?_; rw [hv]; rintro e w' ⟨rfl, rfl⟩; simp only [optI]))
                exact bodyPost_ret (v := .tuple #[wv 1 p v ⟨#[]⟩, .int .i64 0, .int .i64 j]) (by simp [results, Tryz.results49, go_sem]) rfl ⟨by rw [HE.out]; rfl, hb.alloc (Nat.le_refl _) _⟩
          · have hd' : digB s[p] = false := by simpa using hd
            have HE : Hid (wordR s p = .ok (nmK (s.extract p j)) 0 (s.extract p j) j) := by show _ = _; rw [wordR, dif_pos hp, if_neg (by simp [ho']), if_pos hl, if_neg hd, ← HZ.out]
            clear hd
            by_cases hlt : j < s.size
            all_goals
              first | have hgj := hg' hlt | skip
              clear hg'
              go_wp2_with (first | (go_at_call 87; refine (isLetter_any _ _).mono ?_; rintro e w' ⟨rfl, rfl⟩) | (go_at_call 89; refine (isDigit_any _ _).mono ?_; rintro e w' ⟨rfl, rfl⟩) | (go_at_call 90; refine (named_any _ _ _ (hT.below (hb.alloc (Nat.le_refl _) _) h0) (by first | (simp; done) | (simp; omega))).mono ?_; rintro e w' ⟨rfl, hb2⟩; obtain ⟨hc2, hf2⟩ := bcell hb2))
              have hsz := hb2.size
              simp at hsz
              exact bodyPost_ret (v := .tuple #[wv (nmK (s.extract p j)) p 0 (nmT (s.extract p j)), .int .i64 0, .int .i64 j]) (by simp [results, Tryz.results49, go_sem, hc2]) rfl ⟨by rw [HE.out, nmT_of]; rfl, (((((hb.alloc (Nat.le_refl _) _).trans (hb2.mono (by simp))).setCell (Nat.le_refl _) _).setCell (Nat.le_refl _) _).setCell (Nat.le_refl _) _).setCell (Nat.le_refl _) _⟩
    · have hl' : letB s[p] = false := by simpa using hl
      have HE : Hid (signV s p = WR.val p (wordR s p)) := signV_of s p hp ho' hl'
      clear hl
      obtain ⟨k', p', e', z', HV⟩ := signV_form s p
      have HV : Hid (signV s p = .tuple #[wv k' p' 0 ⟨#[]⟩, .int .i64 e', .int .i64 z']) := HV
      go_enter Tryz.func49, Tryz.ntmps49
      go_wp2_with (first | (go_at_call 87; refine (isLetter_any _ _).mono ?_; rintro e w' ⟨rfl, rfl⟩) | (go_at_call 89; refine (isDigit_any _ _).mono ?_; rintro e w' ⟨rfl, rfl⟩) | (go_at_call 86; refine (standsAt_any _ _ _ _ hm (by unfold maxLen; show p + 2 ≤ _; omega)).mono ?_; rintro e w' ⟨rfl, rfl⟩) | (go_at_call 88; refine (signAt_any s hs p (by omega) _ (hT.below (hb.alloc (Nat.le_refl _) _) h0) (by first | (simp; done) | (simp; omega))).mono ?_; rw [HV.out]; rintro e w' ⟨rfl, hb2⟩; obtain ⟨hc2, hf2⟩ := bcell hb2))
      have hsz := hb2.size
      simp at hsz
      exact bodyPost_ret (v := .tuple #[wv k' p' 0 ⟨#[]⟩, .int .i64 e', .int .i64 z']) (by simp [results, Tryz.results49, go_sem, hc2]) rfl ⟨by rw [← HE.out, HV.out], (((((hb.alloc (Nat.le_refl _) _).trans (hb2.mono (by simp))).setCell (Nat.le_refl _) _).setCell (Nat.le_refl _) _).setCell (Nat.le_refl _) _).setCell (Nat.le_refl _) _⟩
end Go.Proofs.YtjmifcnfnihhnaaGreatDoor
/- WALKS: the code's Split. -/
set_option linter.unusedVariables false
set_option linter.unusedSimpArgs false
namespace Go.Proofs.YtjmifcnfnihhnaaGreatDoor
namespace Sl
end Sl
open Go.RowKit Sl

/-- a word's cells, as the code lays it -/
def Tok.cells (x : Tok) : List Value := [.int .i64 x.k, .int .i64 x.p, .int .i64 x.n, .string (nmOf x.k x.t)]
theorem toks_len (l : List Tok) : (l.flatMap Tok.cells).length = l.length * 4 := by
  induction l with
  | nil => rfl
  | cons x r ih => simp only [List.flatMap_cons, List.length_append, ih, List.length_cons, Tok.cells, List.length_nil]; omega
theorem Tryz.info122 : (Tryz.prog.info? 122).map (fun i => (i.zero, i.size, i.bytes)) = some (some (.agg #[.int .i64 0, .int .i64 0, .int .i64 0, .string ⟨#[]⟩]), 4, 40) := by kernel_rfl
def endTok (s : ByteArray) : Tok := ⟨0, 0, s.size, ⟨#[]⟩⟩

theorem tok_one (x : Tok) : ∀ u ∈ Tok.cells x, u.oneCell' = true := by
  intro u hu
  simp only [Tok.cells, List.mem_cons, List.not_mem_nil, or_false] at hu
  rcases hu with rfl | rfl | rfl | rfl <;> rfl
theorem skip_zero (s : ByteArray) (hs : s.size ≤ 1000) (w : World) :
    Calls Tryz.prog 48 #[.string s, .int .i64 0] w fun e w' => e = .returned (.int .i64 (skp s 0)) ∧ w' = w := skip_any s hs 0 (Nat.zero_le _) w
def LR.e : LR → Nat
  | .bad e _ => e
  | .good _ => 0
def LR.p : LR → Nat
  | .bad _ p => p
  | .good _ => 0
/-- the slice that Split hands back -/
def SplitOwn (s : ByteArray) (B : Nat) (w : World) (v : Value) : LR → Prop
  | .good l => w.ownsRow B 122 4 v (l ++ [endTok s]).length ((l ++ [endTok s]).flatMap Tok.cells)
  | .bad _ _ => v = .slice none 0 0

set_option maxRecDepth 100000 in
set_option maxHeartbeats 1000000 in
theorem split_short (s : ByteArray) (hs : s.size ≤ 400) (w : World) (hT : TX w) (h0 : 1 < w.heap.size) :
    Calls Tryz.prog 30 #[.string s] w fun e w' => ∃ v, e = .returned (.tuple #[v, .int .i64 (LR.e (lex s (skp s 0))), .int .i64 (LR.p (lex s (skp s 0)))]) ∧ SplitOwn s w.heap.size w' v (lex s (skp s 0)) ∧ Below w.heap.size w w' := by
  have hb : Below w.heap.size w w := Below.refl _ _
  obtain ⟨i0, hi, hz0, hz1, hz2⟩ := info_parts Tryz.info122
  have hsk := (skp_le s s.size 0 (by omega) (by omega)).2
  obtain ⟨R, hR⟩ : ∃ R, R = lex s (skp s 0) := ⟨_, rfl⟩
  rw [← hR]
  have HR : Hid (R = lex s (skp s 0)) := hR
  clear hR
  go_enter Tryz.func30, Tryz.ntmps30
  go_wp2_with (go_at_call 48; refine (skip_zero s (by omega) _).mono ?_; rintro e w' ⟨rfl, rfl⟩)
  go_loopw [5, 6] (fun v u wr => ∃ (acc : List Tok) (k : Nat), acc.length ≤ k ∧ k ≤ s.size ∧ (lex s k).pre acc = R ∧ u = .int .i64 k ∧ wr.ownsRow w.heap.size 122 4 v acc.length (acc.flatMap Tok.cells) ∧ Below w.heap.size w wr) (fun _ u _ => s.size - (intOf u).toNat)
  case atStart => exact ⟨[], skp s 0, Nat.zero_le _, hsk, by rw [LR.pre_nil]; exact HR.out.symm, rfl, World.ownsRow_lit w #[] 0 (Nat.le_refl _) (by decide) rfl, hb.alloc (Nat.le_refl _) _⟩
  case round =>
    obtain ⟨acc, k, hak, hk, hlx, rfl, hown, hbw⟩ := hrel
    have HX : Hid ((lex s k).pre acc = R) := hlx
    clear hlx
    have hsz := hbw.size
    have hTw := hT.below hbw h0
    by_cases hlt : k < s.size
    · cases hw : wordR s k with
      | err e' =>
        have HW : Hid (wordR s k = .err e') := hw
        have HE : Hid (R = .bad e' k) := by
          show _ = _
          rw [← HX.out, lex_err hlt hw]; rfl
        have he : e' = 2 ∨ e' = 3 := wordR_err hw
        have he0 : ((e' : Int) != 0) = true := by rcases he with rfl | rfl <;> rfl
        clear hw he
        go_wp2_with (go_at_call 49; refine (wordAt_any s (by omega) k hlt _ hTw (by omega)).mono ?_; rw [HW.out]; rintro e w1 ⟨rfl, hb2⟩; simp only [WR.val])
        go_ret3
        exact ⟨.slice none 0 0, by rw [HE.out]; rfl, by rw [HE.out]; rfl, (hbw.trans (hb2.mono hsz)).alloc (by have := hb2.size; omega) _⟩
      | ok k' n' t' z' =>
        have hzz := wordR_le hw
        have hs2 := skp_le s s.size z' (by omega) (by omega)
        have HW : Hid (wordR s k = .ok k' n' t' z') := hw
        clear hw
        go_wp2_with (first | (go_at_call 49; refine (wordAt_any s (by omega) k hlt _ hTw (by omega)).mono ?_; rw [HW.out]; rintro e w1 ⟨rfl, hb2⟩; simp only [WR.val]; obtain ⟨hc2, hf2⟩ := bcell hb2) | (at_builtin; (refine wpList_append_own _ rfl (.tmp 31) (.tmp 33) 71 rfl w.heap.size 122 i0 _ 4 40 Tryz.underlying71 hi hz0 hz1 hz2 rfl (by decide) _ _ _ rfl (((own_below hown hb2).alloc _).alloc _) _ 1 1 (Tok.cells ⟨k', n', k, t'⟩) rfl rfl (cells_new _ _ _ _ (by simp)) ?_ ?_ ?_ ?_ ?_; exact tok_one _; (unfold maxLen; omega); omega; (have := hb2.size; simp; omega); intro v' w3 hown3 hg3 _; have hbw3 := below_app2 hbw hsz hb2 _ _ hg3 (own_ge hown))) | (go_at_call 48; refine (skip_any s (by omega) _ (by omega) _).mono ?_; rintro e w' ⟨rfl, rfl⟩))
        go_roundw
        case rel => exact ⟨acc ++ [⟨k', n', k, t'⟩], skp s z', by simp; omega, hs2.2, by rw [← HX.out, lex_ok hlt HW.out, LR.pre_pre], rfl, by simpa using hown3, hbw3⟩
        case measure => simp [intOf]; omega
    · have HE : Hid (R = .good acc) := by
        show _ = _
        rw [← HX.out, lex_end s k hlt]; simp [LR.pre]
      go_wp2_with (at_builtin; refine wpList_append_own _ rfl (.tmp 38) (.tmp 42) 71 rfl w.heap.size 122 i0 _ 4 40 Tryz.underlying71 hi hz0 hz1 hz2 rfl (by decide) _ _ _ rfl (hown.alloc _) _ 1 1 (Tok.cells (endTok s)) rfl rfl (cells_new _ _ _ _ rfl) ?_ ?_ ?_ ?_ ?_; exact tok_one _; (unfold maxLen; omega); omega; (simp; omega); intro v' w3 hown3 hg3 _; have hbw3 := below_app hbw hsz _ hg3 (own_ge hown))
      go_ret3
      refine ⟨v', ?_, ?_, hbw3⟩
      · rw [HE.out]; rfl
      · rw [HE.out]; simpa [SplitOwn] using hown3
theorem split_long (s : ByteArray) (hs : 400 < s.size) (hm : s.size ≤ maxLen) (w : World) :
    Calls Tryz.prog 30 #[.string s] w fun e w' => e = .returned (.tuple #[.slice none 0 0, .int .i64 1, .int .i64 0]) ∧ w' = w := by
  unfold maxLen at hm
  go_enter Tryz.func30, Tryz.ntmps30
  go_wp2_with fail
  go_ret3
  exact ⟨rfl, rfl⟩
end Go.Proofs.YtjmifcnfnihhnaaGreatDoor
