import Derived.WalkKit
import Derived.WalkSpells
import Derived.WalkLawsBesides
import Derived.Laws.Strings
import Derived.Lib.Strings
import Derived.Test.YtdmedmmdioabgaaGreatDoorProg
/- AID: small laws on rows that a call owns. No program is named here. -/
set_option linter.unusedVariables false
set_option linter.unusedSimpArgs false
namespace Go.Proofs.YtdmedmmdioabgaaGreatDoor
open Go.RowKit

theorem own_below {w w1 : World} {base size n : Nat} {e : TypeId} {v : Value} {xs : List Value} (h : w.ownsRow base e size v n xs) (hb : Below w.heap.size w w1) : w1.ownsRow base e size v n xs := by
  refine ⟨h.1, ?_⟩
  rcases h.2 with h' | ⟨g, cap, cur, h1, h2, h3, h4⟩
  · exact .inl h'
  · refine .inr ⟨g, cap, cur, h1, h2, ?_, h4⟩
    have hg : g < w.heap.size := by
      rcases Nat.lt_or_ge g w.heap.size with h | h
      · exact h
      · rw [Array.getElem?_eq_none h] at h3; simp at h3
    rw [hb.block g hg]; exact h3
/-- the cells of a block that was laid last -/
theorem cells_new (w : World) (arr : List Value) (e : TypeId) (b : Nat) (hb : b = w.heap.size) : ∀ j u, arr[j]? = some u → (w.alloc (.cells arr.toArray e)).cell? ((⟨b, 0, none⟩ : Addr).add j) = some u := by
  intro j u hj
  subst hb
  have := World.cell?_alloc_new (w := w) arr.toArray e j
  have ha : (⟨w.heap.size, 0, none⟩ : Addr).add j = ⟨w.heap.size, j, none⟩ := by
    unfold Addr.add
    split
    · rename_i h; rw [h]
    · simp
  rw [ha, this]; simpa using hj
theorem own_ge {w : World} {base size n : Nat} {e : TypeId} {v : Value} {xs : List Value} (h : w.ownsRow base e size v n xs) : ∀ k, v.ownBlock = some k → base ≤ k :=
  fun k hk => (h.lt k hk).1
theorem below_app {B : Nat} {w wr w3 : World} {row : Option Nat} (h : Below B w wr) (hB : B ≤ wr.heap.size) (o : Obj) (hg : (wr.alloc o).grownBy w3 row) (hr : ∀ k, row = some k → B ≤ k) : Below B w w3 :=
  (h.alloc hB o).grown hg (by have := World.size_alloc (w := wr) o; omega) hr
theorem below_app2 {B : Nat} {w wr w1 w3 : World} {row : Option Nat} (h : Below B w wr) (hB : B ≤ wr.heap.size) (h2 : Below wr.heap.size wr w1) (o1 o2 : Obj) (hg : ((w1.alloc o1).alloc o2).grownBy w3 row) (hr : ∀ k, row = some k → B ≤ k) : Below B w w3 := by
  have hs := h2.size
  have h3 : Below B w (w1.alloc o1) := (h.trans (h2.mono hB)).alloc (by omega) o1
  have := World.size_alloc (w := w1) o1
  exact below_app h3 (by omega) o2 hg hr
end Go.Proofs.YtdmedmmdioabgaaGreatDoor
/- PLAIN: the words of a text, as functions of its bytes. No program is named here. -/
set_option linter.unusedVariables false
set_option linter.unusedSimpArgs false
namespace Go.Proofs.YtdmedmmdioabgaaGreatDoor
namespace Sl

def digB (c : UInt8) : Bool := decide (48 ≤ c.toNat) && decide (c.toNat ≤ 57)
def smlB (c : UInt8) : Bool := c.toNat == 95 || (decide (97 ≤ c.toNat) && decide (c.toNat ≤ 122))
def letB (c : UInt8) : Bool := digB c || smlB c
def blkB (c : UInt8) : Bool := c.toNat == 32 || c.toNat == 10 || c.toNat == 9 || c.toNat == 13
/-- the text t stands in s at i -/
def stB (s : ByteArray) (i : Nat) (t : ByteArray) : Bool := decide (i + t.size ≤ s.size) && ((s.extract i (i + t.size)).toList == t.toList)
abbrev opn : ByteArray := ⟨#[40, 42]⟩
abbrev cls : ByteArray := ⟨#[42, 41]⟩

theorem stB_size {s : ByteArray} {i : Nat} {t : ByteArray} (h : stB s i t = true) : i + t.size ≤ s.size := by
  simp [stB] at h; exact h.1
theorem opn_cls {s : ByteArray} {i : Nat} (h : stB s i opn = true) : stB s i cls = false := by
  have h' := h
  unfold stB at h ⊢
  simp only [Bool.and_eq_true, decide_eq_true_eq, beq_iff_eq] at h
  have e1 : opn.size = 2 := rfl
  have e2 : cls.size = 2 := rfl
  rw [e1] at h; rw [e2, h.2]
  have : (opn.toList == cls.toList) = false := by simp [ByteArray.toList_eq]
  rw [this]; simp
/-- behind a remark's "(*": the place behind its "*)"; by fuel -/
def remF (s : ByteArray) : Nat → Nat → Option Nat
  | 0, _ => none
  | f + 1, i => if i < s.size then
      (if stB s i cls then some (i + 2) else if stB s i opn then (match remF s f (i + 2) with | some j => remF s f j | none => none) else remF s f (i + 1))
    else none
theorem remF_gt (s : ByteArray) : ∀ f i j, remF s f i = some j → i < j ∧ j ≤ s.size := by
  intro f
  induction f with
  | zero => intro i j h; simp [remF] at h
  | succ f ih =>
    intro i j h
    simp only [remF] at h
    split at h
    · split at h
      · rename_i h1
        have := stB_size h1
        have e2 : cls.size = 2 := rfl
        simp at h; omega
      · split at h
        · split at h
          · rename_i j' hj
            have a := ih _ _ hj
            have b := ih _ _ h
            omega
          · simp at h
        · have := ih _ _ h; omega
    · simp at h
/-- more fuel changes nothing -/
theorem remF_more (s : ByteArray) : ∀ f g i, s.size < f + i → s.size < g + i → remF s f i = remF s g i := by
  intro f
  induction f with
  | zero =>
    intro g i hf hg
    cases g with
    | zero => rfl
    | succ g => simp only [remF]; rw [if_neg (by omega)]
  | succ f ih =>
    intro g i hf hg
    cases g with
    | zero => simp only [remF]; rw [if_neg (by omega)]
    | succ g =>
      simp only [remF]
      split
      · split
        · rfl
        · split
          · rw [ih g (i + 2) (by omega) (by omega)]
            split
            · rename_i j hj
              have := remF_gt s g _ _ hj
              exact ih g j (by omega) (by omega)
            · rfl
          · exact ih g (i + 1) (by omega) (by omega)
      · rfl
def rem (s : ByteArray) (i : Nat) : Option Nat := remF s (s.size + 1) i
theorem rem_eq (s : ByteArray) (i : Nat) : rem s i = if i < s.size then
      (if stB s i cls then some (i + 2) else if stB s i opn then (match rem s (i + 2) with | some j => rem s j | none => none) else rem s (i + 1))
    else none := by
  by_cases h : i < s.size
  · have e : rem s i = remF s (s.size + 1) i := rfl
    rw [e, remF, if_pos h, if_pos h]
    have m : ∀ k, i < k → remF s s.size k = rem s k := fun k hk => remF_more s _ _ _ (by omega) (by omega)
    rw [m (i + 2) (by omega), m (i + 1) (by omega)]
    split
    · rfl
    · split
      · split
        · rename_i j hj
          rw [m j]
          have := remF_gt s _ _ _ hj
          omega
        · rfl
      · rfl
  · rw [if_neg h]
    show remF s (s.size + 1) i = none
    rw [remF, if_neg h]
theorem rem_gt {s : ByteArray} {i j : Nat} (h : rem s i = some j) : i < j ∧ j ≤ s.size := remF_gt s _ _ _ h
def optI : Option Nat → Int
  | some j => j
  | none => -1
/-- the code's count of open remarks -/
def cnt (s : ByteArray) (d at' : Nat) : Option Nat :=
  match d with
  | 0 => some at'
  | d + 1 => if at' < s.size then (if stB s at' opn then cnt s (d + 2) (at' + 2) else if stB s at' cls then cnt s d (at' + 2) else cnt s (d + 1) (at' + 1)) else none
termination_by s.size - at'
theorem cnt_zero (s : ByteArray) (a : Nat) : cnt s 0 a = some a := by rw [cnt]
theorem cnt_end (s : ByteArray) (d a : Nat) (h : ¬ a < s.size) : cnt s (d + 1) a = none := by rw [cnt, if_neg h]
theorem cnt_opn (s : ByteArray) (d a : Nat) (h : a < s.size) (h1 : stB s a opn = true) : cnt s (d + 1) a = cnt s (d + 2) (a + 2) := by rw [cnt, if_pos h, if_pos h1]
theorem cnt_cls (s : ByteArray) (d a : Nat) (h : a < s.size) (h0 : stB s a opn = false) (h1 : stB s a cls = true) : cnt s (d + 1) a = cnt s d (a + 2) := by
  rw [cnt, if_pos h, if_neg (by simp [h0]), if_pos h1]
theorem cnt_on (s : ByteArray) (d a : Nat) (h : a < s.size) (h0 : stB s a opn = false) (h1 : stB s a cls = false) : cnt s (d + 1) a = cnt s (d + 1) (a + 1) := by
  rw [cnt, if_pos h, if_neg (by simp [h0]), if_neg (by simp [h1])]
theorem cnt_rem (s : ByteArray) : ∀ n a d, s.size ≤ n + a → cnt s (d + 1) a = match rem s a with | some j => cnt s d j | none => none := by
  intro n
  induction n with
  | zero =>
    intro a d h
    rw [cnt_end s d a (by omega), rem_eq, if_neg (by omega)]
  | succ n ih =>
    intro a d h
    by_cases hl : a < s.size
    · rw [rem_eq, if_pos hl]
      by_cases ho : stB s a opn = true
      · have hc := opn_cls ho
        rw [cnt_opn s d a hl ho, ih (a + 2) (d + 1) (by omega), if_neg (by simp [hc]), if_pos ho]
        cases hr : rem s (a + 2) with
        | none => rfl
        | some j =>
          have := rem_gt hr
          exact ih j d (by omega)
      · have ho' : stB s a opn = false := by simpa using ho
        by_cases hc : stB s a cls = true
        · rw [cnt_cls s d a hl ho' hc, if_pos hc]
        · have hc' : stB s a cls = false := by simpa using hc
          rw [cnt_on s d a hl ho' hc', if_neg hc, if_neg ho]
          exact ih (a + 1) d (by omega)
    · rw [cnt_end s d a hl, rem_eq, if_neg hl]
theorem cnt_one (s : ByteArray) (a : Nat) : cnt s 1 a = rem s a := by
  rw [cnt_rem s s.size a 0 (by omega)]
  cases rem s a with
  | none => rfl
  | some j => exact cnt_zero s j
/-- behind the remark that begins at b, or b -/
def rEnd (s : ByteArray) (b : Nat) : Nat := if stB s b opn then (match rem s (b + 2) with | some j => j | none => b) else b
theorem rEnd_le (s : ByteArray) (b : Nat) (h : b ≤ s.size) : b ≤ rEnd s b ∧ rEnd s b ≤ s.size := by
  unfold rEnd
  split
  · split
    · rename_i j hj
      have := rem_gt hj
      omega
    · omega
  · omega
/-- behind blanks and remarks -/
def skp (s : ByteArray) (a : Nat) : Nat :=
  if h : a < s.size then (if blkB s[a] then skp s (a + 1) else if a < rEnd s a then skp s (rEnd s a) else a) else a
termination_by s.size - a
theorem skp_end (s : ByteArray) (a : Nat) (h : ¬ a < s.size) : skp s a = a := by rw [skp, dif_neg h]
theorem skp_blk (s : ByteArray) (a : Nat) (h : a < s.size) (hb : blkB s[a] = true) : skp s a = skp s (a + 1) := by rw [skp, dif_pos h, if_pos hb]
theorem skp_rem (s : ByteArray) (a : Nat) (h : a < s.size) (hb : blkB s[a] = false) (hr : a < rEnd s a) : skp s a = skp s (rEnd s a) := by
  rw [skp, dif_pos h, if_neg (by simp [hb]), if_pos hr]
theorem skp_stay (s : ByteArray) (a : Nat) (h : a < s.size) (hb : blkB s[a] = false) (hr : ¬ a < rEnd s a) : skp s a = a := by
  rw [skp, dif_pos h, if_neg (by simp [hb]), if_neg hr]
end Sl
end Go.Proofs.YtdmedmmdioabgaaGreatDoor
/- PLAIN: the table of words; numbers; runs of letters. -/
set_option linter.unusedVariables false
set_option linter.unusedSimpArgs false
namespace Go.Proofs.YtdmedmmdioabgaaGreatDoor
namespace Sl

/-- how the words of the grammar's own and the signs are written, by kind -/
def txtL : List (List UInt8) := [[], [], [], [108, 101, 116], [114, 101, 99], [105, 110], [105, 102], [116, 104, 101, 110], [101, 108, 115, 101], [102, 117, 110], [110, 111, 116], [116, 114, 117, 101], [102, 97, 108, 115, 101], [114, 101, 97, 100], [112, 114, 105, 110, 116], [108, 101, 110], [97, 114, 114, 97, 121], [112, 117, 116], [46, 40], [60, 62], [60, 61], [62, 61], [45, 62], [40], [41], [44], [59], [61], [60], [62], [43], [45], [42], [47], [37]]
def txt (k : Nat) : ByteArray := ⟨(txtL.getD k []).toArray⟩
theorem txt_far (k : Nat) (h : 35 ≤ k) : txt k = ⟨#[]⟩ := by
  unfold txt
  have : txtL[k]? = none := List.getElem?_eq_none (by show txtL.length ≤ k; exact h)
  simp [this]
theorem txt_size (k : Nat) : (txt k).size ≤ 5 := by
  by_cases h : k < 35
  · have : ∀ k : Fin 35, (txt k.val).size ≤ 5 := by decide
    exact this ⟨k, h⟩
  · rw [txt_far k (by omega)]; decide
/-- the first k of a row for which p holds, beginning at a, n of them -/
def firstK (p : Nat → Bool) : Nat → Nat → Option Nat
  | _, 0 => none
  | a, n + 1 => if p a then some a else firstK p (a + 1) n
/-- the sign at i -/
def signK (s : ByteArray) (i : Nat) : Option Nat := firstK (fun k => stB s i (txt k)) 18 17
/-- the word of the grammar's own that t is -/
def kwK (t : ByteArray) : Option Nat := firstK (fun k => (txt k).toList == t.toList) 3 15
theorem firstK_range (p : Nat → Bool) : ∀ n a k, firstK p a n = some k → a ≤ k ∧ k < a + n ∧ p k = true := by
  intro n
  induction n with
  | zero => intro a k h; simp [firstK] at h
  | succ n ih =>
    intro a k h
    simp only [firstK] at h
    split at h
    · simp at h; subst h; exact ⟨Nat.le_refl _, by omega, by assumption⟩
    · have := ih _ _ h; exact ⟨by omega, by omega, this.2.2⟩
theorem dataget (s : ByteArray) (k : Nat) (h : k < s.size) : s.data.toList.drop k = s[k] :: s.data.toList.drop (k + 1) := by
  rw [List.drop_eq_getElem_cons (by simpa using h)]; rfl
/-- the number that digits say -/
def decF : Nat → List UInt8 → Option Nat
  | n, [] => some n
  | n, c :: r => if digB c then (if n * 10 + (c.toNat - 48) ≤ 4611686018427387903 then decF (n * 10 + (c.toNat - 48)) r else none) else none
def numV (t : ByteArray) : Option Nat := decF 0 t.data.toList
/-- where the letters from j on end -/
def runE (s : ByteArray) (j : Nat) : Nat := if h : j < s.size then (if letB s[j] then runE s (j + 1) else j) else j
termination_by s.size - j
theorem runE_end (s : ByteArray) (j : Nat) (h : ¬ j < s.size) : runE s j = j := by rw [runE, dif_neg h]
theorem runE_on (s : ByteArray) (j : Nat) (h : j < s.size) (hl : letB s[j] = true) : runE s j = runE s (j + 1) := by rw [runE, dif_pos h, if_pos hl]
theorem runE_off (s : ByteArray) (j : Nat) (h : j < s.size) (hl : letB s[j] = false) : runE s j = j := by rw [runE, dif_pos h, if_neg (by simp [hl])]
theorem runE_le (s : ByteArray) : ∀ n j, s.size ≤ n + j → j ≤ s.size → j ≤ runE s j ∧ runE s j ≤ s.size := by
  intro n
  induction n with
  | zero => intro j h hj; rw [runE_end s j (by omega)]; omega
  | succ n ih =>
    intro j h hj
    by_cases hlt : j < s.size
    · by_cases hl : letB s[j] = true
      · rw [runE_on s j hlt hl]; have := ih (j + 1) (by omega) (by omega); omega
      · rw [runE_off s j hlt (by simpa using hl)]; omega
    · rw [runE_end s j hlt]; omega
end Sl
end Go.Proofs.YtdmedmmdioabgaaGreatDoor
/- PLAIN: the row of a text's words. -/
set_option linter.unusedVariables false
set_option linter.unusedSimpArgs false
namespace Go.Proofs.YtdmedmmdioabgaaGreatDoor
namespace Sl

def nmK (t : ByteArray) : Nat := (kwK t).getD 2
/-- what stands at a place: an error; or kind, number, text, the place behind -/
inductive WR where
  | err (e : Nat)
  | ok (k n : Nat) (t : ByteArray) (z : Nat)
def wordR (s : ByteArray) (p : Nat) : WR :=
  if h : p < s.size then
    if stB s p opn then .err 2
    else if letB s[p] then
      (if digB s[p] then (match numV (s.extract p (runE s p)) with
        | some v => .ok 1 v (s.extract p (runE s p)) (runE s p)
        | none => .err 3)
      else .ok (nmK (s.extract p (runE s p))) 0 (s.extract p (runE s p)) (runE s p))
    else match signK s p with
      | some k => .ok k 0 (txt k) (p + (txt k).size)
      | none => .err 2
  else .err 2
structure Tok where
  k : Nat
  n : Nat
  p : Nat
  t : ByteArray
inductive LR where
  | bad (e p : Nat)
  | good (l : List Tok)
def LR.pre (acc : List Tok) : LR → LR
  | .bad e p => .bad e p
  | .good l => .good (acc ++ l)
theorem LR.pre_nil (r : LR) : r.pre [] = r := by cases r <;> rfl
theorem LR.pre_pre (a b : List Tok) (r : LR) : (r.pre b).pre a = r.pre (a ++ b) := by cases r <;> simp [LR.pre]
/-- the words from a place on at which a word begins, or the text ends -/
def lexF (s : ByteArray) : Nat → Nat → LR
  | 0, _ => .good []
  | f + 1, a => if a < s.size then (match wordR s a with
      | .err e => .bad e a
      | .ok k n t z => (lexF s f (skp s z)).pre [⟨k, n, a, t⟩]) else .good []

theorem skp_le (s : ByteArray) : ∀ n a, s.size ≤ n + a → a ≤ s.size → a ≤ skp s a ∧ skp s a ≤ s.size := by
  intro n
  induction n with
  | zero => intro a h ha; rw [skp_end s a (by omega)]; omega
  | succ n ih =>
    intro a h ha
    by_cases hl : a < s.size
    · by_cases hb : blkB s[a] = true
      · rw [skp_blk s a hl hb]; have := ih (a + 1) (by omega) (by omega); omega
      · have hb' : blkB s[a] = false := by simpa using hb
        by_cases hr : a < rEnd s a
        · rw [skp_rem s a hl hb' hr]
          have h1 := rEnd_le s a ha
          have := ih (rEnd s a) (by omega) (by omega); omega
        · rw [skp_stay s a hl hb' hr]; omega
    · rw [skp_end s a hl]; omega
theorem wordR_le {s : ByteArray} {p k n z : Nat} {t : ByteArray} (h : wordR s p = .ok k n t z) : p < z ∧ z ≤ s.size ∧ k < 35 := by
  unfold wordR at h
  split at h
  · rename_i hp
    split at h
    · simp at h
    · split at h
      · rename_i hl
        have h1 : p < runE s p ∧ runE s p ≤ s.size := by
          rw [runE_on s p hp hl]
          have := runE_le s s.size (p + 1) (by omega) (by omega)
          omega
        split at h
        · split at h
          · simp at h; obtain ⟨rfl, _, _, rfl⟩ := h; exact ⟨h1.1, h1.2, by omega⟩
          · simp at h
        · simp at h
          obtain ⟨rfl, _, _, rfl⟩ := h
          refine ⟨h1.1, h1.2, ?_⟩
          unfold nmK
          cases hk : kwK (s.extract p (runE s p)) with
          | none => simp
          | some k => have := firstK_range _ _ _ _ hk; simp; omega
      · split at h
        · rename_i k' hk
          simp at h
          obtain ⟨rfl, _, _, rfl⟩ := h
          have h2 := firstK_range _ _ _ _ hk
          have h3 := stB_size h2.2.2
          refine ⟨?_, h3, by omega⟩
          have : ∀ k : Fin 35, 18 ≤ k.val → 0 < (txt k.val).size := by decide
          have := this ⟨k', by omega⟩ h2.1
          simp at this
          omega
        · simp at h
  · simp at h
theorem wordR_err {s : ByteArray} {p e : Nat} (h : wordR s p = .err e) : e = 2 ∨ e = 3 := by
  unfold wordR at h
  split at h
  · split at h
    · simp at h; exact .inl h.symm
    · split at h
      · split at h
        · split at h
          · simp at h
          · simp at h; exact .inr h.symm
        · simp at h
      · split at h
        · simp at h
        · simp at h; exact .inl h.symm
  · simp at h; exact .inl h.symm
theorem lexF_more (s : ByteArray) : ∀ f g a, s.size < f + a → s.size < g + a → a ≤ s.size → lexF s f a = lexF s g a := by
  intro f
  induction f with
  | zero => intro g a h; intro _ h2; omega
  | succ f ih =>
    intro g a hf hg ha
    cases g with
    | zero => omega
    | succ g =>
      simp only [lexF]
      split
      · split
        · rfl
        · rename_i k n t z hw
          have h1 := wordR_le hw
          have h2 := skp_le s s.size z (by omega) (by omega)
          rw [ih g (skp s z) (by omega) (by omega) (by omega)]
      · rfl
def lex (s : ByteArray) (a : Nat) : LR := lexF s (s.size + 1) a
theorem lex_end (s : ByteArray) (a : Nat) (h : ¬ a < s.size) : lex s a = .good [] := by
  show lexF s (s.size + 1) a = _
  rw [lexF, if_neg h]
theorem lex_err {s : ByteArray} {a e : Nat} (h : a < s.size) (hw : wordR s a = .err e) : lex s a = .bad e a := by
  show lexF s (s.size + 1) a = _
  rw [lexF, if_pos h, hw]
theorem lex_ok {s : ByteArray} {a k n z : Nat} {t : ByteArray} (h : a < s.size) (hw : wordR s a = .ok k n t z) : lex s a = (lex s (skp s z)).pre [⟨k, n, a, t⟩] := by
  show lexF s (s.size + 1) a = _
  rw [lexF, if_pos h, hw]
  have h1 := wordR_le hw
  have h2 := skp_le s s.size z (by omega) (by omega)
  show (lexF s s.size (skp s z)).pre _ = (lexF s (s.size + 1) (skp s z)).pre _
  rw [lexF_more s s.size (s.size + 1) (skp s z) (by omega) (by omega) (by omega)]
end Sl
end Go.Proofs.YtdmedmmdioabgaaGreatDoor
/- WALKS: the small functions of both lexers. -/
set_option linter.unusedVariables false
set_option linter.unusedSimpArgs false
namespace Go.Proofs.YtdmedmmdioabgaaGreatDoor
namespace Sl
end Sl
open Go.RowKit Sl

theorem ret_bool {a b : Bool} (h : a = b) : Ending.returned (.bool a) = .returned (.bool b) := by rw [h]
theorem ret_int {k : IntKind} {a b : Int} (h : a = b) : Ending.returned (.int k a) = .returned (.int k b) := by rw [h]
theorem ret_str {a b : ByteArray} (h : a = b) : Ending.returned (.string a) = .returned (.string b) := by rw [h]

theorem isDigit_any (c : UInt8) (w : World) :
    Calls Tryz.prog 90 #[.int .u8 c.toNat] w fun e w' => e = .returned (.bool (digB c)) ∧ w' = w := by
  go_enter Tryz.func90, Tryz.ntmps90
  go_wp2
  all_goals
    go_ret
    refine ⟨ret_bool ?_, rfl⟩
    rw [Bool.eq_iff_iff]; simp [digB]; omega



theorem isBlank_any (c : UInt8) (w : World) :
    Calls Tryz.prog 85 #[.int .u8 c.toNat] w fun e w' => e = .returned (.bool (blkB c)) ∧ w' = w := by
  go_enter Tryz.func85, Tryz.ntmps85
  go_wp2
  all_goals
    go_ret
    refine ⟨ret_bool ?_, rfl⟩
    rw [Bool.eq_iff_iff]; simp [blkB]; omega


theorem isLetter_any (c : UInt8) (w : World) :
    Calls Tryz.prog 88 #[.int .u8 c.toNat] w fun e w' => e = .returned (.bool (letB c)) ∧ w' = w := by
  go_enter Tryz.func88, Tryz.ntmps88
  go_wp2_with (first | (go_at_call 90; refine (isDigit_any _ _).mono ?_; rintro e w' ⟨rfl, rfl⟩))
  all_goals
    go_ret
    refine ⟨ret_bool ?_, rfl⟩
    rw [Bool.eq_iff_iff]
    simp only [letB, smlB, digB] at *
    simp at *
    omega

theorem standsAt_any (s t : ByteArray) (i : Nat) (w : World) (hs : s.size ≤ maxLen) (hi : i + t.size ≤ maxLen) :
    Calls Tryz.prog 87 #[.string s, .int .i64 i, .string t] w fun e w' => e = .returned (.bool (stB s i t)) ∧ w' = w := by
  unfold maxLen at hs hi
  go_enter Tryz.func87, Tryz.ntmps87
  go_wp2
  all_goals
    go_ret
    refine ⟨ret_bool ?_, rfl⟩
  · have h : i + t.size ≤ s.size := by omega
    simp [stB, h]
  · have h : ¬ i + t.size ≤ s.size := by omega
    simp [stB, h]

end Go.Proofs.YtdmedmmdioabgaaGreatDoor
