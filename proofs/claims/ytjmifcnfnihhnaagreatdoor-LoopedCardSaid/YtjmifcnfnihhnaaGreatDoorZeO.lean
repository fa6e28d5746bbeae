import Derived.Test.YtjmifcnfnihhnaaGreatDoorZeH
import Derived.Test.YtjmifcnfnihhnaaGreatDoorProg
import Derived.WalkKit
import Derived.WalkSpells
import Derived.WalkLawsBesides
import Derived.Handy
import Derived.Deep.RegionWith
import Derived.Lib.Hide
import Derived.Test.YtjmifcnfnihhnaaGreatDoorZeF
import Derived.Deep.LoopGhost
import Derived.Laws.Strings
import Derived.Lib.Strings
import Derived.Laws.IdiomStrings
import Derived.Test.YtjmifcnfnihhnaaGreatDoorZeM
/- PLAIN: the words of a text that is written word by word. -/
set_option linter.unusedVariables false
set_option linter.unusedSimpArgs false
namespace Go.Proofs.YtjmifcnfnihhnaaGreatDoor
namespace Sm
open Ev Go.RowKit Sl
inductive Lm where
  | bl
  | wd (w : List UInt8)
  | num (i : Nat)
  | lit (w : List UInt8) (n : Nat)
  | sg (k : Nat)
inductive Hd where
  | no
  | ch (c : UInt8)
  | dig
def sgB (k : Nat) : List UInt8 := txtL.getD k []
def Lm.bytes (dg : Nat → List UInt8) : Lm → List UInt8
  | .bl => [32]
  | .wd w => w
  | .num i => dg i
  | .lit w _ => w
  | .sg k => sgB k
def flat (dg : Nat → List UInt8) (l : List Lm) : List UInt8 := l.flatMap (Lm.bytes dg)
def hc : List Lm → Hd
  | [] => .no
  | .bl :: _ => .ch 32
  | .wd w :: _ => .ch (w.headD 0)
  | .num _ :: _ => .dig
  | .lit w _ :: _ => .ch (w.headD 0)
  | .sg k :: _ => .ch ((sgB k).headD 0)
def notLet : Hd → Bool
  | .no => true
  | .ch c => !letB c
  | .dig => false
/-- does t stand where b and what is behind stand? -/
def pre2 : List UInt8 → List UInt8 → Hd → Bool
  | [], _, _ => true
  | t :: ts, b :: bs, h => t == b && pre2 ts bs h
  | t :: ts, [], .ch c => t == c
  | t :: ts, [], .dig => digB t
  | t :: ts, [], .no => false
def signOk (k : Nat) (h : Hd) : Bool := Nat.ble 18 k && (Nat.blt k 35 && (((List.range (k - 18)).all fun i => !pre2 (sgB (18 + i)) (sgB k) h) && (!pre2 [40, 42] (sgB k) h && (!letB ((sgB k).headD 0) && (!blkB ((sgB k).headD 0) && !(sgB k).isEmpty)))))
def goodL : List Lm → Bool
  | [] => true
  | .bl :: r => goodL r
  | .wd w :: r => !w.isEmpty && (w.all letB && (!digB (w.headD 0) && (notLet (hc r) && goodL r)))
  | .num i :: r => notLet (hc r) && goodL r
  | .lit w n :: r => !w.isEmpty && (w.all digB && (decF 0 w == some n && (notLet (hc r) && goodL r)))
  | .sg k :: r => signOk k (hc r) && goodL r
def tokOf (dg : Nat → List UInt8) (nv : Nat → Nat) (p : Nat) : Lm → List Tok
  | .bl => []
  | .wd w => [⟨nmK ⟨w.toArray⟩, 0, p, ⟨w.toArray⟩⟩]
  | .num i => [⟨1, nv i, p, ⟨(dg i).toArray⟩⟩]
  | .lit w n => [⟨1, n, p, ⟨w.toArray⟩⟩]
  | .sg k => [⟨k, 0, p, Sl.txt k⟩]
def toks (dg : Nat → List UInt8) (nv : Nat → Nat) : List Lm → Nat → List Tok
  | [], _ => []
  | x :: r, p => tokOf dg nv p x ++ toks dg nv r (p + (x.bytes dg).length)
/-- digits, and the number that they say -/
structure Dg (dg : Nat → List UInt8) (nv : Nat → Nat) : Prop where
  ne : ∀ i, dg i ≠ []
  dig : ∀ i, (dg i).all digB = true
  val : ∀ i, decF 0 (dg i) = some (nv i)
/-- from p on the text is L -/
structure At (s : ByteArray) (p : Nat) (L : List UInt8) : Prop where
  eq : s.data.toList.drop p = L
  le : p ≤ s.size
theorem At.cons {s : ByteArray} {p : Nat} {c : UInt8} {L : List UInt8} (h : At s p (c :: L)) : ∃ hp : p < s.size, s[p] = c ∧ At s (p + 1) L := by
  have hp : p < s.size := by
    rcases Nat.lt_or_ge p s.size with q | q
    · exact q
    · have := h.eq
      rw [List.drop_eq_nil_of_le (by simpa using q)] at this
      cases this
  have := dataget s p hp
  rw [h.eq] at this
  injection this with h1 h2
  exact ⟨hp, h1.symm, h2.symm, hp⟩
theorem At.nil {s : ByteArray} {p : Nat} (h : At s p []) : ¬ p < s.size := by
  have := List.drop_eq_nil_iff.1 h.eq
  simp at this
  omega
theorem At.app {s : ByteArray} {p : Nat} : ∀ {w L : List UInt8}, At s p (w ++ L) → At s (p + w.length) L
  | [], L, h => h
  | c :: w, L, h => by
    obtain ⟨_, _, h'⟩ := At.cons (L := w ++ L) h
    have := At.app h'
    rw [List.length_cons, show p + (w.length + 1) = p + 1 + w.length by omega]
    exact this
theorem At.ext {s : ByteArray} {p : Nat} {w L : List UInt8} (h : At s p (w ++ L)) : s.extract p (p + w.length) = ⟨w.toArray⟩ := by
  apply ByteArray.ext
  apply Array.toList_inj.1
  have h1 : (s.extract p (p + w.length)).data.toList = (s.data.toList.drop p).take w.length := by
    rw [ByteArray.data_extract, Array.toList_extract, List.extract_eq_take_drop, Nat.add_sub_cancel_left]
  rw [h1, h.eq, List.take_left]
theorem At.run {s : ByteArray} {p : Nat} : ∀ {w L : List UInt8}, At s p (w ++ L) → w.all letB = true → (∀ c r, L = c :: r → letB c = false) → runE s p = p + w.length
  | [], L, h, _, hL => by
    cases L with
    | nil => exact runE_end s p (At.nil h)
    | cons c r =>
      obtain ⟨hp, e, _⟩ := At.cons h
      rw [runE_off s p hp (by rw [e]; exact hL c r rfl)]
      rfl
  | c :: w, L, h, hw, hL => by
    obtain ⟨hp, e, h'⟩ := At.cons (L := w ++ L) h
    rw [List.all_cons, Bool.and_eq_true] at hw
    rw [runE_on s p hp (by rw [e]; exact hw.1), At.run h' hw.2 hL, List.length_cons]
    omega
theorem At.st {s : ByteArray} {p : Nat} {L : List UInt8} (h : At s p L) (t : List UInt8) : stB s p ⟨t.toArray⟩ = t.isPrefixOf L := by
  have hl : L.length = s.size - p := by rw [← h.eq, List.length_drop]; rfl
  have hts : (⟨t.toArray⟩ : ByteArray).size = t.length := by simp [ByteArray.size]
  have hle := h.le
  unfold stB
  rw [hts, Bool.eq_iff_iff, Bool.and_eq_true, decide_eq_true_iff, beq_iff_eq, List.isPrefixOf_iff_prefix]
  rw [ByteArray.toList_eq, ByteArray.toList_eq, ByteArray.data_extract, Array.toList_extract, List.extract_eq_take_drop, Nat.add_sub_cancel_left, h.eq]
  constructor
  · rintro ⟨h1, h2⟩
    have h2 : L.take t.length = t := by simpa using h2
    exact ⟨L.drop t.length, by have := List.take_append_drop t.length L; rw [h2] at this; exact this⟩
  · rintro ⟨r, hr⟩
    refine ⟨by rw [← hr, List.length_append] at hl; omega, ?_⟩
    rw [← hr]
    simp
/-- the head of what is behind -/
def HdOk (h : Hd) (L : List UInt8) : Prop := match h with
  | .no => L = []
  | .ch c => ∃ r, L = c :: r
  | .dig => ∃ c r, L = c :: r ∧ digB c = true
theorem hc_ok {dg : Nat → List UInt8} {nv : Nat → Nat} (hd : Dg dg nv) : ∀ {l : List Lm}, goodL l = true → HdOk (hc l) (flat dg l)
  | [], _ => rfl
  | .bl :: r, _ => ⟨_, rfl⟩
  | .wd w :: r, h => by
    cases w with
    | nil => cases h
    | cons c w => exact ⟨_, rfl⟩
  | .num i :: r, h => by
    have h1 := hd.ne i
    have h2 := hd.dig i
    show ∃ c r', dg i ++ flat dg r = c :: r' ∧ _
    cases hi : dg i with
    | nil => exact absurd hi h1
    | cons c w =>
      rw [hi, List.all_cons, Bool.and_eq_true] at h2
      exact ⟨c, _, rfl, h2.1⟩
  | .lit w n :: r, h => by
    cases w with
    | nil => cases h
    | cons c w => exact ⟨_, rfl⟩
  | .sg k :: r, h => by
    have h : (signOk k (hc r) && goodL r) = true := h
    rw [Bool.and_eq_true] at h
    have h := h.1
    unfold signOk at h
    simp only [Bool.and_eq_true] at h
    have h := h.2.2.2.2.2.2
    show ∃ r', sgB k ++ flat dg r = (sgB k).headD 0 :: r'
    cases hk : sgB k with
    | nil => rw [hk] at h; cases h
    | cons c w => exact ⟨_, rfl⟩
theorem notLet_ok {h : Hd} {L : List UInt8} (hk : HdOk h L) (hn : notLet h = true) : ∀ c r, L = c :: r → letB c = false := by
  intro c r e
  cases h with
  | no => rw [show L = [] from hk] at e; cases e
  | ch d =>
    obtain ⟨r', e'⟩ := hk
    rw [e'] at e
    cases e
    simpa [notLet] using hn
  | dig => cases hn
theorem pre2_ok {h : Hd} {L : List UInt8} (hk : HdOk h L) : ∀ {t b : List UInt8}, t.length ≤ b.length + 1 → pre2 t b h = false → t.isPrefixOf (b ++ L) = false
  | [], _, _, hp => by cases hp
  | t :: ts, b :: bs, hl, hp => by
    have hp : (t == b && pre2 ts bs h) = false := hp
    show (t == b && ts.isPrefixOf (bs ++ L)) = false
    cases hq : t == b with
    | false => rfl
    | true =>
      rw [hq] at hp
      exact pre2_ok hk (by simpa using hl) hp
  | t :: ts, [], hl, hp => by
    show (t :: ts).isPrefixOf L = false
    cases h with
    | no => rw [show L = [] from hk]; rfl
    | ch c =>
      obtain ⟨r, rfl⟩ := hk
      have hp : (t == c) = false := hp
      show (t == c && _) = false
      rw [hp]; rfl
    | dig =>
      obtain ⟨c, r, rfl, hc⟩ := hk
      have hp : digB t = false := hp
      show (t == c && _) = false
      have : (t == c) = false := by
        rw [beq_eq_false_iff_ne]
        intro e
        rw [e, hc] at hp
        cases hp
      rw [this]; rfl
theorem dig_let {c : UInt8} (h : digB c = true) : letB c = true := by unfold letB; rw [h]; rfl
theorem let_blk {c : UInt8} (h : letB c = true) : blkB c = false := by
  unfold letB digB smlB at h
  unfold blkB
  simp at h ⊢
  omega
theorem let_opn {s : ByteArray} {p : Nat} {c : UInt8} {L : List UInt8} (h : At s p (c :: L)) (hc : c ≠ 40) : stB s p opn = false := by
  rw [show (opn : ByteArray) = ⟨[40, 42].toArray⟩ from rfl, h.st]
  show ((40 : UInt8) == c && _) = false
  rw [show ((40 : UInt8) == c) = false by rw [beq_eq_false_iff_ne]; exact fun e => hc e.symm]
  rfl
theorem let_40 {c : UInt8} (h : letB c = true) : c ≠ 40 := by rintro rfl; revert h; decide
theorem skp_at {s : ByteArray} {p : Nat} {c : UInt8} {L : List UInt8} (h : At s p (c :: L)) (hb : blkB c = false) (ho : stB s p opn = false) : skp s p = p := by
  obtain ⟨hp, e, _⟩ := At.cons h
  refine skp_stay s p hp (by rw [e]; exact hb) ?_
  unfold rEnd
  rw [if_neg (by rw [ho]; decide)]
  omega
theorem sgB_len {k : Nat} (h1 : 18 ≤ k) (h2 : k < 35) : 1 ≤ (sgB k).length ∧ (sgB k).length ≤ 2 := by
  have : ∀ k : Fin 35, 18 ≤ k.val → 1 ≤ (sgB k.val).length ∧ (sgB k.val).length ≤ 2 := by decide
  exact this ⟨k, h2⟩ h1
theorem firstK_at (f : Nat → Bool) : ∀ (n a k : Nat), a ≤ k → k < a + n → (∀ i, a ≤ i → i < k → f i = false) → f k = true → firstK f a n = some k
  | 0, a, k, h1, h2, _, _ => by omega
  | n + 1, a, k, h1, h2, h3, h4 => by
    unfold firstK
    by_cases e : a = k
    · rw [e, h4]; rfl
    · rw [h3 a (Nat.le_refl _) (by omega)]
      show firstK f (a + 1) n = some k
      exact firstK_at f n (a + 1) k (by omega) (by omega) (fun i hi hik => h3 i (by omega) hik) h4
theorem lex_at {dg : Nat → List UInt8} {nv : Nat → Nat} (hd : Dg dg nv) (s : ByteArray) : ∀ (l : List Lm) (p : Nat), goodL l = true → At s p (flat dg l) → lex s (skp s p) = .good (toks dg nv l p)
  | [], p, _, h => by
    rw [skp_end s p (At.nil h), lex_end s p (At.nil h)]
    rfl
  | .bl :: r, p, hg, h => by
    obtain ⟨hp, e, h'⟩ := At.cons (c := 32) (L := flat dg r) h
    rw [skp_blk s p hp (by rw [e]; decide)]
    exact lex_at hd s r (p + 1) hg h'
  | .wd w :: r, p, hg, h => by
    have hg : (!w.isEmpty && (w.all letB && (!digB (w.headD 0) && (notLet (hc r) && goodL r)))) = true := hg
    simp only [Bool.and_eq_true] at hg
    obtain ⟨g1, g2, g3, g4, g5⟩ := hg
    have h : At s p (w ++ flat dg r) := h
    have hrun := h.run g2 (notLet_ok (hc_ok hd g5) g4)
    have hext := h.ext
    have hrest := h.app
    cases w with
    | nil => cases g1
    | cons c w =>
      obtain ⟨hp, e, _⟩ := At.cons (L := w ++ flat dg r) h
      rw [List.all_cons, Bool.and_eq_true] at g2
      have ho := let_opn (L := w ++ flat dg r) h (let_40 g2.1)
      have g3 : digB c = false := by simpa using g3
      rw [skp_at (L := w ++ flat dg r) h (let_blk g2.1) ho]
      have hw : wordR s p = .ok (nmK ⟨(c :: w).toArray⟩) 0 ⟨(c :: w).toArray⟩ (p + (c :: w).length) := by
        unfold wordR
        rw [dif_pos hp, if_neg (by rw [ho]; decide), e, if_pos g2.1, if_neg (by rw [g3]; decide), hrun, hext]
      rw [lex_ok hp hw, lex_at hd s r _ g5 hrest]
      rfl
  | .num i :: r, p, hg, h => by
    have hg : (notLet (hc r) && goodL r) = true := hg
    rw [Bool.and_eq_true] at hg
    obtain ⟨g4, g5⟩ := hg
    have h : At s p (dg i ++ flat dg r) := h
    have hdi := hd.dig i
    have hdl : (dg i).all letB = true := by
      rw [List.all_eq_true] at hdi ⊢
      exact fun c hc => dig_let (hdi c hc)
    have hrun := h.run hdl (notLet_ok (hc_ok hd g5) g4)
    have hext := h.ext
    have hrest := h.app
    cases hi : dg i with
    | nil => exact absurd hi (hd.ne i)
    | cons c w =>
      rw [hi] at h hdi hdl
      obtain ⟨hp, e, _⟩ := At.cons (L := w ++ flat dg r) h
      rw [List.all_cons, Bool.and_eq_true] at hdi
      have ho := let_opn (L := w ++ flat dg r) h (let_40 (dig_let hdi.1))
      rw [skp_at (L := w ++ flat dg r) h (let_blk (dig_let hdi.1)) ho]
      have hw : wordR s p = .ok 1 (nv i) ⟨(dg i).toArray⟩ (p + (dg i).length) := by
        unfold wordR
        rw [dif_pos hp, if_neg (by rw [ho]; decide), e, if_pos (dig_let hdi.1), if_pos hdi.1, hrun, hext]
        have : numV ⟨(dg i).toArray⟩ = some (nv i) := by
          unfold numV
          rw [show (⟨(dg i).toArray⟩ : ByteArray).data.toList = dg i by simp]
          exact hd.val i
        rw [this]
      rw [lex_ok hp hw, lex_at hd s r _ g5 hrest]
      rfl
  | .lit w n :: r, p, hg, h => by
    have hg : (!w.isEmpty && (w.all digB && (decF 0 w == some n && (notLet (hc r) && goodL r)))) = true := hg
    simp only [Bool.and_eq_true] at hg
    obtain ⟨g1, hdi, g3, g4, g5⟩ := hg
    have h : At s p (w ++ flat dg r) := h
    have hdl : w.all letB = true := by
      rw [List.all_eq_true] at hdi ⊢
      exact fun c hc => dig_let (hdi c hc)
    have hrun := h.run hdl (notLet_ok (hc_ok hd g5) g4)
    have hext := h.ext
    have hrest := h.app
    cases w with
    | nil => cases g1
    | cons c w =>
      obtain ⟨hp, e, _⟩ := At.cons (L := w ++ flat dg r) h
      have hdi' := hdi
      rw [List.all_cons, Bool.and_eq_true] at hdi
      have ho := let_opn (L := w ++ flat dg r) h (let_40 (dig_let hdi.1))
      rw [skp_at (L := w ++ flat dg r) h (let_blk (dig_let hdi.1)) ho]
      have hw : wordR s p = .ok 1 n ⟨(c :: w).toArray⟩ (p + (c :: w).length) := by
        unfold wordR
        rw [dif_pos hp, if_neg (by rw [ho]; decide), e, if_pos (dig_let hdi.1), if_pos hdi.1, hrun, hext]
        have : numV ⟨(c :: w).toArray⟩ = some n := by
          unfold numV
          rw [show (⟨(c :: w).toArray⟩ : ByteArray).data.toList = c :: w by simp]
          exact eq_of_beq g3
        rw [this]
      rw [lex_ok hp hw, lex_at hd s r _ g5 hrest]
      rfl
  | .sg k :: r, p, hg, h => by
    have hg : (signOk k (hc r) && goodL r) = true := hg
    rw [Bool.and_eq_true] at hg
    obtain ⟨g1, g5⟩ := hg
    unfold signOk at g1
    simp only [Bool.and_eq_true] at g1
    obtain ⟨k1, k2, k3, k4, k5, k6, k7⟩ := g1
    have k1 : 18 ≤ k := ble_t k1
    have k2 : k < 35 := blt_t k2
    have hH := hc_ok hd g5
    have h : At s p (sgB k ++ flat dg r) := h
    have hrest := h.app
    have hsl := sgB_len k1 k2
    have ho : stB s p opn = false := by
      rw [show (opn : ByteArray) = ⟨[40, 42].toArray⟩ from rfl, h.st]
      exact pre2_ok hH (by simp; omega) (by simpa using k4)
    have hst : ∀ i, stB s p (Sl.txt i) = (sgB i).isPrefixOf (sgB k ++ flat dg r) := fun i => h.st (sgB i)
    have hsk : signK s p = some k := by
      refine firstK_at _ 17 18 k k1 (by omega) (fun i h1 h2 => ?_) ?_
      · rw [hst]
        have := List.all_eq_true.1 k3 (i - 18) (List.mem_range.2 (by omega))
        rw [show 18 + (i - 18) = i by omega] at this
        have hil := sgB_len h1 (by omega)
        exact pre2_ok hH (by omega) (by simpa using this)
      · rw [hst, List.isPrefixOf_iff_prefix]
        exact List.prefix_append _ _
    have hsz : (Sl.txt k).size = (sgB k).length := by simp [Sl.txt, ByteArray.size, sgB]
    cases hk : sgB k with
    | nil => rw [hk] at k7; cases k7
    | cons c w =>
      rw [hk] at h k5 k6
      obtain ⟨hp, e, _⟩ := At.cons (L := w ++ flat dg r) h
      have k5 : letB c = false := by simpa using k5
      have k6 : blkB c = false := by simpa using k6
      rw [skp_at (L := w ++ flat dg r) h k6 ho]
      have hw : wordR s p = .ok k 0 (Sl.txt k) (p + (Sl.txt k).size) := by
        unfold wordR
        rw [dif_pos hp, if_neg (by rw [ho]; decide), e, if_neg (by rw [k5]; decide), hsk]
      rw [hsz] at hw
      rw [lex_ok hp hw, lex_at hd s r _ g5 hrest]
      rfl
end Sm
end Go.Proofs.YtjmifcnfnihhnaaGreatDoor
/- WALKS: the law's own helpers: wrap, pick, truth, works. -/
set_option linter.unusedVariables false
set_option linter.unusedSimpArgs false
namespace Go.Proofs.YtjmifcnfnihhnaaGreatDoor
namespace Sn
open Go.RowKit
abbrev I6 (n : Int) : Prop := -9223372036854775808 ≤ n ∧ n ≤ 9223372036854775807
/-- a number of 63 bits -/
abbrev I5 (n : Int) : Prop := -4611686018427387904 ≤ n ∧ n ≤ 4611686018427387903
def wv (n : Int) : Int := wrap64 (n * 2) / 2
theorem wrap_w (n : Int) (w : World) : Calls Tryz.prog 5 #[.int .i64 n] w fun e w' => e = .returned (.int .i64 (wv n)) ∧ w' = w := by
  go_enter Tryz.func5, Tryz.ntmps5
  go_wp2
  go_ret
  exact ⟨rfl, rfl⟩
def pk (c : Int) (n : Nat) : Nat := ((if c < 0 then -(c + 1) else c) % (n : Int)).toNat
theorem pk_lt (c : Int) {n : Nat} (hn : 0 < n) : pk c n < n := by
  unfold pk
  have h1 := Int.emod_nonneg (if c < 0 then -(c + 1) else c) (show (n : Int) ≠ 0 by omega)
  have h2 := Int.emod_lt_of_pos (if c < 0 then -(c + 1) else c) (show (0 : Int) < n by omega)
  omega
theorem pick_w {c : Int} (hc : I6 c) {n : Nat} (h0 : 0 < n) (hn : n < 1000) (w : World) : Calls Tryz.prog 6 #[.int .i64 c, .int .i64 (n : Nat)] w fun e w' => e = .returned (.int .i64 (pk c n : Nat)) ∧ w' = w := by
  have hm : ∀ z : Int, 0 ≤ z → z.tmod n = (((z % (n : Int)).toNat : Nat) : Int) := fun z hz => by
    have h1 := Int.emod_nonneg z (show (n : Int) ≠ 0 by omega)
    rw [Int.tmod_eq_emod_of_nonneg hz]; omega
  have g0 : ((n : Int) == 0) = false := by simp; omega
  have g1 : (n : Int) ≠ 0 := by omega
  by_cases h : c < 0
  · have h2 := hm (-(c + 1)) (by omega)
    have e : pk c n = ((-(c + 1)) % (n : Int)).toNat := by unfold pk; rw [if_pos h]
    rw [e]
    obtain ⟨k, hk⟩ : ∃ k : Nat, ((-(c + 1)) % (n : Int)).toNat = k := ⟨_, rfl⟩
    rw [hk] at h2 ⊢
    clear e hm hk
    go_enter Tryz.func6, Tryz.ntmps6
    go_wp2
    go_ret
    exact ⟨rfl, rfl⟩
  · have h2 := hm c (by omega)
    have e : pk c n = (c % (n : Int)).toNat := by unfold pk; rw [if_neg h]
    rw [e]
    obtain ⟨k, hk⟩ : ∃ k : Nat, (c % (n : Int)).toNat = k := ⟨_, rfl⟩
    rw [hk] at h2 ⊢
    clear e hm hk
    go_enter Tryz.func6, Tryz.ntmps6
    go_wp2
    go_ret
    exact ⟨rfl, rfl⟩
end Sn
end Go.Proofs.YtjmifcnfnihhnaaGreatDoor
/- WALKS: digits, said. -/
set_option linter.unusedVariables false
set_option linter.unusedSimpArgs false
namespace Go.Proofs.YtjmifcnfnihhnaaGreatDoor
namespace Sn
open Go.RowKit
def decL (n : Nat) : List UInt8 := if h : n < 10 then [UInt8.ofNat (48 + n)] else decL (n / 10) ++ [UInt8.ofNat (48 + n % 10)]
termination_by n
theorem decL_lo {n : Nat} (h : n < 10) : decL n = [UInt8.ofNat (48 + n)] := by rw [decL, dif_pos h]
theorem decL_hi {n : Nat} (h : ¬ n < 10) : decL n = decL (n / 10) ++ [UInt8.ofNat (48 + n % 10)] := by rw [decL, dif_neg h]
theorem decL_len : ∀ (k n : Nat), n < 10 ^ k → 1 ≤ k → 1 ≤ (decL n).length ∧ (decL n).length ≤ k
  | 0, n, _, h => by omega
  | k + 1, n, h, _ => by
    by_cases h10 : n < 10
    · rw [decL_lo h10]; simp
    · rw [decL_hi h10, List.length_append]
      have hk : 1 ≤ k := by
        rcases Nat.eq_zero_or_pos k with e | e
        · subst e; simp at h; omega
        · exact e
      have := decL_len k (n / 10) (by rw [Nat.div_lt_iff_lt_mul (by omega)]; rw [Nat.pow_succ] at h; exact h) hk
      simp
      omega
section
variable {P : Program} {w : World}
theorem wpList_strOf {ops : Array Oper} {rest : List Oper} {o : Oper} {a : Act} {Q : Exit → Act → World → Prop} (hgd : o.guard = none) (s : Operand) (src dst e : TypeId)
    (ho : o.op = .convert src dst s) (l : List UInt8) (ad : Addr) (n cap : Nat) (hx : a.eval s = .slice (some ad) n cap) (hn : l.length = n) (hs : P.underlying src = some (.slice e)) (he : P.underlying e = some (.int .u8)) (hd : P.underlying dst = some .string)
    (hc : ∀ j (hj : j < l.length), w.cell? (ad.add j) = some (.int .u8 (l[j].toNat : Int)))
    (h : wpList P ops Q rest (a.put o.dst (.string ⟨l.toArray⟩)) w) : wpList P ops Q (o :: rest) a w := by
  refine wpList_plain hgd fun K hK => ?_
  subst hn
  have hr := run_convert_bytes_back (P := P) w src dst e ad cap l hs he hd hc
  unfold Oper.wp execOp
  simp only [ho, hx, hr, Sem.run_bind, Sem.run_pure, Result.andThen_ok]
  exact hK _ _ h
end
theorem tB1 : Tryz.prog.underlying 34 = some (.slice 5) := by kernel_rfl
theorem tB2 : Tryz.prog.underlying 5 = some (.int .u8) := by kernel_rfl
theorem tB3 : Tryz.prog.underlying 9 = some .string := by kernel_rfl
theorem ret_str {a b : ByteArray} (h : a = b) : Ending.returned (Value.string a) = .returned (.string b) := by rw [h]
theorem app_l (a b : List UInt8) : (⟨a.toArray⟩ : ByteArray) ++ ⟨b.toArray⟩ = ⟨(a ++ b).toArray⟩ := by
  apply ByteArray.ext
  simp [ByteArray.data_append]
theorem cell_dig {r : Nat} {c : UInt8} (hc : c.toNat = 48 + r) (W : World) : ∀ j (hj : j < [c].length), (W.alloc (.cells #[.int .u8 (48 + (r : Int))] 5)).cell? ((⟨W.heap.size, 0, none⟩ : Addr).add j) = some (.int .u8 ([c][j].toNat : Int)) := by
  intro j hj
  have hj0 : j = 0 := by simp at hj; exact hj
  subst hj0
  rw [cells_new W [.int .u8 (48 + (r : Int))] 5 W.heap.size rfl 0 _ rfl]
  congr 2
  show (48 + (r : Int)) = ((c.toNat : Nat) : Int)
  rw [hc]
  omega
set_option maxRecDepth 100000 in
theorem digits_w {n : Nat} (hn : n < 4611686018427387904) (w : World) : Calls Tryz.prog 7 #[.int .i64 (n : Nat)] w fun e w' => e = .returned (.string ⟨(decL n).toArray⟩) ∧ Below w.heap.size w w' := by
  have hlen := (decL_len 19 n (by omega) (by omega)).2
  have HL := Lib.hid hlen
  clear hlen
  have HB := Lib.hid (Below.refl w.heap.size w)
  go_enter Tryz.func7, Tryz.ntmps7
  go_wp2_with fail
  go_loopg [0, 3] n (fun gh u s (wr : World) => ∃ (m : Nat) (l : List UInt8), m ≤ n ∧ gh = m ∧ u = .int .i64 (m : Nat) ∧ s = .string ⟨l.toArray⟩ ∧ decL n = decL m ++ l ∧ Below w.heap.size w wr)
  case atStart => exact ⟨n, [], Nat.le_refl _, rfl, rfl, rfl, by simp, HB.out⟩
  case round =>
    obtain ⟨m, l, hm, hgk, rfl, rfl, hl, hb⟩ := hrel
    have HD := Lib.hid hl
    have HW := Lib.hid hb
    clear hl hb
    have t1 : (m : Int).tmod 10 = ((m % 10 : Nat) : Int) := by rw [Int.tmod_eq_emod_of_nonneg (by omega)]; omega
    have t2 : (m : Int).tdiv 10 = ((m / 10 : Nat) : Int) := by rw [Int.tdiv_eq_ediv_of_nonneg (by omega)]; omega
    obtain ⟨r, hr⟩ : ∃ r, m % 10 = r := ⟨_, rfl⟩
    obtain ⟨d, hd⟩ : ∃ d, m / 10 = d := ⟨_, rfl⟩
    have hr10 : r < 10 := by omega
    have hdm : d ≤ m := by omega
    obtain ⟨c, hc⟩ : ∃ c : UInt8, UInt8.ofNat (48 + r) = c := ⟨_, rfl⟩
    have hcn : c.toNat = 48 + r := by rw [← hc, UInt8.toNat_ofNat', Nat.mod_eq_of_lt (by show 48 + r < 256; omega)]
    have HCC := Lib.hid hc
    clear hc
    rw [hr] at t1
    rw [hd] at t2
    have HR := Lib.hid hr
    have HQ := Lib.hid hd
    clear hr hd
    have HC := Lib.hid (cell_dig hcn)
    clear hcn
    have hll : l.length ≤ 19 := by
      have h1 := HL.out
      rw [HD.out, List.length_append] at h1
      omega
    by_cases hd0 : d = 0
    · subst hd0
      go_wp2_with (first | (show wpList _ _ _ (Oper.mk (some 11) (Op.convert 34 9 (.tmp 10)) _ _ _ _ :: _) _ _; refine wpList_strOf rfl (.tmp 10) 34 9 5 rfl [c] ⟨wr.heap.size, 0, none⟩ 1 1 rfl rfl tB1 tB2 tB3 (HC.out wr) ?_))
      go_ret
      have hm10 : m < 10 := by have := HQ.out; omega
      refine ⟨ret_str ?_, HW.out.alloc HW.out.size _⟩
      rw [HD.out, decL_lo hm10, show m = r by have := HR.out; omega, HCC.out]
      exact app_l [c] l
    · have g0 : ((d : Int) == 0) = false := by simpa using hd0
      go_wp2_with (first | (show wpList _ _ _ (Oper.mk (some 11) (Op.convert 34 9 (.tmp 10)) _ _ _ _ :: _) _ _; refine wpList_strOf rfl (.tmp 10) 34 9 5 rfl [c] ⟨wr.heap.size, 0, none⟩ 1 1 rfl rfl tB1 tB2 tB3 (HC.out wr) ?_))
      go_roundg d
      case measure => have := HQ.out; omega
      case rel =>
        have h1 := HQ.out
        refine ⟨d, c :: l, by omega, rfl, rfl, congrArg Value.string (app_l [c] l), ?_, HW.out.alloc HW.out.size _⟩
        rw [HD.out, decL_hi (n := m) (by omega), h1, HR.out, HCC.out, List.append_assoc]
        rfl
def saidS (a : Int) : List UInt8 := if a < 0 then [40, 45] ++ decL (-(a + 1)).toNat ++ [45, 49, 41] else decL a.toNat
set_option maxRecDepth 100000 in
theorem said_w {a : Int} (ha : I5 a) (w : World) : Calls Tryz.prog 8 #[.int .i64 a] w fun e w' => e = .returned (.string ⟨(saidS a).toArray⟩) ∧ Below w.heap.size w w' := by
  by_cases h : a < 0
  · obtain ⟨n, hn⟩ : ∃ n : Nat, -(a + 1) = (n : Int) := ⟨(-(a + 1)).toNat, by omega⟩
    have hlen := (decL_len 19 n (by omega) (by omega)).2
    have CD := Lib.hid (digits_w (n := n) (by omega))
    have e : saidS a = [40, 45] ++ decL n ++ [45, 49, 41] := by unfold saidS; rw [if_pos h, hn]; rfl
    have HE := Lib.hid e
    clear e
    go_enter Tryz.func8, Tryz.ntmps8
    go_wp2_with (first | (go_at_call 7; refine (CD.out _).mono ?_; rintro e w1 ⟨rfl, hb⟩))
    go_ret
    refine ⟨ret_str ?_, hb⟩
    rw [HE.out]
    exact (congrArg (· ++ (⟨[45, 49, 41].toArray⟩ : ByteArray)) (app_l [40, 45] (decL n))).trans (app_l _ _)
  · obtain ⟨n, rfl⟩ : ∃ n : Nat, a = (n : Int) := ⟨a.toNat, by omega⟩
    have CD := Lib.hid (digits_w (n := n) (by omega))
    have e : saidS (n : Int) = decL n := by unfold saidS; rw [if_neg h]; rfl
    have HE := Lib.hid e
    clear e
    go_enter Tryz.func8, Tryz.ntmps8
    go_wp2_with (first | (go_at_call 7; refine (CD.out _).mono ?_; rintro e w1 ⟨rfl, hb⟩))
    go_ret
    exact ⟨ret_str (by rw [HE.out]), hb⟩
end Sn
end Go.Proofs.YtjmifcnfnihhnaaGreatDoor
/- WALKS: begins, sameInts of two rows that hold the same. -/
set_option linter.unusedVariables false
set_option linter.unusedSimpArgs false
namespace Go.Proofs.YtjmifcnfnihhnaaGreatDoor
namespace Sn
open Go.RowKit
theorem cell_lt {W : World} {g j : Nat} {v : Value} (h : W.cell? ⟨g, j, none⟩ = some v) : g < W.heap.size := by
  rcases Nat.lt_or_ge g W.heap.size with q | q
  · exact q
  · unfold World.cell? at h
    rw [Array.getElem?_eq_none (by exact q)] at h
    cases h
set_option maxRecDepth 100000 in
theorem begins_w {W : World} {g k c d : Nat} {l : List Int} (hl : l.length ≤ 1000) (h1 : ∀ (j : Nat) (z : Int), l[j]? = some z → W.cell? ⟨g, j, none⟩ = some (.int .i64 z)) (h2 : ∀ (j : Nat) (z : Int), l[j]? = some z → W.cell? ⟨k, j, none⟩ = some (.int .i64 z)) :
    Calls Tryz.prog 19 #[.slice (some ⟨g, 0, none⟩) l.length c, .slice (some ⟨k, 0, none⟩) l.length d] W fun e w' => e = .returned (.bool true) ∧ Below W.heap.size W w' := by
  have H1 := Lib.hid h1
  have H2 := Lib.hid h2
  clear h1 h2
  obtain ⟨n, hn⟩ : ∃ n, l.length = n := ⟨_, rfl⟩
  rw [hn] at hl ⊢
  have HN := Lib.hid hn
  clear hn
  go_enter Tryz.func19, Tryz.ntmps19
  go_wp2_with fail
  go_loopg [5] n (fun gh u (wr : World) => ∃ j : Nat, j ≤ n ∧ gh = n - j ∧ u = .int .i64 (j : Nat) ∧ Below W.heap.size W wr)
  case atStart => exact ⟨0, Nat.zero_le _, rfl, rfl, Below.refl _ _⟩
  case round =>
    obtain ⟨j, hj, hgk, rfl, hb⟩ := hrel
    have HB := Lib.hid hb
    clear hb
    rcases Nat.lt_or_ge j n with hjd | hjd
    · obtain ⟨z, hz⟩ : ∃ z, l[j]? = some z := ⟨_, List.getElem?_eq_getElem (by rw [HN.out]; exact hjd)⟩
      have d1 := (HB.out.cell (p := ⟨g, j, none⟩) (cell_lt (H1.out j z hz))).trans (H1.out j z hz)
      have d2 := (HB.out.cell (p := ⟨k, j, none⟩) (cell_lt (H2.out j z hz))).trans (H2.out j z hz)
      clear hz
      have g1 : (j : Int) < (n : Int) := by omega
      go_wp2_with fail
      go_region
      go_wp2_with fail
      go_roundg (n - (j + 1))
      case measure => omega
      case rel => exact ⟨j + 1, by omega, rfl, by go_num, HB.out.drew⟩
    · have g1 : ¬ (j : Int) < (n : Int) := by omega
      go_wp2_with fail
      go_ret
      exact ⟨rfl, HB.out⟩
theorem same_w {W : World} {g k c d : Nat} {l : List Int} (hl : l.length ≤ 1000) (h1 : ∀ (j : Nat) (z : Int), l[j]? = some z → W.cell? ⟨g, j, none⟩ = some (.int .i64 z)) (h2 : ∀ (j : Nat) (z : Int), l[j]? = some z → W.cell? ⟨k, j, none⟩ = some (.int .i64 z)) :
    Calls Tryz.prog 13 #[.slice (some ⟨g, 0, none⟩) l.length c, .slice (some ⟨k, 0, none⟩) l.length d] W fun e w' => e = .returned (.bool true) ∧ Below W.heap.size W w' := by
  have CB := Lib.hid (begins_w (c := c) (d := d) hl h1 h2)
  clear h1 h2
  obtain ⟨n, hn⟩ : ∃ n, l.length = n := ⟨_, rfl⟩
  rw [hn] at CB hl ⊢
  clear hn
  go_enter Tryz.func13, Tryz.ntmps13
  go_wp2_with (go_at_call 19; refine CB.out.mono ?_; rintro e w1 ⟨rfl, hb⟩)
  go_ret
  exact ⟨rfl, hb⟩
end Sn
end Go.Proofs.YtjmifcnfnihhnaaGreatDoor
/- LOOPED: a text that is told word by word: all that is told of it is so. -/
set_option linter.unusedVariables false
set_option linter.unusedSimpArgs false
namespace Go.Proofs.YtjmifcnfnihhnaaGreatDoor
namespace Sm
open Ev Go.RowKit Sl
/-! digits -/
theorem dig_nat {r : Nat} (h : r < 10) : digB (UInt8.ofNat (48 + r)) = true ∧ (UInt8.ofNat (48 + r)).toNat = 48 + r := by
  have h1 : (UInt8.ofNat (48 + r)).toNat = 48 + r := by rw [UInt8.toNat_ofNat', Nat.mod_eq_of_lt (by show 48 + r < 256; omega)]
  refine ⟨?_, h1⟩
  unfold digB
  rw [h1]
  simp
  omega
theorem decF_app : ∀ (l m : List UInt8) (n k : Nat), decF n l = some k → decF n (l ++ m) = decF k m
  | [], m, n, k, h => by cases h; rfl
  | c :: l, m, n, k, h => by
    unfold decF at h
    rw [List.cons_append]
    show (if digB c then (if n * 10 + (c.toNat - 48) ≤ 4611686018427387903 then decF (n * 10 + (c.toNat - 48)) (l ++ m) else none) else none) = _
    split at h
    · rename_i h1
      split at h
      · rename_i h2
        rw [if_pos h1, if_pos h2]
        exact decF_app l m _ k h
      · cases h
    · cases h
theorem decL_ok : ∀ (n : Nat), n < 4611686018427387904 → Sn.decL n ≠ [] ∧ (Sn.decL n).all digB = true ∧ decF 0 (Sn.decL n) = some n := by
  intro n
  induction n using Nat.strongRecOn with
  | ind n ih =>
    intro hn
    by_cases h : n < 10
    · rw [Sn.decL_lo h]
      obtain ⟨h1, h2⟩ := dig_nat h
      refine ⟨by simp, by rw [List.all_cons, h1]; rfl, ?_⟩
      show (if digB _ then (if 0 * 10 + ((UInt8.ofNat (48 + n)).toNat - 48) ≤ 4611686018427387903 then decF (0 * 10 + ((UInt8.ofNat (48 + n)).toNat - 48)) [] else none) else none) = _
      rw [if_pos h1, h2, if_pos (by omega)]
      show some _ = some n
      congr 1
      omega
    · rw [Sn.decL_hi h]
      obtain ⟨i1, i2, i3⟩ := ih (n / 10) (by omega) (by omega)
      obtain ⟨h1, h2⟩ := dig_nat (r := n % 10) (by omega)
      refine ⟨by simp, by rw [List.all_append, i2, List.all_cons, h1]; rfl, ?_⟩
      rw [decF_app _ _ _ _ i3]
      show (if digB _ then (if n / 10 * 10 + ((UInt8.ofNat (48 + n % 10)).toNat - 48) ≤ 4611686018427387903 then decF (n / 10 * 10 + ((UInt8.ofNat (48 + n % 10)).toNat - 48)) [] else none) else none) = _
      rw [if_pos h1, h2, if_pos (by omega)]
      show some _ = some n
      congr 1
      omega
/-- a word's kind -/
def kk (w : List UInt8) : Nat := (firstK (fun k => sgB k == w) 3 15).getD 2
theorem nmK_eq (w : List UInt8) : nmK ⟨w.toArray⟩ = kk w := by
  unfold nmK kwK kk
  congr 2
  funext k
  rw [ByteArray.toList_eq, ByteArray.toList_eq]
  simp [Sl.txt, sgB]
def w3Of : Lm → List W3
  | .bl => []
  | .wd w => [(kk w, z0, bif Nat.beq (kk w) 2 then w.map (·.toNat) else [])]
  | .num i => [(1, .y i, [])]
  | .lit _ n => [(1, .i .i64 (.ofNat n), [])]
  | .sg k => [(k, z0, [])]
def w3s (l : List Lm) : List W3 := l.flatMap w3Of
def saidL (neg : Bool) (i : Nat) : List Lm := bif neg then [.sg 23, .sg 31, .num i, .sg 31, .lit [49] 1, .sg 24] else [.num i]

end Sm
namespace Lo
open Ev Go.RowKit Sm Sl
def NN (a : Int) : Int := if a < 0 then -(a + 1) else a
theorem NN_in {a : Int} (h : -4611686018427387904 ≤ a ∧ a < 4611686018427387904) : 0 ≤ NN a ∧ NN a < 4611686018427387904 := by
  unfold NN
  split <;> omega
def numOk (l : List Lm) : Bool := l.all fun x => match x with
  | .num i => Nat.ble 4 i && Nat.blt i 8
  | _ => true
def nN (nv : Nat → Int) (i : Nat) : Nat := if 4 ≤ i ∧ i < 8 then (nv i).toNat else 0
def dgN (nv : Nat → Int) (i : Nat) : List UInt8 := Sn.decL (nN nv i)
/-- what is written is small enough -/
def Nv (nv : Nat → Int) : Prop := ∀ i, 4 ≤ i → i < 8 → 0 ≤ nv i ∧ nv i < 4611686018427387904
theorem dg_ok {nv : Nat → Int} (h : Nv nv) : Dg (dgN nv) (nN nv) := by
  have h : ∀ i, nN nv i < 4611686018427387904 := fun i => by
    unfold nN
    split
    · rename_i q
      have := h i q.1 q.2
      omega
    · omega
  exact ⟨fun i => (decL_ok _ (h i)).1, fun i => (decL_ok _ (h i)).2.1, fun i => (decL_ok _ (h i)).2.2⟩
/-- the places -/
def plOf (ts : List Tok) (n : Nat) (i : Nat) : Int := match ts[i]? with
  | some t => (t.p : Int)
  | none => (n : Int)
theorem toks_p (dg : Nat → List UInt8) (nv : Nat → Nat) : ∀ (l : List Lm) (q : Nat), ∀ t ∈ toks dg nv l q, t.p ≤ q + (flat dg l).length
  | [], q, t, h => by cases h
  | x :: l, q, t, h => by
    have h : t ∈ tokOf dg nv q x ++ toks dg nv l (q + (x.bytes dg).length) := h
    have e : flat dg (x :: l) = x.bytes dg ++ flat dg l := List.flatMap_cons ..
    rw [e, List.length_append]
    rcases List.mem_append.1 h with h | h
    · have : t.p = q := by
        cases x with
        | bl => cases h
        | wd w => rw [List.mem_singleton.1 h]
        | num i => rw [List.mem_singleton.1 h]
        | lit w n => rw [List.mem_singleton.1 h]
        | sg k => rw [List.mem_singleton.1 h]
      omega
    · have := toks_p dg nv l _ t h
      omega
theorem pl_in {dg : Nat → List UInt8} {nv : Nat → Nat} {l : List Lm} (h : (flat dg l).length ≤ 400) (k : Nat) : 0 ≤ plOf (toks dg nv l 0) (flat dg l).length k ∧ plOf (toks dg nv l 0) (flat dg l).length k ≤ 400 := by
  unfold plOf
  split
  · rename_i t ht
    have := toks_p dg nv l 0 t (List.mem_of_getElem? ht)
    omega
  · omega
def TW (p : Pm) (t : Tok) (x : W3) : Prop := t.k = x.1 ∧ (∀ ρ, VS p.env ρ x.2.1 (.int .i64 t.n)) ∧ (nmOf t.k t.t).data.toList.map (·.toNat) = x.2.2
theorem toks_w {p : Pm} {dg : Nat → List UInt8} {nv : Nat → Nat} (hn : ∀ i, 4 ≤ i → i < 8 → p.nv i = (nv i : Int)) : ∀ {l : List Lm} {q : Nat}, goodL l = true → numOk l = true → All2 (TW p) (toks dg nv l q) (w3s l)
  | [], _, _, _ => .nil
  | x :: l, q, hg, hk => by
    have hk : (_ && numOk l) = true := hk
    rw [Bool.and_eq_true] at hk
    show All2 (TW p) (tokOf dg nv q x ++ toks dg nv l _) (w3Of x ++ w3s l)
    have hg' : goodL l = true := by
      cases x with
      | bl => exact hg
      | wd w => have hg : (_ && (_ && (_ && (_ && goodL l)))) = true := hg; simp only [Bool.and_eq_true] at hg; exact hg.2.2.2.2
      | num i => have hg : (_ && goodL l) = true := hg; simp only [Bool.and_eq_true] at hg; exact hg.2
      | lit w n => have hg : (_ && (_ && (_ && (_ && goodL l)))) = true := hg; simp only [Bool.and_eq_true] at hg; exact hg.2.2.2.2
      | sg k => have hg : (_ && goodL l) = true := hg; simp only [Bool.and_eq_true] at hg; exact hg.2
    refine All2.app ?_ (toks_w hn hg' hk.2)
    cases x with
    | bl => exact .nil
    | wd w =>
      refine .cons ⟨nmK_eq w, fun ρ => rfl, ?_⟩ .nil
      show (nmOf (nmK ⟨w.toArray⟩) ⟨w.toArray⟩).data.toList.map (·.toNat) = bif Nat.beq (kk w) 2 then w.map (·.toNat) else []
      rw [nmK_eq]
      unfold nmOf
      by_cases e : kk w = 2
      · rw [if_pos e, e]; simp
      · rw [if_neg e, show Nat.beq (kk w) 2 = false by rw [nbeq]; exact decide_eq_false e]; rfl
    | num i =>
      refine .cons ⟨rfl, fun ρ => ?_, rfl⟩ .nil
      have hk := hk.1
      have hk : (Nat.ble 4 i && Nat.blt i 8) = true := hk
      rw [Bool.and_eq_true] at hk
      have k1 := ble_t hk.1
      have k2 := blt_t hk.2
      show Value.int .i64 (nv i : Int) = p.env i
      rw [env_int p (by omega), v_nv p (by omega), hn i k1 k2]
    | lit w n => exact .cons ⟨rfl, fun ρ => rfl, rfl⟩ .nil
    | sg k =>
      refine .cons ⟨rfl, fun ρ => rfl, ?_⟩ .nil
      have hg : (signOk k (hc l) && goodL l) = true := hg
      rw [Bool.and_eq_true] at hg
      have hg := hg.1
      unfold signOk at hg
      simp only [Bool.and_eq_true] at hg
      have k1 : 18 ≤ k := ble_t hg.1
      show (nmOf k (Sl.txt k)).data.toList.map (·.toNat) = []
      unfold nmOf
      rw [if_neg (by omega)]
      rfl
theorem tk_of {p : Pm} {dg : Nat → List UInt8} {nv : Nat → Nat} (hd : Dg dg nv) (hn : ∀ i, 4 ≤ i → i < 8 → p.nv i = (nv i : Int)) {l : List Lm} (hg : goodL l = true) (hk : numOk l = true) (hl : (w3s l).length < 800) (hs : p.src = ⟨(flat dg l).toArray⟩) (hz : (flat dg l).length ≤ 400) (hp : p.pl = plOf (toks dg nv l 0) (flat dg l).length) : Tk p (w3s l) (toks dg nv l 0) := by
  have hat : At p.src 0 (flat dg l) := ⟨by rw [hs]; simp, Nat.zero_le _⟩
  have hw := toks_w (p := p) (dg := dg) hn (q := 0) hg hk
  have hsz : p.src.size = (flat dg l).length := by rw [hs]; simp [ByteArray.size]
  refine ⟨by rw [hsz]; exact hz, lex_at hd _ l 0 hg hat, hw.len, fun i t x ht hx => ?_, ?_, hl⟩
  · obtain ⟨x', e1, e2⟩ := hw.at ht
    rw [hx] at e1
    cases e1
    refine ⟨e2.1, e2.2.1, e2.2.2, ?_, ?_⟩
    · rw [hp]; unfold plOf; rw [ht]
    · have := (List.getElem?_eq_some_iff.1 hx).1; omega
  · rw [hp, hsz]
    unfold plOf
    rw [List.getElem?_eq_none (by rw [hw.len]; exact Nat.le_refl _)]
/-! the code that is told is one that can be written -/
def iv (x : Sc) : Int := match x with
  | .i _ n => n
  | _ => 0
def inR (lo hi : Int) (x : Sc) : Bool := isI x && (decide (lo ≤ iv x) && decide (iv x ≤ hi))
theorem isI_N {x : Sc} (h : isI x = true) (p : Pm) : scN p x = iv x := by
  unfold isI at h
  split at h
  · rfl
  · cases h
theorem inR_ok {lo hi : Int} {x : Sc} (h : inR lo hi x = true) (p : Pm) : scN p x = iv x ∧ lo ≤ scN p x ∧ scN p x ≤ hi := by
  unfold inR at h
  simp only [Bool.and_eq_true, decide_eq_true_eq] at h
  rw [isI_N h.1]
  exact ⟨rfl, h.2⟩
def fCk (cs : CS) (k : Nat) : Bool := inR 0 ((cs.ll.length / 5 : Nat) - 1 : Int) (cs.fl.getD (k * 4 + 0) z0) && (inR 0 4 (cs.fl.getD (k * 4 + 1) z0) && (inR 0 1 (cs.fl.getD (k * 4 + 2) z0) && inR 0 1024 (cs.fl.getD (k * 4 + 3) z0)))
def lOk (hi : Int) (x : Sc) : Bool := match x with
  | .y j => decide (65535 ≤ hi) && ((Nat.ble 100 j && Nat.blt j 3000) || (Nat.ble 4000 j && Nat.blt j 4900))
  | x => inR 0 hi x
def lCk (cs : CS) (k : Nat) : Bool := lOk 255 (cs.ll.getD (k * 5 + 0) z0) && (lOk 255 (cs.ll.getD (k * 5 + 1) z0) && (lOk 65535 (cs.ll.getD (k * 5 + 2) z0) && (lOk 65535 (cs.ll.getD (k * 5 + 3) z0) && lOk 65535 (cs.ll.getD (k * 5 + 4) z0))))
def askOk (x : Sc) : Bool := match x with
  | .y j => Nat.ble 4 j && Nat.blt j 8
  | x => inR (-4611686018427387904) 4611686018427387903 x
def upK (cs : CS) (k : Nat) : Bool := decide (iv (cs.fl.getD (k * 4 + 0) z0) < iv (cs.fl.getD ((k + 1) * 4 + 0) z0))
def csOk (cs : CS) : Bool := Nat.beq cs.fl.length (cs.fl.length / 4 * 4) && (Nat.beq cs.ll.length (cs.ll.length / 5 * 5) && (Nat.ble cs.ni 900 && (cs.fl.all goodS && (cs.cl.all goodS && (cs.ll.all goodS && (Nat.blt 0 (cs.fl.length / 4) && (Nat.blt (cs.fl.length / 4) 1000 && (Nat.blt cs.cl.length 1000 && (Nat.blt (cs.ll.length / 5) 1000 && ((List.range (cs.fl.length / 4)).all (fCk cs) && ((List.range (cs.fl.length / 4 - 1)).all (upK cs) && (inR 0 0 (cs.fl.getD 0 z0) && (inR 0 0 (cs.fl.getD 1 z0) && (inR 0 0 (cs.fl.getD 2 z0) && (List.range (cs.ll.length / 5)).all (lCk cs)))))))))))))))
theorem dd_len' (pn : Nat → Int) : ∀ i, (ddP pn i).length ≤ i
  | 0 => Nat.le_refl _
  | i + 1 => by
    have := dd_len' pn i
    unfold ddP
    split
    · omega
    · rw [List.length_append]; simp; omega
theorem dd_mem (pn : Nat → Int) : ∀ i z, z ∈ ddP pn i → ∃ k, k < i ∧ z = pn k
  | 0, z, h => by cases h
  | i + 1, z, h => by
    unfold ddP at h
    split at h
    · obtain ⟨k, h1, h2⟩ := dd_mem pn i z h
      exact ⟨k, by omega, h2⟩
    · rcases List.mem_append.1 h with h | h
      · obtain ⟨k, h1, h2⟩ := dd_mem pn i z h
        exact ⟨k, by omega, h2⟩
      · exact ⟨i, by omega, List.mem_singleton.1 h⟩
theorem lOk_ok {hi : Int} {x : Sc} (h : lOk hi x = true) {p : Pm} (hp : ∀ k, 0 ≤ p.pl k ∧ p.pl k ≤ 400) : 0 ≤ scN p x ∧ scN p x ≤ hi := by
  cases x with
  | y j =>
    have h : (decide (65535 ≤ hi) && ((Nat.ble 100 j && Nat.blt j 3000) || (Nat.ble 4000 j && Nat.blt j 4900))) = true := h
    simp only [Bool.and_eq_true, Bool.or_eq_true, decide_eq_true_eq] at h
    obtain ⟨h0, ⟨h1, h2⟩ | ⟨h1, h2⟩⟩ := h
    · have h1 := ble_t h1
      have h2 := blt_t h2
      obtain ⟨k, rfl⟩ : ∃ k, j = 100 + k := ⟨j - 100, by omega⟩
      have e : scN p (.y (100 + k)) = p.pl k := v_pl p (by omega)
      have := hp k
      rw [e]
      omega
    · have h1 := ble_t h1
      have h2 := blt_t h2
      obtain ⟨k, rfl⟩ : ∃ k, j = 4000 + k := ⟨j - 4000, by omega⟩
      have e : scN p (.y (4000 + k)) = (((ddP p.pn (k + 1)).idxOf (p.pn k) : Nat) : Int) := v_pos p (by omega)
      have h3 : (ddP p.pn (k + 1)).idxOf (p.pn k) ≤ (ddP p.pn (k + 1)).length := List.idxOf_le_length
      have h4 := dd_len' p.pn (k + 1)
      rw [e]
      omega
  | _ => exact (inR_ok h p).2
theorem cs_ok {p : Pm} {cs : CS} (h : csOk cs = true) (hp : ∀ k, 0 ≤ p.pl k ∧ p.pl k ≤ 400) (hn : ∀ k, -4611686018427387904 ≤ p.pn k ∧ p.pn k ≤ 4611686018427387903) (hc : ∀ x ∈ cs.cl, -4611686018427387904 ≤ scN p x ∧ scN p x ≤ 4611686018427387903) (hcod : p.cod = (csD p cs).bs) : CsOk p cs := by
  unfold csOk at h
  simp only [Bool.and_eq_true] at h
  obtain ⟨c1, c2, c3, c4, c5, c6, c7, c8, c9, c10, c11, c12, c13, c14, c15, c16⟩ := h
  have c1 := Nat.eq_of_beq_eq_true c1
  have c2 := Nat.eq_of_beq_eq_true c2
  have c3 := ble_t c3
  have c7 := blt_t c7
  have c8 := blt_t c8
  have c9 := blt_t c9
  have c10 := blt_t c10
  have hF : ∀ k, k < cs.fl.length / 4 → fCk cs k = true := fun k hk => List.all_eq_true.1 c11 k (List.mem_range.2 hk)
  have hU : ∀ k, k + 1 < cs.fl.length / 4 → upK cs k = true := fun k hk => List.all_eq_true.1 c12 k (List.mem_range.2 (by omega))
  have hL : ∀ k, k < cs.ll.length / 5 → lCk cs k = true := fun k hk => List.all_eq_true.1 c16 k (List.mem_range.2 hk)
  have hnC : (csD p cs).nC ≤ 1000 := by
    cases e : cs.ni with
    | zero => rw [(csD_0 e).1]; omega
    | succ n => rw [(csD_p e).1]; have := dd_len' p.pn (n + 1); omega
  refine ⟨c1, c2, c3, c4, c5, c6, ⟨c7, by show cs.fl.length / 4 < 65536; omega, by omega, by show cs.ll.length / 5 < 65536; omega, ?_, ?_, ?_, ?_, ?_, ?_, ?_, ?_, ?_, ?_, ?_, ?_, ?_⟩, hcod⟩
  · show 8 + 6 * (cs.fl.length / 4) + 8 * (csD p cs).nC + 8 * (cs.ll.length / 5) ≤ 600000
    omega
  · intro k hk
    have h := hF k hk
    unfold fCk at h
    simp only [Bool.and_eq_true] at h
    have h := (inR_ok h.1 p).2
    show 0 ≤ scN p (cs.fl.getD (k * 4 + 0) z0) ∧ scN p (cs.fl.getD (k * 4 + 0) z0) < ((cs.ll.length / 5 : Nat) : Int)
    omega
  · intro k hk
    have h := hF k hk
    unfold fCk at h
    simp only [Bool.and_eq_true] at h
    exact (inR_ok h.2.1 p).2
  · intro k hk
    have h := hF k hk
    unfold fCk at h
    simp only [Bool.and_eq_true] at h
    exact (inR_ok h.2.2.1 p).2
  · intro k hk
    have h := hF k hk
    unfold fCk at h
    simp only [Bool.and_eq_true] at h
    exact (inR_ok h.2.2.2 p).2
  · have h1 := (inR_ok c13 p).2
    have h2 := (inR_ok c14 p).2
    have h3 := (inR_ok c15 p).2
    show scN p (cs.fl.getD (0 * 4 + 0) z0) = 0 ∧ scN p (cs.fl.getD (0 * 4 + 1) z0) = 0 ∧ scN p (cs.fl.getD (0 * 4 + 2) z0) = 0
    rw [show 0 * 4 + 0 = 0 from rfl, show 0 * 4 + 1 = 1 from rfl, show 0 * 4 + 2 = 2 from rfl]
    omega
  · intro k hk
    have hk : k + 1 < cs.fl.length / 4 := hk
    have h1 := hF k (by omega)
    have h2 := hF (k + 1) hk
    have h3 := hU k hk
    unfold fCk at h1 h2
    unfold upK at h3
    simp only [Bool.and_eq_true, decide_eq_true_eq] at h1 h2 h3
    have h1 := (inR_ok h1.1 p).1
    have h2 := (inR_ok h2.1 p).1
    show scN p (cs.fl.getD (k * 4 + 0) z0) < scN p (cs.fl.getD ((k + 1) * 4 + 0) z0)
    rw [h1, h2]
    exact h3
  · intro k hk
    cases e : cs.ni with
    | zero =>
      rw [(csD_0 e).1] at hk
      rw [(csD_0 e).2, List.getD_eq_getElem?_getD, List.getElem?_eq_getElem hk]
      exact hc _ (List.getElem_mem hk)
    | succ n =>
      rw [(csD_p e).1] at hk
      rw [(csD_p e).2, List.getD_eq_getElem?_getD, List.getElem?_eq_getElem hk]
      obtain ⟨j, _, hj⟩ := dd_mem p.pn (n + 1) _ (List.getElem_mem hk)
      show _ ≤ (ddP p.pn (n + 1))[k] ∧ (ddP p.pn (n + 1))[k] ≤ _
      rw [hj]
      exact hn j
  · intro k hk
    have h := hL k hk
    unfold lCk at h
    simp only [Bool.and_eq_true] at h
    have h := lOk_ok h.1 hp
    show 0 ≤ scN p (cs.ll.getD (k * 5 + 0) z0) ∧ scN p (cs.ll.getD (k * 5 + 0) z0) < 256
    omega
  · intro k hk
    have h := hL k hk
    unfold lCk at h
    simp only [Bool.and_eq_true] at h
    have h := lOk_ok h.2.1 hp
    show 0 ≤ scN p (cs.ll.getD (k * 5 + 1) z0) ∧ scN p (cs.ll.getD (k * 5 + 1) z0) < 256
    omega
  · intro k hk
    have h := hL k hk
    unfold lCk at h
    simp only [Bool.and_eq_true] at h
    have h := lOk_ok h.2.2.1 hp
    show 0 ≤ scN p (cs.ll.getD (k * 5 + 2) z0) ∧ scN p (cs.ll.getD (k * 5 + 2) z0) < 65536
    omega
  · intro k hk
    have h := hL k hk
    unfold lCk at h
    simp only [Bool.and_eq_true] at h
    have h := lOk_ok h.2.2.2.1 hp
    show 0 ≤ scN p (cs.ll.getD (k * 5 + 3) z0) ∧ scN p (cs.ll.getD (k * 5 + 3) z0) < 65536
    omega
  · intro k hk
    have h := hL k hk
    unfold lCk at h
    simp only [Bool.and_eq_true] at h
    have h := lOk_ok h.2.2.2.2 hp
    show 0 ≤ scN p (cs.ll.getD (k * 5 + 4) z0) ∧ scN p (cs.ll.getD (k * 5 + 4) z0) < 65536
    omega
/-! a text's parameters -/
def bas (nv : Nat → Int) (x : Sc) : Int := match x with
  | .y j => nv j
  | .i _ n => n
  | _ => 0
def mk0 (c : Value) (nv : Nat → Int) (lx : List Lm) (t : Tx) : Pm := ⟨c, ⟨(flat (dgN nv) lx).toArray⟩, .empty, nv, plOf (toks (dgN nv) (nN nv) lx 0) (flat (dgN nv) lx).length, fun i => bas nv (t.l.getD i z0), t.rw.ds⟩
def mkP (c : Value) (nv : Nat → Int) (lx : List Lm) (t : Tx) : Pm := { mk0 c nv lx t with cod := (csD (mk0 c nv lx t) t.cs).bs }
theorem N_eq {p q : Pm} (h1 : p.nv = q.nv) (h2 : p.pl = q.pl) (h3 : p.pn = q.pn) (h4 : p.ds = q.ds) (x : Sc) : scN p x = scN q x := by
  have hl : p.lo = q.lo := by unfold Pm.lo; rw [h1, h2, h3]
  cases x with
  | y j => show p.v j = q.v j; unfold Pm.v Pm.dv; rw [hl, h4]
  | _ => rfl
theorem csD_eq {p q : Pm} (h1 : p.nv = q.nv) (h2 : p.pl = q.pl) (h3 : p.pn = q.pn) (h4 : p.ds = q.ds) (cs : CS) : csD p cs = csD q cs := by
  have h := N_eq h1 h2 h3 h4
  unfold csD
  rw [h3]
  simp only [h]
def conc (k m : Nat) (x : Sc) : Sc := match x with
  | .y j => bif Nat.beq j k then nI m else .y j
  | x => x
def concs (l : List Sc) : List (Nat × Nat) → List Sc
  | [] => l
  | km :: r => concs (l.map (conc km.1 km.2)) r
theorem pq_conc {p : Pm} {l : List Sc} (h : PqOk p l) {k m : Nat} (hk : k < 100) (hv : p.nv k = (m : Int)) : PqOk p (l.map (conc k m)) := by
  have key : ∀ x, goodS x = true → goodS (conc k m x) = true ∧ scN p (conc k m x) = scN p x := fun x hx => by
    cases x with
    | y j =>
      show goodS (bif Nat.beq j k then nI m else .y j) = true ∧ scN p (bif Nat.beq j k then nI m else .y j) = p.v j
      cases e : Nat.beq j k with
      | true =>
        have e := Nat.eq_of_beq_eq_true e
        subst e
        refine ⟨rfl, ?_⟩
        rw [v_nv p hk, hv]
        rfl
      | false => exact ⟨hx, rfl⟩
    | _ => exact ⟨hx, rfl⟩
  refine ⟨by rw [List.length_map]; exact h.few, ?_, fun i x hx => ?_⟩
  · rw [List.all_map, List.all_eq_true]
    exact fun x hx => (key x (List.all_eq_true.1 h.good x hx)).1
  · rw [List.getElem?_map] at hx
    cases hy : l[i]? with
    | none => rw [hy] at hx; cases hx
    | some y =>
      rw [hy] at hx
      cases hx
      rw [(key y (List.all_eq_true.1 h.good y (List.mem_of_getElem? hy))).2]
      exact h.eq i y hy
theorem pq_concs {p : Pm} : ∀ {cv : List (Nat × Nat)} {l : List Sc}, PqOk p l → (∀ km ∈ cv, km.1 < 100 ∧ p.nv km.1 = (km.2 : Int)) → PqOk p (concs l cv)
  | [], l, h, _ => h
  | km :: r, l, h, hc => pq_concs (cv := r) (l := l.map (conc km.1 km.2)) (pq_conc h (hc km (List.mem_cons_self ..)).1 (hc km (List.mem_cons_self ..)).2) fun x hx => hc x (List.mem_cons_of_mem _ hx)
noncomputable def spOk (lx : List Lm) (t : Tx) : Bool := goodL lx && (numOk lx && (Nat.blt (w3s lx).length 800 && (Nat.blt t.l.length 900 && (t.l.all askOk && (goodD t.rw.ds 0 && (csOk t.cs && t.rw.cs.all fun c => goodS c.2.1 && goodS c.2.2.1))))))
/-- all that is told of a text is so -/
theorem tx_ok {nv : Nat → Int} (hv : Nv nv) {lx : List Lm} {t : Tx} {cv : List (Nat × Nat)} (hs : spOk lx t = true) (hw : t.w3 = w3s lx) (hl2 : t.l2 = concs t.l cv) (hcv : ∀ km ∈ cv, km.1 < 100 ∧ nv km.1 = (km.2 : Int)) (hz : (flat (dgN nv) lx).length ≤ 400) (c : Value) (hcs : ∀ k x y b, (k, x, y, b) ∈ t.rw.cs → cmpI k (scN (mkP c nv lx t) x) (scN (mkP c nv lx t) y) = b) (hcl : ∀ x ∈ t.cs.cl, -4611686018427387904 ≤ scN (mkP c nv lx t) x ∧ scN (mkP c nv lx t) x ≤ 4611686018427387903) : ∀ c', TxOk ((mkP c nv lx t).at c') t (toks (dgN nv) (nN nv) lx 0) := by
  intro c'
  unfold spOk at hs
  simp only [Bool.and_eq_true] at hs
  obtain ⟨s1, s2, s3, s4, s5, s6, s7, s8⟩ := hs
  have s3 := blt_t s3
  have s4 := blt_t s4
  have hb : ∀ i, -4611686018427387904 ≤ bas nv (t.l.getD i z0) ∧ bas nv (t.l.getD i z0) ≤ 4611686018427387903 := by
    intro i
    by_cases hi : i < t.l.length
    · rw [List.getD_eq_getElem?_getD, List.getElem?_eq_getElem hi]
      show _ ≤ bas nv t.l[i] ∧ bas nv t.l[i] ≤ _
      have h := List.all_eq_true.1 s5 _ (List.getElem_mem hi)
      cases hx : t.l[i] with
      | y j =>
        rw [hx] at h
        have h : (Nat.ble 4 j && Nat.blt j 8) = true := h
        rw [Bool.and_eq_true] at h
        have := hv j (ble_t h.1) (blt_t h.2)
        show _ ≤ nv j ∧ nv j ≤ _
        omega
      | i k n => rw [hx] at h; exact (inR_ok (p := mkP c nv lx t) h).2
      | _ => rw [hx] at h; cases h
    · rw [List.getD_eq_getElem?_getD, List.getElem?_eq_none (by omega)]
      show _ ≤ (0 : Int) ∧ (0 : Int) ≤ _
      omega
  have hl : PqOk ((mkP c nv lx t).at c') t.l := by
    refine ⟨s4, ?_, fun i x hx => ?_⟩
    · rw [List.all_eq_true] at s5 ⊢
      intro x hx
      have h := s5 x hx
      cases x with
      | y j =>
        have h : (Nat.ble 4 j && Nat.blt j 8) = true := h
        rw [Bool.and_eq_true] at h
        have := ble_t h.1
        exact Nat.ble_eq_true_of_le (by omega)
      | i k n =>
        have h : (isI (.i k n) && _) = true := h
        rw [Bool.and_eq_true] at h
        have h := h.1
        cases k <;> first | rfl | cases h
      | _ => cases h
    · show bas nv (t.l.getD i z0) = _
      rw [List.getD_eq_getElem?_getD, hx]
      show bas nv x = scN _ x
      have h := List.all_eq_true.1 s5 x (List.mem_of_getElem? hx)
      cases x with
      | y j =>
        have h : (Nat.ble 4 j && Nat.blt j 8) = true := h
        rw [Bool.and_eq_true] at h
        have := blt_t h.2
        show nv j = Pm.v _ j
        rw [v_nv _ (by omega)]
        rfl
      | _ => rfl
  have hN : ∀ x, scN ((mkP c nv lx t).at c') x = scN (mkP c nv lx t) x := fun x => at_N _ _ x
  refine ⟨?_, hl, ?_, ⟨rfl, s6, fun k x y b h => ?_⟩, ?_⟩
  · rw [hw]
    refine tk_of (dg_ok hv) (fun i h1 h2 => ?_) s1 s2 s3 rfl hz rfl
    show nv i = _
    have := hv i h1 h2
    unfold nN
    rw [if_pos ⟨h1, h2⟩]
    omega
  · rw [hl2]
    exact pq_concs hl hcv
  · have hg := List.all_eq_true.1 s8 _ h
    have hg : (goodS x && goodS y) = true := hg
    rw [Bool.and_eq_true] at hg
    rw [hN, hN]
    exact ⟨hg.1, hg.2, hcs k x y b h⟩
  · refine cs_ok s7 (fun k => pl_in hz k) hb (fun x hx => ?_) ?_
    · rw [hN]; exact hcl x hx
    · show (csD (mk0 c nv lx t) t.cs).bs = (csD ((mkP c nv lx t).at c') t.cs).bs
      rw [csD_eq (p := mk0 c nv lx t) (q := (mkP c nv lx t).at c') rfl rfl rfl rfl]
end Lo
end Go.Proofs.YtjmifcnfnihhnaaGreatDoor
/- LOOPED: a text is compiled with what is known for many, and run with what is known for one. -/
set_option linter.unusedVariables false
set_option linter.unusedSimpArgs false
namespace Go.Proofs.YtjmifcnfnihhnaaGreatDoor
namespace Lo
open Ev Go.RowKit Sm Sl
def noD (x : Sc) : Bool := match x with
  | .y j => Nat.blt j 5000
  | _ => true
theorem N_lo {p q : Pm} (h1 : p.nv = q.nv) (h2 : p.pl = q.pl) (h3 : p.pn = q.pn) {x : Sc} (hx : noD x = true) : scN p x = scN q x := by
  have hl : p.lo = q.lo := by unfold Pm.lo; rw [h1, h2, h3]
  cases x with
  | y j =>
    have hj : j < 5000 := blt_t hx
    show p.v j = q.v j
    unfold Pm.v
    rw [if_pos hj, if_pos hj, hl]
  | _ => rfl
theorem getD_all {l : List Sc} (h : l.all noD = true) (i : Nat) : noD (l.getD i z0) = true := by
  rw [List.getD_eq_getElem?_getD]
  cases hi : l[i]? with
  | none => rfl
  | some x => exact List.all_eq_true.1 h x (List.mem_of_getElem? hi)
def csN (cs : CS) : Bool := cs.fl.all noD && (cs.cl.all noD && cs.ll.all noD)
theorem csD_lo {p q : Pm} (h1 : p.nv = q.nv) (h2 : p.pl = q.pl) (h3 : p.pn = q.pn) {cs : CS} (h : csN cs = true) : csD p cs = csD q cs := by
  unfold csN at h
  simp only [Bool.and_eq_true] at h
  obtain ⟨a1, a2, a3⟩ := h
  have e1 : ∀ i, scN p (cs.fl.getD i z0) = scN q (cs.fl.getD i z0) := fun i => N_lo h1 h2 h3 (getD_all a1 i)
  have e2 : ∀ i, scN p (cs.cl.getD i z0) = scN q (cs.cl.getD i z0) := fun i => N_lo h1 h2 h3 (getD_all a2 i)
  have e3 : ∀ i, scN p (cs.ll.getD i z0) = scN q (cs.ll.getD i z0) := fun i => N_lo h1 h2 h3 (getD_all a3 i)
  unfold csD
  rw [h3]
  simp only [e1, e2, e3]
theorem cod_eq {c : Value} {nv : Nat → Int} {lx : List Lm} {t t' : Tx} (hl : t.l = t'.l) (hc : t.cs = t'.cs) (h : csN t.cs = true) : (mkP c nv lx t).cod = (mkP c nv lx t').cod := by
  show (csD (mk0 c nv lx t) t.cs).bs = (csD (mk0 c nv lx t') t'.cs).bs
  rw [← hc, csD_lo (p := mk0 c nv lx t) (q := mk0 c nv lx t') rfl rfl (by show (fun i => bas nv (t.l.getD i z0)) = fun i => bas nv (t'.l.getD i z0); rw [hl]) h]
theorem run_end2 {p : Pm} (hc : p.c.oneCell' = true) {t : Tx} {toks : List Tok} (hTp : TxOk p t toks) (hC : CmpA p.src (.tuple #[.string p.cod, .int .i64 0, .int .i64 0])) {w : World} (hw : Lw w) {inp : List Sc} {vin : Value} (hin : InAt p w inp vin) {words depth : Nat} {e q v rd : Sc} {out : List Sc} (ge : goodS e = true) (gq : goodS q = true) (gv : goodS v = true) (gr : goodS rd = true) (go : out.all goodS = true) (h : isEnd e q v out rd (runR codY t inp words depth) = true) :
    RunIs p.src vin words depth w (scN p e) (scN p q) (scN p v) (out.map (scN p)) (scN p rd) := by
  have key : ∃ o st gc us s', runR codY t inp words depth = .ok (.tp [.ag [e, q, v, o, .i .i64 st, rd, .i .i64 gc, .i .i64 us], .c (.b true)]) s' ∧ outIs o out s' = true := by
    unfold isEnd at h
    split at h
    · rename_i e' p' v' o st rd' gc us s hx
      simp only [Bool.and_eq_true] at h
      obtain ⟨h1, h2, h3, h4, h5⟩ := h
      rw [scEq_eq h1, scEq_eq h2, scEq_eq h3, scEq_eq h4] at hx
      exact ⟨o, st, gc, us, s, hx, h5⟩
    · cases h
  obtain ⟨o, st, gc, us, s', hr, ho⟩ := key
  refine (run_sim (x := codY) hc hTp (R := .tuple #[.string p.cod, .int .i64 0, .int .i64 0]) (fun ρ => ⟨#[_, _, _], rfl, .cons rfl (.cons rfl (.cons rfl .nil))⟩) hC hw hin hr).mono ?_
  rintro e' w' ⟨v', ρ, rfl, hv, hhr, hb⟩
  obtain ⟨u0, u1, u2, u3, u4, u5, u6, u7, h0, h1, h2, h3, h4, h5, h6, h7, rfl⟩ := va_run hv
  have h0 := good_is ge h0
  have h1 := good_is gq h1
  have h2 := good_is gv h2
  have h5 := good_is gr h5
  have h4 : u4 = .int .i64 st := h4
  have h6 : u6 = .int .i64 gc := h6
  have h7 : u7 = .int .i64 us := h7
  obtain ⟨a, c, rfl, hcell⟩ := out_at hhr go ho h3
  subst h0 h1 h2 h4 h5 h6 h7
  exact ⟨a, c, st, gc, us, by rw [List.length_map], hcell, hb⟩
/-! what a machine makes of numbers -/
def opZ (c : Nat) (x y : Int) : Int := match c with
  | 0 => x + y
  | 1 => x - y
  | _ => x * y
theorem wv_i6 (z : Int) : (i6 (i6 z * 2)).fdiv 2 = Sn.wv z := by
  show (IntKind.i64.wrap (IntKind.i64.wrap z * 2)).fdiv 2 = _
  rw [w64_i, w64_i, Int.fdiv_eq_ediv_of_nonneg _ (by omega)]
  unfold Sn.wv wrap64
  omega
theorem wv_i6' (z : Int) : (i6 (z * 2)).fdiv 2 = Sn.wv z := by
  show (IntKind.i64.wrap (z * 2)).fdiv 2 = _
  rw [w64_i, Int.fdiv_eq_ediv_of_nonneg _ (by omega)]
  rfl
theorem wv_id {z : Int} (h : Sn.I5 z) : Sn.wv z = z := by unfold Sn.wv wrap64; omega
theorem wv_in (z : Int) : Sn.I5 (Sn.wv z) := by unfold Sn.wv wrap64; omega
section
variable {p : Pm} {i j k : Nat} {x y : Sc}
theorem v_in (h : goodD p.ds 0 = true) (h1 : p.ds[i]? = some (5, x, u1)) (h2 : p.ds[j]? = some (6, .y (5000 + i), u1)) : p.v (5000 + j) = Sn.wv (scN p x) := by
  have v1 := v_d h h1
  have v2 := v_d h h2
  have v1 : p.v (5000 + i) = i6 (scN p x * 2) := v1
  have v2 : p.v (5000 + j) = (p.v (5000 + i)).fdiv 2 := v2
  rw [v2, v1]
  exact wv_i6' _
theorem v_op {c : Nat} (hc : c < 3) (h : goodD p.ds 0 = true) (h0 : p.ds[k]? = some (c, x, y)) (h1 : p.ds[i]? = some (5, .y (5000 + k), u1)) (h2 : p.ds[j]? = some (6, .y (5000 + i), u1)) : p.v (5000 + j) = Sn.wv (opZ c (scN p x) (scN p y)) := by
  have v0 := v_d h h0
  have v1 := v_in h h1 h2
  have v1 : p.v (5000 + j) = Sn.wv (p.v (5000 + k)) := v1
  rw [v1, v0]
  have : c = 0 ∨ c = 1 ∨ c = 2 := by omega
  have hw : ∀ z, Sn.wv (i6 z) = Sn.wv z := fun z => by
    show Sn.wv (IntKind.i64.wrap z) = _
    rw [w64_i]
    unfold Sn.wv wrap64
    omega
  rcases this with rfl | rfl | rfl <;> exact hw _
end
end Lo
end Go.Proofs.YtjmifcnfnihhnaaGreatDoor
/- LOOPED: a text and its numbers. -/
set_option linter.unusedVariables false
set_option linter.unusedSimpArgs false
namespace Go.Proofs.YtjmifcnfnihhnaaGreatDoor
namespace Lo
open Ev Go.RowKit Sm Sl
/-- the numbers: a, b, i as they are written, n, x, y, i, and one that is asked for -/
def nvF (a b i : Int) (n : Nat) (x y z : Int) (j : Nat) : Int := if j = 4 then NN a else if j = 5 then NN b else if j = 6 then NN i else if j = 7 then (n : Int) else if j = 8 then x else if j = 9 then y else if j = 10 then i else z
section
variable {a b i : Int} {n : Nat} {x y z : Int}
theorem nv_ok (ha : Sn.I5 a) (hb : Sn.I5 b) (hi : Sn.I5 i) (hn : n < 1000) : Nv (nvF a b i n x y z) := by
  intro j h1 h2
  have h : j = 4 ∨ j = 5 ∨ j = 6 ∨ j = 7 := by omega
  have e1 := NN_in (a := a) (by omega)
  have e2 := NN_in (a := b) (by omega)
  have e3 := NN_in (a := i) (by omega)
  rcases h with rfl | rfl | rfl | rfl
  · exact e1
  · exact e2
  · exact e3
  · show 0 ≤ (n : Int) ∧ (n : Int) < _
    omega
end
/-! how long a text is -/
def lmN : Lm → Nat
  | .bl => 1
  | .wd w => w.length
  | .num _ => 19
  | .lit w _ => w.length
  | .sg k => (sgB k).length
def lenN (l : List Lm) : Nat := l.foldr (fun x n => lmN x + n) 0
theorem flat_len {nv : Nat → Int} (h : Nv nv) : ∀ l : List Lm, (flat (dgN nv) l).length ≤ lenN l
  | [] => Nat.le_refl _
  | x :: l => by
    have e : flat (dgN nv) (x :: l) = x.bytes (dgN nv) ++ flat (dgN nv) l := List.flatMap_cons ..
    rw [e, List.length_append]
    have ih := flat_len h l
    have hx : (x.bytes (dgN nv)).length ≤ lmN x := by
      cases x with
      | num i =>
        show (Sn.decL (nN nv i)).length ≤ 19
        refine (Sn.decL_len 19 _ ?_ (by omega)).2
        unfold nN
        split
        · rename_i q
          have := h i q.1 q.2
          omega
        · omega
      | _ => exact Nat.le_refl _
    show _ ≤ lmN x + lenN l
    omega
def c0 : Value := .int .i64 0
noncomputable def txOk (lx : List Lm) (t : Tx) : Bool := spOk lx t && Nat.ble (lenN lx) 400
/-- what is asked of a text -/
structure Txt (nv : Nat → Int) (lx : List Lm) (t : Tx) (cv : List (Nat × Nat)) : Prop where
  sp : txOk lx t = true
  w3 : t.w3 = w3s lx
  l2 : t.l2 = concs t.l cv
  cv : ∀ km ∈ cv, km.1 < 100 ∧ nv km.1 = (km.2 : Int)
  cs : ∀ k x y b, (k, x, y, b) ∈ t.rw.cs → cmpI k (scN (mkP c0 nv lx t) x) (scN (mkP c0 nv lx t) y) = b
  cl : ∀ x ∈ t.cs.cl, -4611686018427387904 ≤ scN (mkP c0 nv lx t) x ∧ scN (mkP c0 nv lx t) x ≤ 4611686018427387903
section
variable {nv : Nat → Int} {lx : List Lm} {t tc : Tx} {cv cvc : List (Nat × Nat)}
theorem Txt.ok (h : Txt nv lx t cv) (hv : Nv nv) : ∀ c', TxOk ((mkP c0 nv lx t).at c') t (toks (dgN nv) (nN nv) lx 0) := by
  have hs := h.sp
  unfold txOk at hs
  rw [Bool.and_eq_true] at hs
  have hl := ble_t hs.2
  exact tx_ok hv hs.1 h.w3 h.l2 h.cv (Nat.le_trans (flat_len hv lx) hl) c0 h.cs h.cl
theorem Txt.cmp (h : Txt nv lx t cv) (hv : Nv nv) (hY : isY (compR t) = true) : CmpA (mkP c0 nv lx t).src (.tuple #[.string (mkP c0 nv lx t).cod, .int .i64 0, .int .i64 0]) := cmp_of (h.ok hv) hY
/-- compiled for many -/
theorem Txt.cmp2 (h : Txt nv lx tc cvc) (hv : Nv nv) (hY : isY (compR tc) = true) (hl : tc.l = t.l) (hc : tc.cs = t.cs) (hN : csN tc.cs = true) : CmpA (mkP c0 nv lx t).src (.tuple #[.string (mkP c0 nv lx t).cod, .int .i64 0, .int .i64 0]) := by
  rw [← cod_eq hl hc hN]
  exact h.cmp hv hY
theorem Txt.run (h : Txt nv lx t cv) (hv : Nv nv) (hC : CmpA (mkP c0 nv lx t).src (.tuple #[.string (mkP c0 nv lx t).cod, .int .i64 0, .int .i64 0])) {w : World} (hw : Lw w) {inp : List Sc} {vin : Value} (hin : InAt (mkP c0 nv lx t) w inp vin) {words depth : Nat} {e q v rd : Sc} {out : List Sc} (hg : (goodS e && (goodS q && (goodS v && (goodS rd && out.all goodS)))) = true) (hE : isEnd e q v out rd (runR codY t inp words depth) = true) :
    RunIs (mkP c0 nv lx t).src vin words depth w (scN (mkP c0 nv lx t) e) (scN (mkP c0 nv lx t) q) (scN (mkP c0 nv lx t) v) (out.map (scN (mkP c0 nv lx t))) (scN (mkP c0 nv lx t) rd) := by
  simp only [Bool.and_eq_true] at hg
  exact run_end2 (p := mkP c0 nv lx t) rfl (h.ok hv c0) hC hw hin hg.1 hg.2.1 hg.2.2.1 hg.2.2.2.1 hg.2.2.2.2 hE
end
/-- the parts that many share -/
noncomputable def spA (lx : List Lm) (l : List Sc) (cs : CS) : Bool := goodL lx && (numOk lx && (Nat.blt (w3s lx).length 800 && (Nat.blt l.length 900 && (l.all askOk && (csOk cs && Nat.ble (lenN lx) 400)))))
theorem sp_of {lx : List Lm} {w3 : List W3} {l l2 : List Sc} {cs : CS} {ds : List Df} {rc : List Cm} (h : spA lx l cs = true) (hd : goodD ds 0 = true) (hr : (rc.all fun c => goodS c.2.1 && goodS c.2.2.1) = true) : txOk lx ⟨w3, l, l2, ⟨ds, rc⟩, cs⟩ = true := by
  unfold spA at h
  simp only [Bool.and_eq_true] at h
  obtain ⟨h1, h2, h3, h4, h5, h6, h7⟩ := h
  unfold txOk spOk
  rw [h1, h2, h3, h7]
  show ((true && (true && (true && (Nat.blt l.length 900 && (l.all askOk && (goodD ds 0 && (csOk cs && rc.all fun c => goodS c.2.1 && goodS c.2.2.1))))))) && true) = true
  rw [h4, h5, hd, h6, hr]
  rfl
theorem no_in (p : Pm) (w : World) : InAt p w [] (.slice none 0 0) := .inl ⟨rfl, rfl⟩
theorem src_eq {nv : Nat → Int} {lx : List Lm} {t : Tx} : (mkP c0 nv lx t).src = ⟨(flat (dgN nv) lx).toArray⟩ := rfl
end Lo
end Go.Proofs.YtjmifcnfnihhnaaGreatDoor
/- LOOPED: a text with its numbers told, and with rows. -/
set_option linter.unusedVariables false
set_option linter.unusedSimpArgs false
namespace Go.Proofs.YtjmifcnfnihhnaaGreatDoor
namespace Lo
open Ev Go.RowKit Sm Sl
section
variable {nv : Nat → Int} {lx : List Lm} {w3 : List W3} {l l2 : List Sc} {ds : List Df} {rc : List Cm} {cs : CS}
theorem txt_n {cv : List (Nat × Nat)} (hA : spA lx l cs = true) (hd : goodD ds 0 = true) (hw : w3 = w3s lx) (hl : l2 = concs l cv) (hcv : ∀ km ∈ cv, km.1 < 100 ∧ nv km.1 = (km.2 : Int)) (hc : cs.cl.all (inR (-4611686018427387904) 4611686018427387903) = true) : Txt nv lx ⟨w3, l, l2, ⟨ds, []⟩, cs⟩ cv :=
  ⟨sp_of hA hd rfl, hw, hl, hcv, fun k x y b h => (by cases h), fun x hx => (inR_ok (List.all_eq_true.1 hc x hx) _).2⟩
theorem txt_c {cv : List (Nat × Nat)} (hA : spA lx l cs = true) (hd : goodD ds 0 = true) (hr : (rc.all fun c => goodS c.2.1 && goodS c.2.2.1) = true) (hw : w3 = w3s lx) (hl : l2 = concs l cv) (hcv : ∀ km ∈ cv, km.1 < 100 ∧ nv km.1 = (km.2 : Int)) (hcs : ∀ c ∈ rc, cmpI c.1 (scN (mkP c0 nv lx ⟨w3, l, l2, ⟨ds, rc⟩, cs⟩) c.2.1) (scN (mkP c0 nv lx ⟨w3, l, l2, ⟨ds, rc⟩, cs⟩) c.2.2.1) = c.2.2.2) (hc : ∀ x ∈ cs.cl, Sn.I5 (scN (mkP c0 nv lx ⟨w3, l, l2, ⟨ds, rc⟩, cs⟩) x)) : Txt nv lx ⟨w3, l, l2, ⟨ds, rc⟩, cs⟩ cv :=
  ⟨sp_of hA hd hr, hw, hl, hcv, fun k x y b h => hcs _ h, hc⟩
end
theorem cv7 {nv : Nat → Int} {n : Nat} (h : nv 7 = (n : Int)) : ∀ km ∈ [(7, n)], km.1 < 100 ∧ nv km.1 = (km.2 : Int) := fun km hm => by
  rw [List.mem_singleton.1 hm]
  exact ⟨by show 7 < 100; omega, h⟩
theorem cv0 {nv : Nat → Int} : ∀ km ∈ ([] : List (Nat × Nat)), km.1 < 100 ∧ nv km.1 = (km.2 : Int) := fun km hm => by cases hm
/-- one less -/
theorem v_dec {p : Pm} {i j k : Nat} {x : Sc} (h : goodD p.ds 0 = true) (h0 : p.ds[k]? = some (1, x, nI 1)) (h1 : p.ds[i]? = some (5, .y (5000 + k), u1)) (h2 : p.ds[j]? = some (6, .y (5000 + i), u1)) {m : Int} (hm : scN p x = m) (h3 : 0 ≤ m) (h4 : m < 1000) : scN p (.y (5000 + j)) = m - 1 := by
  have := v_op (c := 1) (by omega) h h0 h1 h2
  show p.v (5000 + j) = _
  rw [this, hm]
  exact wv_id (by show _ ≤ m - 1 ∧ m - 1 ≤ _; omega)
theorem ne_row {p : Pm} {x : Sc} {m : Int} (h : scN p x = m) (h0 : m ≠ 0) : cmpI 0 (scN p x) (scN p z0) = false := by
  rw [h]
  show (m == 0) = false
  simpa using h0
theorem wv_add (s t : Int) : Sn.wv (Sn.wv s + t) = Sn.wv (s + t) := by unfold Sn.wv wrap64; omega
theorem nv_7 (a b i : Int) (n : Nat) (x y z : Int) : nvF a b i n x y z 7 = (n : Int) := rfl
end Lo
end Go.Proofs.YtjmifcnfnihhnaaGreatDoor
/- LOOPED: signs, quotients, remainders that a machine makes. -/
set_option linter.unusedVariables false
set_option linter.unusedSimpArgs false
namespace Go.Proofs.YtjmifcnfnihhnaaGreatDoor
namespace Lo
open Ev Go.RowKit Sm Sl
theorem wv_i6'' (z : Int) : Sn.wv (i6 z) = Sn.wv z := by
  show Sn.wv (IntKind.i64.wrap z) = _
  rw [w64_i]
  unfold Sn.wv wrap64
  omega
theorem NN_pos {a : Int} (h : 0 ≤ a) : NN a = a := by unfold NN; rw [if_neg (by omega)]
section
variable {p : Pm} {i j k : Nat} {x y : Sc}
theorem v_neg (h : goodD p.ds 0 = true) (h0 : p.ds[k]? = some (7, x, z0)) (h1 : p.ds[i]? = some (5, .y (5000 + k), u1)) (h2 : p.ds[j]? = some (6, .y (5000 + i), u1)) : p.v (5000 + j) = Sn.wv (0 - scN p x) := by
  have v0 := v_d h h0
  have v1 : p.v (5000 + j) = Sn.wv (p.v (5000 + k)) := v_in h h1 h2
  rw [v1, v0]
  exact wv_i6'' _
theorem v_quo {n : Int} (h : goodD p.ds 0 = true) (h0 : p.ds[k]? = some (3, x, .i .i64 n)) (h1 : p.ds[i]? = some (5, .y (5000 + k), u1)) (h2 : p.ds[j]? = some (6, .y (5000 + i), u1)) : p.v (5000 + j) = Sn.wv ((scN p x).tdiv n) := by
  have v0 := v_d h h0
  have v1 : p.v (5000 + j) = Sn.wv (p.v (5000 + k)) := v_in h h1 h2
  rw [v1, v0]
  exact wv_i6'' _
theorem v_rem {n : Int} (h : goodD p.ds 0 = true) (h0 : p.ds[k]? = some (4, x, .i .i64 n)) (h1 : p.ds[i]? = some (5, .y (5000 + k), u1)) (h2 : p.ds[j]? = some (6, .y (5000 + i), u1)) : p.v (5000 + j) = Sn.wv ((scN p x).tmod n) := by
  have v0 := v_d h h0
  have v1 : p.v (5000 + j) = Sn.wv (p.v (5000 + k)) := v_in h h1 h2
  rw [v1, v0]
  rfl
/-- a number below 0, as it is said -/
theorem v_sgn {k0 k1 k2 k3 k4 k5 : Nat} {c : Sc} (hg : goodD p.ds 0 = true) (h0 : p.ds[k0]? = some (7, c, z0)) (h1 : p.ds[k1]? = some (5, .y (5000 + k0), u1)) (h2 : p.ds[k2]? = some (6, .y (5000 + k1), u1)) (h3 : p.ds[k3]? = some (1, .y (5000 + k2), nI 1)) (h4 : p.ds[k4]? = some (5, .y (5000 + k3), u1)) (h5 : p.ds[k5]? = some (6, .y (5000 + k4), u1)) {a : Int} (ha : a < 0) (hI : Sn.I5 a) (hc : scN p c = NN a) : p.v (5000 + k5) = a := by
  have e1 : p.v (5000 + k2) = Sn.wv (0 - NN a) := by rw [← hc]; exact v_neg hg h0 h1 h2
  have e2 : p.v (5000 + k5) = Sn.wv (p.v (5000 + k2) - 1) := v_op (c := 1) (x := .y (5000 + k2)) (y := nI 1) (by omega) hg h3 h4 h5
  have hN : NN a = -(a + 1) := by unfold NN; rw [if_pos ha]
  rw [e2, e1, hN, wv_id (z := 0 - -(a + 1)) (by omega)]
  have : 0 - -(a + 1) - 1 = a := by omega
  rw [this]
  exact wv_id hI
end
theorem wv_sub (s t : Int) : Sn.wv (Sn.wv s - t) = Sn.wv (s - t) := by unfold Sn.wv wrap64; omega
theorem wv_mul3 (s : Int) : Sn.wv (Sn.wv s * 3) = Sn.wv (s * 3) := by unfold Sn.wv wrap64; omega
theorem cv76 {nv : Nat → Int} {n k : Nat} (h7 : nv 7 = (n : Int)) (h6 : nv 6 = (k : Int)) : ∀ km ∈ [(7, n), (6, k)], km.1 < 100 ∧ nv km.1 = (km.2 : Int) := fun km hm => by
  rcases List.mem_cons.1 hm with rfl | hm
  · exact ⟨by show 7 < 100; omega, h7⟩
  · rw [List.mem_singleton.1 hm]
    exact ⟨by show 6 < 100; omega, h6⟩
theorem in1 {p : Pm} {w : World} {k u : Nat} {x : Int} (h2 : 2 ≤ k) (hu : scN p (.y (u + 3)) = x) (k0 : w.cell? ⟨k, 0, none⟩ = some (.int .i64 x)) : InAt p w [.y (u + 3)] (.slice (some ⟨k, 0, none⟩) 1 1) := by
  have g : ∀ u, goodS (.y (u + 3)) = true := fun u => Nat.ble_eq_true_of_le (by omega)
  refine .inr ⟨k, h2, rfl, by show 0 < 1; omega, by show 1 ≤ 4096; omega, by show (goodS _ && true) = true; rw [g]; rfl, fun j s hs => ?_⟩
  match j, hs with
  | 0, hs => cases hs; rw [hu]; exact k0
theorem in1c {p : Pm} {w : World} {k n : Nat} (h2 : 2 ≤ k) (k0 : w.cell? ⟨k, 0, none⟩ = some (.int .i64 (n : Nat))) : InAt p w [nI n] (.slice (some ⟨k, 0, none⟩) 1 1) := by
  refine .inr ⟨k, h2, rfl, by show 0 < 1; omega, by show 1 ≤ 4096; omega, rfl, fun j s hs => ?_⟩
  match j, hs with
  | 0, hs => cases hs; exact k0
end Lo
end Go.Proofs.YtjmifcnfnihhnaaGreatDoor
