import Derived.WalkKit
import Derived.WalkSpells
import Derived.WalkLawsBesides
import Derived.Deep.Quiet
import Derived.StillTail
import Derived.Test.YtjmifcnfnihhnaaGreatDoorZeG
import Derived.Deep.MidRow
import Derived.Test.YtjmifcnfnihhnaaGreatDoorProg
import Derived.RowKit
import Derived.Deep.AppendLies
import Derived.Deep.RegionLaw
import Derived.Deep.RegionHeld3
import Derived.Lib.Hide
import Derived.Test.YtjmifcnfnihhnaaGreatDoorZeD
import Derived.BigQuiet
import Derived.Deep.QuietTactic
import Derived.Deep.LoopGhost
import Derived.Deep.RegionWith
import Derived.Deep.Cut
import Derived.Deep.CutRange
import Derived.Deep.DeepCutAuto
import Derived.Handy
import Derived.Laws.BitsLemmas
import Derived.Laws.BitsAllLaws
/- AID: a region that draws its order, whose callees make memory and which makes one variable of its own: one walk in the order of the text. No program is named here. -/
set_option linter.unusedVariables false
set_option linter.unusedSimpArgs false
namespace Go.Proofs.YtjmifcnfnihhnaaGreatDoor
namespace Lr
open Go Go.RowKit

/-- a world behind w in which nothing below B has turned -/
structure Wd (B : Nat) (w : World) where
  v : World
  h : Below B w v
theorem Wd.ne (B : Nat) (w : World) : Nonempty (Wd B w) := ⟨⟨w, Below.refl _ _⟩⟩
section
variable {P : Program} {ops : Array Oper} {md : Region.Mode} {w0 : World} {ia : Nat} {oa : Oper} {obj : Obj} {mk : Nat → Value}

/-- one value in every world behind w0, nothing that was there turned by it -/
def qAt (P : Program) (o : Oper) (a : Act) (w0 : World) (v : Value) : Prop := ∀ x : Wd w0.heap.size w0, o.quietAt P a (fun w'' => Below x.v.heap.size x.v w'') x.v v
def qB (P : Program) (o : Oper) (a : Act) (w0 : World) (next : Act → Prop) : Prop := ∃ v, qAt P o a w0 v ∧ next (a.put o.dst v)
/-- in this state the operation oa makes the variable obj -/
def ya (mk : Nat → Value) (P : Program) (oa : Oper) (obj : Obj) (a : Act) : Prop := ∀ w, (execOp a.eval oa).run P w = .ok (.value (mk w.heap.size)) (w.alloc obj)
/-- operation i comes up; the one that makes the variable leaves the frame alone -/
def opB (mk : Nat → Value) (P : Program) (ops : Array Oper) (w0 : World) (oa : Oper) (obj : Obj) (ia i : Nat) (K : Act → Prop) (a : Act) : Prop :=
  if i = ia then ya mk P oa obj a ∧ K a else
  match ops[i]? with
  | none => K a
  | some o => if Region.wanted o (yielded ops a.tmps) then qB P o a w0 K else K (a.put o.dst undef)
theorem opB_mono {i : Nat} {a : Act} {K K' : Act → Prop} (h : ∀ a, K a → K' a) (hh : opB mk P ops w0 oa obj ia i K a) : opB mk P ops w0 oa obj ia i K' a := by
  unfold opB at *
  by_cases e : i = ia
  · rw [if_pos e] at hh ⊢; exact ⟨hh.1, h _ hh.2⟩
  · rw [if_neg e] at hh ⊢
    split
    · exact h _ (by simpa [*] using hh)
    · rename_i o ho
      simp only [ho] at hh
      split
      · rename_i hw; simp only [hw, if_true] at hh
        obtain ⟨v, h1, h2⟩ := hh
        exact ⟨v, h1, h _ h2⟩
      · rename_i hw; simp only [hw] at hh; exact h _ hh
/-- in state a operation o leaves v -/
def YB (P : Program) (ops : Array Oper) (w0 : World) (o : Oper) (v : Value) (a : Act) : Prop :=
  (Region.wanted o (yielded ops a.tmps) = true ∧ qAt P o a w0 v) ∨ (Region.wanted o (yielded ops a.tmps) = false ∧ v = undef)
theorem YB.op {i : Nat} {o : Oper} {v : Value} {a : Act} (hne : i ≠ ia) (hi : ops[i]? = some o) (hy : YB P ops w0 o v a) {K : Act → Prop} (h : K (a.put o.dst v)) : opB mk P ops w0 oa obj ia i K a := by
  unfold opB
  rw [if_neg hne]
  simp only [hi]
  rcases hy with ⟨hw, hv⟩ | ⟨hw, rfl⟩
  · simp only [hw, if_true]; exact ⟨v, hv, h⟩
  · simp only [hw, Bool.false_eq_true, if_false]; exact h
theorem YB.of_same {o : Oper} {v : Value} {a a' : Act} (hy : YB P ops w0 o v a) (he : execOp a'.eval o = execOp a.eval o)
    (hw : Region.wanted o (yielded ops a'.tmps) = Region.wanted o (yielded ops a.tmps)) : YB P ops w0 o v a' := by
  unfold YB qAt Oper.quietAt at *
  rw [he, hw]
  exact hy
theorem yb_of_op {i : Nat} {o : Oper} {a : Act} {K : Act → Prop} (hne : i ≠ ia) (hi : ops[i]? = some o) (h : opB mk P ops w0 oa obj ia i K a) : ∃ v, YB P ops w0 o v a ∧ K (a.put o.dst v) := by
  unfold opB at h
  rw [if_neg hne] at h
  simp only [hi] at h
  by_cases hw : Region.wanted o (yielded ops a.tmps) = true
  · simp only [hw, if_true] at h
    obtain ⟨v, h1, h2⟩ := h
    exact ⟨v, .inl ⟨hw, h1⟩, h2⟩
  · simp only [hw] at h
    exact ⟨undef, .inr ⟨by simpa using hw, rfl⟩, h⟩
theorem opB_put {j : Nat} {oi oj : Oper} {v : Value} (hoa : ∀ o', ops[ia]? = some o' → o' = oa) (hj : ops[j]? = some oj) (hap : oi.apart ops oj = true)
    (hsi : ∀ cs b, oi.op ≠ .select cs b) (hsj : ∀ cs b, oj.op ≠ .select cs b) {K : Act → Prop} {a : Act}
    (hy : YB P ops w0 oi v a) (h : opB mk P ops w0 oa obj ia j K (a.put oi.dst v)) :
    opB mk P ops w0 oa obj ia j (fun a' => YB P ops w0 oi v a' ∧ K (a'.put oi.dst v)) a := by
  obtain ⟨h1, h2, h3⟩ := Oper.apart_spec hap
  have keep : ∀ (a : Act), YB P ops w0 oi v a → ∀ u, YB P ops w0 oi v (a.put oj.dst u) := fun a hy u =>
    hy.of_same (execOp_put oi hsi a oj.dst u h3) (wanted_put oi a oj.dst u h3)
  unfold opB at *
  by_cases e : j = ia
  · rw [if_pos e] at h ⊢
    have hjo : oj = oa := hoa oj (by rw [← e]; exact hj)
    refine ⟨?_, hy, h.2⟩
    have h4 := h.1
    unfold ya at h4 ⊢
    rw [← hjo] at h4 ⊢
    rw [execOp_put oj hsj a oi.dst v h1] at h4
    exact h4
  · rw [if_neg e] at h ⊢
    simp only [hj] at *
    rw [wanted_put oj a oi.dst v h1] at h
    split
    · rename_i hw
      simp only [hw, if_true] at h
      obtain ⟨u, hu, hn⟩ := h
      refine ⟨u, fun x => ?_, keep a hy u, by rw [← Act.put_comm a v u h2]; exact hn⟩
      have := hu x
      unfold Oper.quietAt at *
      rwa [execOp_put oj hsj a oi.dst v h1] at this
    · rename_i hw
      simp only [hw] at h
      exact ⟨keep a hy _, by rw [← Act.put_comm a v undef h2]; exact h⟩
/-- the head, in whatever order -/
def anyB (mk : Nat → Value) (P : Program) (md : Region.Mode) (ops : Array Oper) (w0 : World) (oa : Oper) (obj : Obj) (ia n : Nat) (L : Array Bool → Act → Prop) : Nat → Array Bool → Act → Prop
  | 0, listed, a => L listed a
  | f + 1, listed, a =>
    Region.ready md ops listed ≠ [] ∧ ∀ i ∈ Region.ready md ops listed, i < n ∧ opB mk P ops w0 oa obj ia i (anyB mk P md ops w0 oa obj ia n L f (listed.setIfInBounds i true)) a
/-- what a head keeps as it is listed: the tail waits for all of it -/
structure Iv (md : Region.Mode) (ops : Array Oper) (n : Nat) (I : Array Bool → Prop) : Prop where
  size : ∀ l, I l → l.size = ops.size
  set : ∀ l i, I l → i ∈ Region.ready md ops l → i < n → I (l.setIfInBounds i true)
  wait : ∀ l, I l → ∀ i, i < n → l.getD i true = false → ∀ t, n ≤ t → t ∉ Region.ready md ops l
theorem iv_of {n : Nat} (hs : Region.sinkB md ops n = true) (hc : Region.chainB md ops n = true) (hn : n < ops.size) : Iv md ops n (HeadInv md ops n) := ⟨fun l h => h.size, fun l i h hr hi => h.set hr hi, fun l h i hi hu t ht => tail_waits hs hc hn h _ i rfl hi hu t ht⟩
theorem anyB_first {n i : Nat} {oi : Oper} {v : Value} {L : Array Bool → Act → Prop} (hoa : ∀ o', ops[ia]? = some o' → o' = oa) (hne : i ≠ ia) (hi : ops[i]? = some oi) (hsel : ∀ (j : Nat) (o : Oper) cs b, ops[j]? = some o → o.op ≠ .select cs b)
    {I : Array Bool → Prop} (hT : Iv md ops n I) (hn : n < ops.size) (hin : i < n)
    (hdone : ∀ listed a, L listed a → ∀ j ∈ Region.ready md ops listed, n ≤ j) :
    ∀ (f : Nat) (listed : Array Bool) (a : Act), I listed →
      (∀ j oj, ops[j]? = some oj → j ≠ i → listed.getD j true = false → (∀ e ∈ oj.after, Region.binds md e = true → e.on ≠ i) → oi.apart ops oj = true) →
      i ∈ Region.ready md ops listed → YB P ops w0 oi v a →
      anyB mk P md ops w0 oa obj ia n L f (listed.setIfInBounds i true) (a.put oi.dst v) → anyB mk P md ops w0 oa obj ia n L (f + 1) listed a := by
  intro f
  induction f with
  | zero =>
    intro listed a inv _ hr hy H
    have hun := (mem_ready.1 hr).1
    refine ⟨fun h => (by rw [h] at hr; cases hr), fun j hj => ?_⟩
    have hjn : j < n := by
      rcases Nat.lt_or_ge j n with h | h
      · exact h
      · exact absurd hj (hT.wait _ inv i hin hun j h)
    refine ⟨hjn, ?_⟩
    by_cases hji : j = i
    · subst hji; exact hy.op hne hi H
    · have := hdone _ _ H j (ready_mono hj hji)
      omega
  | succ f ih =>
    intro listed a inv hfree hr hy H
    have hun := (mem_ready.1 hr).1
    refine ⟨fun h => (by rw [h] at hr; cases hr), fun j hj => ?_⟩
    have hjn : j < n := by
      rcases Nat.lt_or_ge j n with h | h
      · exact h
      · exact absurd hj (hT.wait _ inv i hin hun j h)
    refine ⟨hjn, ?_⟩
    by_cases hji : j = i
    · subst hji; exact hy.op hne hi H
    · have h1 := (H.2 j (ready_mono hj hji)).2
      obtain ⟨hjun, oj, hoj, hall⟩ := mem_ready.1 hj
      have hnot : ∀ e ∈ oj.after, Region.binds md e = true → e.on ≠ i := fun e he hb heq => by
        have h1 := hall e he hb
        rw [heq, getD_both hun] at h1
        cases h1
      have h2 := opB_put hoa hoj (hfree j oj hoj hji hjun hnot) (fun cs b => hsel i oi cs b hi) (fun cs b => hsel j oj cs b hoj) hy h1
      have hfree' : ∀ k ok, ops[k]? = some ok → k ≠ i → (listed.setIfInBounds j true).getD k true = false →
          (∀ e ∈ ok.after, Region.binds md e = true → e.on ≠ i) → oi.apart ops ok = true := fun k ok hk hki hun hno => by
        refine hfree k ok hk hki ?_ hno
        by_cases hjk : j = k
        · subst hjk; exact hjun
        · rw [getD_set_ne true hjk] at hun; exact hun
      refine opB_mono (fun a' h3 => ih (listed.setIfInBounds j true) a' (hT.set _ _ inv hj hjn) hfree' (ready_mono hr (Ne.symm hji)) h3.1 ?_) h2
      rw [Array.setIfInBounds_comm _ _ hji]
      exact h3.2
theorem opB_ya {j : Nat} {oj : Oper} (hne : j ≠ ia) (hj : ops[j]? = some oj) (hap : oa.apart ops oj = true) (hsa : ∀ cs b, oa.op ≠ .select cs b) {K : Act → Prop} {a : Act}
    (hy : ya mk P oa obj a) (h : opB mk P ops w0 oa obj ia j K a) : opB mk P ops w0 oa obj ia j (fun a' => ya mk P oa obj a' ∧ K a') a := by
  obtain ⟨h1, h2, h3⟩ := Oper.apart_spec hap
  have keep : ∀ u, ya mk P oa obj (a.put oj.dst u) := fun u w => by rw [execOp_put oa hsa a oj.dst u h3]; exact hy w
  unfold opB at *
  rw [if_neg hne] at h ⊢
  simp only [hj] at *
  split
  · rename_i hw
    simp only [hw, if_true] at h
    obtain ⟨u, hu, hn⟩ := h
    exact ⟨u, hu, keep u, hn⟩
  · rename_i hw
    simp only [hw] at h
    exact ⟨keep _, h⟩
theorem anyB_made {n : Nat} {L : Array Bool → Act → Prop} (hoa : ops[ia]? = some oa) (hsel : ∀ (j : Nat) (o : Oper) cs b, ops[j]? = some o → o.op ≠ .select cs b)
    {I : Array Bool → Prop} (hT : Iv md ops n I) (hn : n < ops.size) (hin : ia < n)
    (hdone : ∀ listed a, L listed a → ∀ j ∈ Region.ready md ops listed, n ≤ j) :
    ∀ (f : Nat) (listed : Array Bool) (a : Act), I listed →
      (∀ j oj, ops[j]? = some oj → j ≠ ia → listed.getD j true = false → (∀ e ∈ oj.after, Region.binds md e = true → e.on ≠ ia) → oa.apart ops oj = true) →
      ia ∈ Region.ready md ops listed → ya mk P oa obj a →
      anyB mk P md ops w0 oa obj ia n L f (listed.setIfInBounds ia true) a → anyB mk P md ops w0 oa obj ia n L (f + 1) listed a := by
  intro f
  induction f with
  | zero =>
    intro listed a inv _ hr hy H
    have hun := (mem_ready.1 hr).1
    refine ⟨fun h => (by rw [h] at hr; cases hr), fun j hj => ?_⟩
    have hjn : j < n := by
      rcases Nat.lt_or_ge j n with h | h
      · exact h
      · exact absurd hj (hT.wait _ inv ia hin hun j h)
    refine ⟨hjn, ?_⟩
    by_cases hji : j = ia
    · subst hji; unfold opB; rw [if_pos rfl]; exact ⟨hy, H⟩
    · have := hdone _ _ H j (ready_mono hj hji)
      omega
  | succ f ih =>
    intro listed a inv hfree hr hy H
    have hun := (mem_ready.1 hr).1
    refine ⟨fun h => (by rw [h] at hr; cases hr), fun j hj => ?_⟩
    have hjn : j < n := by
      rcases Nat.lt_or_ge j n with h | h
      · exact h
      · exact absurd hj (hT.wait _ inv ia hin hun j h)
    refine ⟨hjn, ?_⟩
    by_cases hji : j = ia
    · subst hji; unfold opB; rw [if_pos rfl]; exact ⟨hy, H⟩
    · have h1 := (H.2 j (ready_mono hj hji)).2
      obtain ⟨hjun, oj, hoj, hall⟩ := mem_ready.1 hj
      have hnot : ∀ e ∈ oj.after, Region.binds md e = true → e.on ≠ ia := fun e he hb heq => by
        have h1 := hall e he hb
        rw [heq, getD_both hun] at h1
        cases h1
      have hfree' : ∀ k ok, ops[k]? = some ok → k ≠ ia → (listed.setIfInBounds j true).getD k true = false →
          (∀ e ∈ ok.after, Region.binds md e = true → e.on ≠ ia) → oa.apart ops ok = true := fun k ok hk hki hun hno => by
        refine hfree k ok hk hki ?_ hno
        by_cases hjk : j = k
        · subst hjk; exact hjun
        · rw [getD_set_ne true hjk] at hun; exact hun
      have h2 := opB_ya hji hoj (hfree j oj hoj hji hjun hnot) (fun cs b => hsel ia oa cs b hoa) hy h1
      refine opB_mono (fun a' h3 => ih (listed.setIfInBounds j true) a' (hT.set _ _ inv hj hjn) hfree' (ready_mono hr (Ne.symm hji)) h3.1 ?_) h2
      rw [Array.setIfInBounds_comm _ _ hji]
      exact h3.2
/-- the lexical walk of the head -/
def wpB (mk : Nat → Value) (P : Program) (ops : Array Oper) (w0 : World) (oa : Oper) (obj : Obj) (ia : Nat) (Q : Act → Prop) : Nat → List Oper → Act → Prop
  | _, [], a => Q a
  | k, o :: rest, a => if k = ia then ya mk P oa obj a ∧ wpB mk P ops w0 oa obj ia Q (k + 1) rest a else
      if Region.wanted o (yielded ops a.tmps) then qB P o a w0 (wpB mk P ops w0 oa obj ia Q (k + 1) rest) else wpB mk P ops w0 oa obj ia Q (k + 1) rest (a.put o.dst undef)
theorem anyB_lex {n g : Nat} {Lq : Act → Prop} (hoa : ∀ o', ops[ia]? = some o' → o' = oa) (hsel : Region.noSelect ops = true) {I : Array Bool → Prop} (hT : Iv md ops n I) (hn : n < ops.size) :
    ∀ (l : List Oper) (k : Nat) (listed : Array Bool) (a : Act), (∀ j, j < l.length → l[j]? = ops[k + j]?) → k + l.length = n → I listed →
    Region.lexHead md ops g l.length k listed = true → wpB mk P ops w0 oa obj ia Lq k l a →
    anyB mk P md ops w0 oa obj ia n (fun listed' a' => Region.seqB md ops g n listed' = true ∧ Lq a') l.length listed a
  | [], k, listed, a, _, hk, _, hB, h => by
    have : k = n := by simpa using hk
    subst this
    exact ⟨by simpa [Region.lexHead] using hB, h⟩
  | o :: l, k, listed, a, hl, hk, inv, hB, h => by
    have h0 : ops[k]? = some o := by simpa using (hl 0 (by simp)).symm
    simp only [List.length_cons, Region.lexHead, Bool.and_eq_true] at hB
    obtain ⟨⟨hr, hf⟩, hB'⟩ := hB
    have hkn : k < n := by simp only [List.length_cons] at hk; omega
    have hr' : k ∈ Region.ready md ops listed := by simpa using hr
    have hl' : ∀ j, j < l.length → l[j]? = ops[k + 1 + j]? := fun j hj => by have := hl (j + 1) (by simp; omega); simpa [Nat.add_assoc, Nat.add_comm 1 j] using this
    have hk' : k + 1 + l.length = n := by simp only [List.length_cons] at hk; omega
    unfold wpB at h
    by_cases e : k = ia
    · rw [if_pos e] at h
      have H := anyB_lex hoa hsel hT hn l (k + 1) _ _ hl' hk' (hT.set _ _ inv hr' hkn) hB' h.2
      have h0a : o = oa := hoa o (by rw [← e]; exact h0)
      rw [h0a, e] at h0
      rw [e] at hf
      exact anyB_made h0 (Region.noSelect_spec hsel) hT hn (e ▸ hkn) (fun listed' a' hL => seqB_ready hL.1) l.length listed a inv (Region.free_spec h0 hf) (e ▸ hr') h.1 (by rw [e] at H; exact H)
    · rw [if_neg e] at h
      have hst : opB mk P ops w0 oa obj ia k (wpB mk P ops w0 oa obj ia Lq (k + 1) l) a := by unfold opB; rw [if_neg e]; simp only [h0]; exact h
      obtain ⟨v, hy, hK⟩ := yb_of_op e h0 hst
      exact anyB_first hoa e h0 (Region.noSelect_spec hsel) hT hn hkn (fun listed' a' hL => seqB_ready hL.1) l.length listed a inv (Region.free_spec h0 hf) hr' hy
        (anyB_lex hoa hsel hT hn l (k + 1) _ _ hl' hk' (hT.set _ _ inv hr' hkn) hB' hK)
/-- y does not look at what x makes -/
def ap1 (ops : Array Oper) (x y : Oper) : Bool :=
  match x.dst with
  | some d => !(y.looksAt ops).contains d && y.dst != some d
  | none => true
theorem ap1_spec {x y : Oper} (h : ap1 ops x y = true) : (∀ d, x.dst = some d → d ∉ y.looksAt ops) ∧ (∀ d, x.dst = some d → y.dst ≠ some d) := by
  refine ⟨fun d hd => ?_, fun d hd => ?_⟩ <;> simp [ap1, hd] at h
  · exact h.1
  · exact h.2
/-- what the run has come to: the variable is not made yet; or it lies in block b -/
inductive At (mk : Nat → Value) (w0 : World) (d : Tmp) (obj : Obj) (ml : Bool) (a : Act) (ar : Act) (wr : World) : Prop where
  | ahead (h : ml = false) (e : ar = a) (b : Below w0.heap.size w0 wr) : At mk w0 d obj ml a ar wr
  | made (b : Nat) (h : ml = true) (e : ar = a.put (some d) (mk b)) (b0 : w0.heap.size ≤ b) (hb : wr.heap[b]? = some obj) (bl : Below w0.heap.size w0 wr) : At mk w0 d obj ml a ar wr
theorem wpAny_of_anyB {n g : Nat} {d : Tmp} {L : Array Bool → Act → Prop} {Q' : Exit → Act → World → Prop} (hsel : ∀ (j : Nat) (o : Oper) cs b, ops[j]? = some o → o.op ≠ .select cs b)
    (ha : ops[ia]? = some oa) (hd : oa.dst = some d) (hg : oa.guard = none)
    (hap : ∀ j oj, j < n → j ≠ ia → ops[j]? = some oj → ap1 ops oa oj = true)
    (hL : ∀ listed a b w, L listed a → w0.heap.size ≤ b → w.heap[b]? = some obj → Below w0.heap.size w0 w → wpAny P md ops Q' g listed (a.put (some d) (mk b)) w)
    {I : Array Bool → Prop} (hT : Iv md ops n I) (hn : n < ops.size) (hia : ia < n)
    (hLl : ∀ listed a, L listed a → n ∈ Region.ready md ops listed) :
    ∀ (f : Nat) (listed : Array Bool) (a ar : Act) (wr : World), I listed → anyB mk P md ops w0 oa obj ia n L f listed a → At mk w0 d obj (listed.getD ia false) a ar wr → wpAny P md ops Q' (f + g) listed ar wr
  | 0, listed, a, ar, wr, inv, h, hat => by
    rw [Nat.zero_add]
    have hl : listed.getD ia false = true := by
      cases hl : listed.getD ia false with
      | true => rfl
      | false => exact absurd (hLl _ _ h) (hT.wait _ inv ia hia (getD_in (by rw [hT.size _ inv]; omega) hl) n (Nat.le_refl _))
    cases hat with
    | ahead h' => rw [hl] at h'; cases h'
    | made b h' e b0 hb bl => rw [e]; exact hL _ _ _ _ h b0 hb bl
  | f + 1, listed, a, ar, wr, inv, h, hat => by
    have hsz := (hT.size _ inv)
    rw [show f + 1 + g = (f + g) + 1 by omega]
    refine ⟨fun h0 => absurd h0 h.1, fun i hi => ?_⟩
    obtain ⟨hin, ho⟩ := h.2 i hi
    obtain ⟨hun, oi, hoi, _⟩ := mem_ready.1 hi
    have hilt : i < listed.size := by rw [hsz]; exact (Array.getElem?_eq_some_iff.1 hoi).1
    have hsz' : I (listed.setIfInBounds i true) := hT.set _ _ inv hi hin
    by_cases e : i = ia
    · rw [e] at hoi ho hun hilt hsz' ⊢
      rw [ha] at hoi
      injection hoi with hoi
      subst hoi
      unfold opB at ho
      rw [if_pos rfl] at ho
      unfold wpOp
      simp only [ha]
      have hw : Region.wanted oa (yielded ops ar.tmps) = true := by unfold Region.wanted; rw [hg]
      rw [if_pos hw]
      left
      cases hat with
      | made b h' => rw [getD_both hun] at h'; cases h'
      | ahead h' e' bl =>
        unfold Oper.wp
        rw [e', ho.1]
        simp only [Oper.upon]
        rw [hd]
        refine wpAny_of_anyB hsel ha hd hg hap hL hT hn hia hLl f _ a _ _ hsz' ho.2 (At.made wr.heap.size ?_ rfl bl.size ?_ (bl.alloc bl.size _))
        · simp [hilt]
        · show (wr.heap.push obj)[wr.heap.size]? = _
          simp
    · have hapj := hap i oi hin e hoi
      obtain ⟨h1, h2⟩ := ap1_spec hapj
      have hlia : (listed.setIfInBounds i true).getD ia false = listed.getD ia false := getD_set_ne false e
      obtain ⟨v, hy, hK⟩ := yb_of_op e hoi ho
      -- the frame of the run and the walk's give the operation the same
      have hsame : execOp ar.eval oi = execOp a.eval oi ∧ Region.wanted oi (yielded ops ar.tmps) = Region.wanted oi (yielded ops a.tmps) := by
        cases hat with
        | ahead h' e' bl => rw [e']; exact ⟨rfl, rfl⟩
        | made b h' e' b0 hb bl =>
          rw [e', ← hd]
          exact ⟨execOp_put oi (fun cs b => hsel i oi cs b hoi) a oa.dst _ h1, wanted_put oi a oa.dst _ h1⟩
      have hbl : Below w0.heap.size w0 wr := by cases hat <;> assumption
      have next : ∀ w', Below wr.heap.size wr w' → wpAny P md ops Q' (f + g) (listed.setIfInBounds i true) (ar.put oi.dst v) w' := fun w' hw' => by
        have hbl' : Below w0.heap.size w0 w' := hbl.trans (hw'.mono hbl.size)
        refine wpAny_of_anyB hsel ha hd hg hap hL hT hn hia hLl f _ (a.put oi.dst v) _ _ hsz' hK ?_
        rw [hlia]
        cases hat with
        | ahead h' e' bl => exact At.ahead h' (by rw [e']) hbl'
        | made b h' e' b0 hb bl =>
          refine At.made b h' ?_ b0 ?_ hbl'
          · rw [e', ← hd]; exact Act.put_comm a _ v h2
          · have hlt : b < wr.heap.size := by
              rcases Nat.lt_or_ge b wr.heap.size with h | h
              · exact h
              · rw [Array.getElem?_eq_none h] at hb; cases hb
            exact (hw'.block b hlt).trans hb
      unfold wpOp
      simp only [hoi]
      rw [hsame.2]
      rcases hy with ⟨hw, hq⟩ | ⟨hw, hv⟩
      · rw [if_pos hw]
        left
        have h3 := hq ⟨wr, hbl⟩
        unfold Oper.quietAt at h3
        unfold Oper.wp
        rw [hsame.1]
        generalize (execOp a.eval oi).run P wr = r at *
        cases r with
        | ok nx w' =>
          cases nx <;> simp only [Oper.quietUpon] at h3 <;> simp only [Oper.upon]
          case value u =>
            obtain ⟨e1, e2⟩ := h3
            rw [e1, e2]
            exact next _ (Below.refl _ _)
          case skip =>
            obtain ⟨e1, e2⟩ := h3
            rw [e1, ← e2]
            exact next _ (Below.refl _ _)
          case enter f' args =>
            obtain ⟨e1, hcl⟩ := h3
            rw [e1]
            exact hcl.mono fun e w'' ⟨he, hw''⟩ => by subst he; exact next _ hw''
        | halt x w' => simp only [Oper.quietUpon] at h3
      · rw [if_neg (by rw [hw]; exact Bool.false_ne_true), ← hv]
        exact next _ (Below.refl _ _)
def apB (ops : Array Oper) (ia n : Nat) : Bool := (List.range n).all fun j => j == ia || (match ops[ia]?, ops[j]? with
  | some x, some y => ap1 ops x y
  | _, _ => false)
/-- ONE WALK SERVES EVERY ORDER: a head of n operations that only read or call what turns nothing that was there, one of them (ia) making a variable; then a tail in its order -/
theorem wp_region_mk {id : Nat} {Q : Exit → Act → World → Prop} {a : Act} {w : World} {l : List Oper} (n ia : Nat) (d : Tmp) (mk : Nat → Value) (obj : Obj) (oa : Oper) (hm : P.follows .mixedOrders = true) (hB : Region.lexTailB .any l.toArray n = true) (hab : apB l.toArray ia n = true) (hia : ia < n)
    (ha : l[ia]? = some oa) (hd : oa.dst = some d) (hg : oa.guard = none)
    (h : wpB mk P l.toArray w oa obj ia (fun a' => ∀ (b : Nat) (x : Wd w.heap.size w), w.heap.size ≤ b → x.v.heap[b]? = some obj → wpList P l.toArray Q (l.drop n) (a'.put (some d) (mk b)) x.v) 0 (l.take n) a) : (Code.region id l.toArray true).wp P Q a w := by
  simp only [Region.lexTailB, Bool.and_eq_true, decide_eq_true_eq] at hB
  obtain ⟨⟨⟨⟨hsel, hn⟩, hs⟩, hc⟩, hlex⟩ := hB
  have hn' : n < l.length := by simpa using hn
  have htl : (l.take n).length = n := by simp; omega
  have hdl : (l.drop n).length = l.toArray.size - n := by simp
  have inv0 : HeadInv .any l.toArray n (Array.replicate l.toArray.size false) :=
    ⟨by simp, fun j oj _ hl => (by rw [getD_replicate_false] at hl; cases hl), fun t _ ht => getD_in (by simpa using ht) (getD_replicate_false _ _)⟩
  have H := anyB_lex (ia := ia) (oa := oa) (obj := obj) (md := .any) (g := l.toArray.size - n) (fun o' ho' => by rw [show l.toArray[ia]? = some oa by simpa using ha] at ho'; exact (Option.some.inj ho').symm) hsel (iv_of hs hc hn) hn (l.take n) 0 _ a (fun j hj => by
    have hj' : j < n := by rw [htl] at hj; exact hj
    simp [hj']) (by simpa using htl) inv0 (by rw [htl]; exact hlex) h
  refine wp_region_any hm ?_
  have := wpAny_of_anyB (Q' := Q) (g := l.toArray.size - n) (d := d) (obj := obj) (oa := oa) (Region.noSelect_spec hsel) (by simpa using ha) hd hg (fun j oj hj hne hoj => by
      have := List.all_eq_true.1 hab j (List.mem_range.2 hj)
      rw [show l.toArray[ia]? = some oa by simpa using ha, hoj] at this
      simpa [hne] using this)
    (fun listed a' b w' hL h1 h2 h3 => by
      have := wpAny_of_seq (md := .any) (Q' := Q) (l.drop n) n listed (a'.put (some d) (mk b)) w' (fun j => by simp [List.getElem?_drop]) (by rw [hdl]; exact hL.1) (hL.2 b ⟨w', h3⟩ h1 h2)
      rwa [hdl] at this) (iv_of hs hc hn) hn hia
    (fun listed a' hL => by
      have h1 := hL.1
      obtain ⟨g, hg'⟩ : ∃ g, l.toArray.size - n = g + 1 := ⟨l.toArray.size - n - 1, by omega⟩
      rw [hg'] at h1
      simp only [Region.seqB, Bool.and_eq_true, decide_eq_true_eq] at h1
      rw [h1.1]; simp)
    _ _ a a { w with drawn := w.drawn + 1 } inv0 H (At.ahead (getD_replicate_false _ _) rfl (Below.refl _ _).drew)
  rw [htl, show n + (l.toArray.size - n) = l.toArray.size by omega] at this
  exact this
theorem wp_region_made {id : Nat} {Q : Exit → Act → World → Prop} {a : Act} {w : World} {l : List Oper} (n ia : Nat) (d : Tmp) (obj : Obj) (oa : Oper) (hm : P.follows .mixedOrders = true) (hB : Region.lexTailB .any l.toArray n = true) (hab : apB l.toArray ia n = true) (hia : ia < n)
    (ha : l[ia]? = some oa) (hd : oa.dst = some d) (hg : oa.guard = none)
    (h : wpB (fun b => .pointer (some ⟨b, 0, none⟩)) P l.toArray w oa obj ia (fun a' => ∀ (b : Nat) (x : Wd w.heap.size w), w.heap.size ≤ b → x.v.heap[b]? = some obj → wpList P l.toArray Q (l.drop n) (a'.put (some d) (.pointer (some ⟨b, 0, none⟩))) x.v) 0 (l.take n) a) : (Code.region id l.toArray true).wp P Q a w := wp_region_mk n ia d _ obj oa hm hB hab hia ha hd hg h
theorem wpAny_of_anyB0 {n g : Nat} {L : Array Bool → Act → Prop} {Q' : Exit → Act → World → Prop}
    (hL : ∀ listed a w, L listed a → Below w0.heap.size w0 w → wpAny P md ops Q' g listed a w) (hia : ops.size ≤ ia) :
    ∀ (f : Nat) (listed : Array Bool) (a : Act) (wr : World), anyB mk P md ops w0 oa obj ia n L f listed a → Below w0.heap.size w0 wr → wpAny P md ops Q' (f + g) listed a wr
  | 0, listed, a, wr, h, hb => by rw [Nat.zero_add]; exact hL _ _ _ h hb
  | f + 1, listed, a, wr, h, hb => by
    rw [show f + 1 + g = (f + g) + 1 by omega]
    refine ⟨fun h0 => absurd h0 h.1, fun i hi => ?_⟩
    obtain ⟨hin, ho⟩ := h.2 i hi
    obtain ⟨hun, oi, hoi, _⟩ := mem_ready.1 hi
    have hilt : i < ops.size := (Array.getElem?_eq_some_iff.1 hoi).1
    obtain ⟨v, hy, hK⟩ := yb_of_op (show i ≠ ia by omega) hoi ho
    have next : ∀ w', Below wr.heap.size wr w' → wpAny P md ops Q' (f + g) (listed.setIfInBounds i true) (a.put oi.dst v) w' := fun w' hw' =>
      wpAny_of_anyB0 hL hia f _ _ _ hK (hb.trans (hw'.mono hb.size))
    unfold wpOp
    simp only [hoi]
    rcases hy with ⟨hw, hq⟩ | ⟨hw, hv⟩
    · rw [if_pos hw]
      left
      have h3 := hq ⟨wr, hb⟩
      unfold Oper.quietAt at h3
      unfold Oper.wp
      generalize (execOp a.eval oi).run P wr = r at *
      cases r with
      | ok nx w' =>
        cases nx <;> simp only [Oper.quietUpon] at h3 <;> simp only [Oper.upon]
        case value u =>
          obtain ⟨e1, e2⟩ := h3
          rw [e1, e2]
          exact next _ (Below.refl _ _)
        case skip =>
          obtain ⟨e1, e2⟩ := h3
          rw [e1, ← e2]
          exact next _ (Below.refl _ _)
        case enter f' args =>
          obtain ⟨e1, hcl⟩ := h3
          rw [e1]
          exact hcl.mono fun e w'' ⟨he, hw''⟩ => by subst he; exact next _ hw''
      | halt x w' => simp only [Oper.quietUpon] at h3
    · rw [if_neg (by rw [hw]; exact Bool.false_ne_true), ← hv]
      exact next _ (Below.refl _ _)
/-- the same with no variable made: a head that only reads or calls what turns nothing that was there; then a tail in its order -/
theorem wp_region_tail' {id : Nat} {Q : Exit → Act → World → Prop} {a : Act} {w : World} {l : List Oper} (n ia : Nat) (hm : P.follows .mixedOrders = true) (hB : Region.lexTailB .any l.toArray n = true) (hia : l.length ≤ ia)
    (h : wpB mk P l.toArray w oa obj ia (fun a' => ∀ x : Wd w.heap.size w, wpList P l.toArray Q (l.drop n) a' x.v) 0 (l.take n) a) : (Code.region id l.toArray true).wp P Q a w := by
  simp only [Region.lexTailB, Bool.and_eq_true, decide_eq_true_eq] at hB
  obtain ⟨⟨⟨⟨hsel, hn⟩, hs⟩, hc⟩, hlex⟩ := hB
  have hn' : n < l.length := by simpa using hn
  have htl : (l.take n).length = n := by simp; omega
  have hdl : (l.drop n).length = l.toArray.size - n := by simp
  have inv0 : HeadInv .any l.toArray n (Array.replicate l.toArray.size false) :=
    ⟨by simp, fun j oj _ hl => (by rw [getD_replicate_false] at hl; cases hl), fun t _ ht => getD_in (by simpa using ht) (getD_replicate_false _ _)⟩
  have H := anyB_lex (ia := ia) (oa := oa) (obj := obj) (md := .any) (g := l.toArray.size - n) (fun o' ho' => by rw [Array.getElem?_eq_none (by simpa using hia)] at ho'; cases ho') hsel (iv_of hs hc hn) hn (l.take n) 0 _ a (fun j hj => by
    have hj' : j < n := by rw [htl] at hj; exact hj
    simp [hj']) (by simpa using htl) inv0 (by rw [htl]; exact hlex) h
  refine wp_region_any hm ?_
  have := wpAny_of_anyB0 (Q' := Q) (g := l.toArray.size - n) (w0 := w)
    (fun listed a' w' hL h3 => by
      have := wpAny_of_seq (md := .any) (Q' := Q) (l.drop n) n listed a' w' (fun j => by simp [List.getElem?_drop]) (by rw [hdl]; exact hL.1) (hL.2 ⟨w', h3⟩)
      rwa [hdl] at this) (by simpa using hia)
    _ _ a { w with drawn := w.drawn + 1 } H (Below.refl _ _).drew
  rw [htl, show n + (l.toArray.size - n) = l.toArray.size by omega] at this
  exact this
def noOp : Oper := { dst := none, op := .move (.tmp 0), type := 0, pos := "", after := #[], guard := none }
def noObj : Obj := .cells #[] 0 (0, 0)
theorem wp_region_tail {id : Nat} {Q : Exit → Act → World → Prop} {a : Act} {w : World} {l : List Oper} (n ia : Nat) (hm : P.follows .mixedOrders = true) (hB : Region.lexTailB .any l.toArray n = true) (hia : l.length ≤ ia)
    (h : wpB (fun _ => undef) P l.toArray w noOp noObj ia (fun a' => ∀ x : Wd w.heap.size w, wpList P l.toArray Q (l.drop n) a' x.v) 0 (l.take n) a) : (Code.region id l.toArray true).wp P Q a w :=
  wp_region_tail' n ia hm hB hia h
theorem wpB_nil {Q : Act → Prop} {k : Nat} {a : Act} (h : Q a) : wpB mk P ops w0 oa obj ia Q k [] a := h
theorem wpB_skip {Q : Act → Prop} {k : Nat} {o : Oper} {rest : List Oper} {a : Act} (hk : k = ia) (hy : ya mk P oa obj a) (h : wpB mk P ops w0 oa obj ia Q (k + 1) rest a) : wpB mk P ops w0 oa obj ia Q k (o :: rest) a := by
  unfold wpB; rw [if_pos hk]; exact ⟨hy, h⟩
theorem wpB_step {Q : Act → Prop} {k : Nat} {o : Oper} {rest : List Oper} {a : Act} (hk : k ≠ ia) (hw : Region.wanted o (yielded ops a.tmps) = true) {v : Value} (hv : qAt P o a w0 v) (h : wpB mk P ops w0 oa obj ia Q (k + 1) rest (a.put o.dst v)) : wpB mk P ops w0 oa obj ia Q k (o :: rest) a := by
  unfold wpB; rw [if_neg hk, if_pos hw]; exact ⟨v, hv, h⟩
theorem wpB_pass {Q : Act → Prop} {k : Nat} {o : Oper} {rest : List Oper} {a : Act} (hk : k ≠ ia) (hw : Region.wanted o (yielded ops a.tmps) = false) (h : wpB mk P ops w0 oa obj ia Q (k + 1) rest (a.put o.dst undef)) : wpB mk P ops w0 oa obj ia Q k (o :: rest) a := by
  unfold wpB; rw [if_neg hk, if_neg (by rw [hw]; exact Bool.false_ne_true)]; exact h
end
theorem SsT {α : Type} : (∀ (l : List α) (i : Nat) (a : α), l.toArray.setIfInBounds i a = (l.set i a).toArray) ∧ (∀ (x a : α) (l : List α), (x :: l).set 0 a = a :: l) ∧ (∀ (x a : α) (l : List α) (i : Nat), (x :: l).set (i + 1) a = x :: l.set i a) := ⟨fun _ _ _ => List.setIfInBounds_toArray .., fun _ _ _ => rfl, fun _ _ _ _ => rfl⟩
theorem TkD {α : Type} : (∀ (i : Nat) (a : α) (l : List α), (a :: l).take (i + 1) = a :: l.take i) ∧ (∀ (l : List α), l.take 0 = []) ∧ (∀ (a : α) (l : List α) (i : Nat), (a :: l).drop (i + 1) = l.drop i) ∧ (∀ (l : List α), l.drop 0 = l) := ⟨fun _ _ _ => rfl, fun _ => rfl, fun _ _ _ => rfl, fun _ => rfl⟩
end Lr
end Go.Proofs.YtjmifcnfnihhnaaGreatDoor
/- AID: a whole struct stored into its variable. No program is named here. -/
set_option linter.unusedVariables false
set_option linter.unusedSimpArgs false
namespace Go.Proofs.YtjmifcnfnihhnaaGreatDoor
namespace Lr
open Go.RowKit

theorem sets_blk {b : Nat} {t : TypeId} : ∀ (vs : List Value) (o : Nat) (w : World) (arr : Array Value), w.heap[b]? = some (.cells arr t (0, 0)) → o + vs.length ≤ arr.size →
    ∃ arr', (w.setCells b o vs).heap[b]? = some (.cells arr' t (0, 0)) ∧ arr'.size = arr.size ∧ (∀ i, i < vs.length → arr'[o + i]? = vs[i]?) ∧ ∀ j, (j < o ∨ o + vs.length ≤ j) → arr'[j]? = arr[j]?
  | [], o, w, arr, h, _ => ⟨arr, h, rfl, fun i hi => absurd hi (Nat.not_lt_zero _), fun _ _ => rfl⟩
  | v :: r, o, w, arr, h, hl => by
    simp only [List.length_cons] at hl
    obtain ⟨arr', h1, h2, h3, h4⟩ := sets_blk r (o + 1) _ _ (lb_set h o v) (by rw [Array.size_setIfInBounds]; omega)
    refine ⟨arr', h1, by rw [h2, Array.size_setIfInBounds], fun i hi => ?_, fun j hj => ?_⟩
    · cases i with
      | zero =>
        rw [Nat.add_zero, h4 o (by omega), Array.getElem?_setIfInBounds_self_of_lt (by omega)]
        rfl
      | succ i =>
        simp only [List.length_cons] at hi
        rw [show o + (i + 1) = o + 1 + i by omega, h3 i (by omega)]
        rfl
    · simp only [List.length_cons] at hj
      rw [h4 j (by omega), Array.getElem?_setIfInBounds_ne (by omega)]
theorem Lone.sets {r : Nat} {w : World} : ∀ (vs : List Value) (o : Nat) (w1 : World), Lone r w w1 → Lone r w (w1.setCells r o vs)
  | [], _, _, h => h
  | v :: vs, o, w1, h => by rw [World.setCells]; exact Lone.sets vs (o + 1) _ (h.set o v)
theorem wpList_store_all {P : Program} {ops : Array Oper} {rest : List Oper} {op : Oper} {a : Act} {w : World} {Q : Exit → Act → World → Prop} {b : Nat} {arr : Array Value} {t : TypeId} (hb : w.heap[b]? = some (.cells arr t (0, 0))) (hgd : op.guard = none) (ty : TypeId) (x y : Operand) (ho : op.op = .store ty x y)
    (cells : Array Value) (hx : a.eval x = .pointer (some ⟨b, 0, none⟩)) (hy : a.eval y = .agg cells) (hsz : arr.size = cells.size)
    (hi : (P.info? ty).map (·.size) = some cells.size) (h1 : cells.all (·.oneCell') = true)
    (h : ∀ w', w'.heap[b]? = some (.cells cells t (0, 0)) → Lone b w w' → wpList P ops Q rest (a.put op.dst undef) w') : wpList P ops Q (op :: rest) a w := by
  refine wpList_store_mid hgd ty x y ho b 0 cells hx hy (fun j hj => ?_) hi h1 (h _ ?_ (Lone.sets _ _ _ (Lone.refl _ _)))
  · refine ⟨?_, lb_f hb _⟩
    rw [Nat.zero_add, (cells_of_block' hb j).1, Array.getElem?_eq_getElem (by omega)]
    rfl
  · obtain ⟨arr', e1, e2, e3, e4⟩ := sets_blk cells.toList 0 w arr hb (by simp; omega)
    rw [e1]
    have : arr' = cells := by
      apply Array.ext_getElem?
      intro i
      by_cases hl : i < cells.size
      · have := e3 i (by simpa using hl)
        rw [Nat.zero_add] at this
        rw [this]; simp
      · rw [Array.getElem?_eq_none (by omega), Array.getElem?_eq_none (by omega)]
    rw [this]
end Lr
end Go.Proofs.YtjmifcnfnihhnaaGreatDoor
/- WALKS: the document's rules; the code's Line, End. -/
set_option linter.unusedVariables false
set_option linter.unusedSimpArgs false
namespace Go.Proofs.YtjmifcnfnihhnaaGreatDoor
namespace Lr
namespace Li
end Li
open Go.RowKit Li

set_option maxRecDepth 100000 in
set_option maxHeartbeats 800000 in
theorem line_any {w : World} {g n c i nn cn nl cl : Nat} {an al : Option Addr} {a0 a1 a2 a3 a4 : Int} (hn : n ≤ 70000) (hi : i < n) (hc : n ≤ c) (hg : g < w.heap.size) (d0 : w.cell? ⟨g, i * 5, none⟩ = some (.int .i64 a0)) (d1 : w.cell? ⟨g, i * 5 + 1, none⟩ = some (.int .i64 a1)) (d2 : w.cell? ⟨g, i * 5 + 2, none⟩ = some (.int .i64 a2)) (d3 : w.cell? ⟨g, i * 5 + 3, none⟩ = some (.int .i64 a3)) (d4 : w.cell? ⟨g, i * 5 + 4, none⟩ = some (.int .i64 a4)) :
    Calls Tryz.prog 73 #[.agg #[.slice an nn cn, .slice al nl cl, .slice (some ⟨g, 0, none⟩) n c], .int .i64 i] w fun e w' => e = .returned (.agg #[.int .i64 a0, .int .i64 a1, .int .i64 a2, .int .i64 a3, .int .i64 a4]) ∧ Below w.heap.size w w' := by
  have hB : ∀ o1 o2 : Obj, Below w.heap.size w ((w.alloc o1).alloc o2) := fun o1 o2 => ((Below.refl _ _).alloc (Nat.le_refl _) _).alloc (by rw [World.size_alloc]; omega) _
  have e0 : ∀ o1 o2 : Obj, ((w.alloc o1).alloc o2).cell? ⟨g, i * 5, none⟩ = some (.int .i64 a0) := fun o1 o2 => ((hB o1 o2).cell (p := ⟨g, _, none⟩) hg).trans d0
  have e1 : ∀ o1 o2 : Obj, ((w.alloc o1).alloc o2).cell? ⟨g, i * 5 + 1, none⟩ = some (.int .i64 a1) := fun o1 o2 => ((hB o1 o2).cell (p := ⟨g, _, none⟩) hg).trans d1
  have e2 : ∀ o1 o2 : Obj, ((w.alloc o1).alloc o2).cell? ⟨g, i * 5 + 2, none⟩ = some (.int .i64 a2) := fun o1 o2 => ((hB o1 o2).cell (p := ⟨g, _, none⟩) hg).trans d2
  have e3 : ∀ o1 o2 : Obj, ((w.alloc o1).alloc o2).cell? ⟨g, i * 5 + 3, none⟩ = some (.int .i64 a3) := fun o1 o2 => ((hB o1 o2).cell (p := ⟨g, _, none⟩) hg).trans d3
  have e4 : ∀ o1 o2 : Obj, ((w.alloc o1).alloc o2).cell? ⟨g, i * 5 + 4, none⟩ = some (.int .i64 a4) := fun o1 o2 => ((hB o1 o2).cell (p := ⟨g, _, none⟩) hg).trans d4
  have HB : Hid (∀ o1 o2 : Obj, Below w.heap.size w ((w.alloc o1).alloc o2)) := hB
  have g1 : decide ((n : Int) ≤ (i : Int)) = false := by simp; omega
  have g2 : (i : Int) < (n : Int) := by omega
  clear hB d0 d1 d2 d3 d4
  go_enter Tryz.func73, Tryz.ntmps73
  go_wp2
  go_returns
  exact ⟨rfl, HB.out _ _⟩
end Lr
end Go.Proofs.YtjmifcnfnihhnaaGreatDoor
/- WALKS: one line of the machine: what it hands on. -/
set_option linter.unusedVariables false
set_option linter.unusedSimpArgs false
namespace Go.Proofs.YtjmifcnfnihhnaaGreatDoor
namespace Lo
open Go.RowKit Lr Lr.Li
theorem kiLn : (Tryz.prog.info? 99).map (·.size) = some 5 := by kernel_rfl
theorem zb_set {w : World} {b : Nat} {a : Array Value} {t : TypeId} {z : Nat × Nat} (h : w.heap[b]? = some (.cells a t z)) (i : Nat) (u : Value) : (w.setCell ⟨b, i, none⟩ u).heap[b]? = some (.cells (a.setIfInBounds i u) t z) := by
  unfold World.setCell
  rw [Array.getElem?_modify, if_pos rfl, h]
  rfl
theorem zb_ne {w : World} {b : Nat} (i : Nat) (u : Value) {j : Nat} (hj : j ≠ b) : (w.setCell ⟨b, i, none⟩ u).heap[j]? = w.heap[j]? := by
  unfold World.setCell
  rw [Array.getElem?_modify, if_neg (fun e => hj e.symm)]
theorem zb_lt {w : World} {b : Nat} {o : Obj} (h : w.heap[b]? = some o) : b < w.heap.size := by
  rcases Nat.lt_or_ge b w.heap.size with q | q
  · exact q
  · rw [Array.getElem?_eq_none q] at h; cases h
theorem set_size (w : World) (a : Addr) (u : Value) : (w.setCell a u).heap.size = w.heap.size := by simp [World.setCell]
set_option maxRecDepth 100000 in
set_option maxHeartbeats 1600000 in
theorem step_w {w : World} {r : Nat} {arr : Array Value} {ty : TypeId} {lo hi : Nat} (hb : w.heap[r]? = some (.cells arr ty (lo, hi))) (hz : lo = hi ∨ arr.size ≤ lo) {an0 an1 : Option Addr} {n0 c0' n1 c1' g nl cl N S op : Nat} {q x y p : Int}
    (a0 : arr[0]? = some (.slice an0 n0 c0')) (a1 : arr[1]? = some (.slice an1 n1 c1')) (a2 : arr[2]? = some (.slice (some ⟨g, 0, none⟩) nl cl)) (a5 : arr[5]? = some (.int .i64 (N : Nat))) (a33 : arr[33]? = some (.int .i64 (S : Nat)))
    (hgr : g ≠ r) (hgl : g < w.heap.size) (hNl : N < nl) (hnl : nl ≤ 70000) (hcl : nl ≤ cl) (hst : S ≤ 1000000)
    (d0 : w.cell? ⟨g, N * 5, none⟩ = some (.int .i64 (op : Nat))) (d1 : w.cell? ⟨g, N * 5 + 1, none⟩ = some (.int .i64 q)) (d2 : w.cell? ⟨g, N * 5 + 2, none⟩ = some (.int .i64 x)) (d3 : w.cell? ⟨g, N * 5 + 3, none⟩ = some (.int .i64 y)) (d4 : w.cell? ⟨g, N * 5 + 4, none⟩ = some (.int .i64 p))
    {Q : Ending → World → Prop} (hQ : ∀ e w', Q e w' → e = .returned (.tuple #[])) {fn : Nat} {args : Array Value}
    (hC : ∀ W : World, W.heap[r]? = some (.cells ((arr.setIfInBounds 33 (.int .i64 ((S : Int) + 1))).setIfInBounds 5 (.int .i64 ((N : Int) + 1))) ty (lo, hi)) → (∀ j, j < w.heap.size → j ≠ r → W.heap[j]? = w.heap[j]?) → Below 0 w W → Calls Tryz.prog fn args W Q)
    (hk : ((1 ≤ op ∧ op ≤ 6) ∧ fn = 74 ∧ args = #[.pointer (some ⟨r, 0, none⟩), .agg #[.int .i64 (op : Nat), .int .i64 q, .int .i64 x, .int .i64 y, .int .i64 p]]) ∨ ((7 ≤ op ∧ op ≤ 16) ∧ fn = 75 ∧ args = #[.pointer (some ⟨r, 0, none⟩), .agg #[.int .i64 (op : Nat), .int .i64 q, .int .i64 x, .int .i64 y, .int .i64 p]]) ∨ ((op = 17 ∨ op = 18) ∧ fn = 76 ∧ args = #[.pointer (some ⟨r, 0, none⟩), .agg #[.int .i64 (op : Nat), .int .i64 q, .int .i64 x, .int .i64 y, .int .i64 p]]) ∨ ((op = 19 ∨ op = 20 ∨ op = 23) ∧ fn = 77 ∧ args = #[.pointer (some ⟨r, 0, none⟩), .agg #[.int .i64 (op : Nat), .int .i64 q, .int .i64 x, .int .i64 y, .int .i64 p]]) ∨ ((21 ≤ op ∧ op ≤ 26 ∧ op ≠ 23) ∧ fn = 78 ∧ args = #[.pointer (some ⟨r, 0, none⟩), .agg #[.int .i64 (op : Nat), .int .i64 q, .int .i64 x, .int .i64 y, .int .i64 p]]) ∨ ((op = 27) ∧ fn = 79 ∧ args = #[.pointer (some ⟨r, 0, none⟩), .agg #[.int .i64 (op : Nat), .int .i64 q, .int .i64 x, .int .i64 y, .int .i64 p]]) ∨ ((op = 28) ∧ fn = 80 ∧ args = #[.pointer (some ⟨r, 0, none⟩), .agg #[.int .i64 (op : Nat), .int .i64 q, .int .i64 x, .int .i64 y, .int .i64 p]]) ∨ ((29 ≤ op ∧ op ≤ 32) ∧ fn = 81 ∧ args = #[.pointer (some ⟨r, 0, none⟩), .agg #[.int .i64 (op : Nat), .int .i64 q, .int .i64 x, .int .i64 y, .int .i64 p]]) ∨ ((op = 33) ∧ fn = 82 ∧ args = #[.pointer (some ⟨r, 0, none⟩)])) :
    Calls Tryz.prog 46 #[.pointer (some ⟨r, 0, none⟩)] w Q := by
  have HK := Lib.hid hk
  have HQ := Lib.hid hQ
  have HC := Lib.hid hC
  clear hk hQ hC
  have hlt := zb_lt hb
  have c33 : w.cell? ⟨r, 33, none⟩ = some (.int .i64 S) := (Ev.cell_of hb 33).trans a33
  have s34 : 33 < arr.size := (Array.getElem?_eq_some_iff.1 a33).1
  have z33 : w.frozen? ⟨r, 33, none⟩ = false := Ev.frozen_of hb hz s34
  have hb1 := zb_set hb 33 (.int .i64 ((S : Int) + 1))
  have hr1 : ∀ j, j ≠ r → (w.setCell ⟨r, 33, none⟩ (.int .i64 ((S : Int) + 1))).heap[j]? = w.heap[j]? := fun j hj => zb_ne 33 _ hj
  have hs1 : (w.setCell ⟨r, 33, none⟩ (.int .i64 ((S : Int) + 1))).heap.size = w.heap.size := set_size _ _ _
  have hl1 : Below 0 w (w.setCell ⟨r, 33, none⟩ (.int .i64 ((S : Int) + 1))) := (Below.refl 0 w).setCell (Nat.zero_le _) _
  obtain ⟨arr1, hA1⟩ : ∃ arr1, arr1 = arr.setIfInBounds 33 (.int .i64 ((S : Int) + 1)) := ⟨_, rfl⟩
  rw [← hA1] at hb1 HC
  have hz1 : lo = hi ∨ arr1.size ≤ lo := by rw [hA1, Array.size_setIfInBounds]; exact hz
  have k0 : arr1[0]? = some (.slice an0 n0 c0') := by rw [hA1, Array.getElem?_setIfInBounds_ne (by omega)]; exact a0
  have k1 : arr1[1]? = some (.slice an1 n1 c1') := by rw [hA1, Array.getElem?_setIfInBounds_ne (by omega)]; exact a1
  have k2 : arr1[2]? = some (.slice (some ⟨g, 0, none⟩) nl cl) := by rw [hA1, Array.getElem?_setIfInBounds_ne (by omega)]; exact a2
  have k5 : arr1[5]? = some (.int .i64 (N : Nat)) := by rw [hA1, Array.getElem?_setIfInBounds_ne (by omega)]; exact a5
  have CL : Hid (∀ W', Below (w.setCell ⟨r, 33, none⟩ (.int .i64 ((S : Int) + 1))).heap.size (w.setCell ⟨r, 33, none⟩ (.int .i64 ((S : Int) + 1))) W' → Calls Tryz.prog 73 #[.agg #[.slice an0 n0 c0', .slice an1 n1 c1', .slice (some ⟨g, 0, none⟩) nl cl], .int .i64 (N : Nat)] W' fun e w' => e = .returned (.agg #[.int .i64 (op : Nat), .int .i64 q, .int .i64 x, .int .i64 y, .int .i64 p]) ∧ Below W'.heap.size W' w') := fun W' hW => by
    have hg' : W'.heap[g]? = w.heap[g]? := (hW.block g (by rw [hs1]; exact hgl)).trans (hr1 g hgr)
    have key : ∀ i v, w.cell? ⟨g, i, none⟩ = some v → W'.cell? ⟨g, i, none⟩ = some v := fun i v hv => by
      rw [World.cell?_of_block (w := w) (a := ⟨g, i, none⟩) hg']; exact hv
    have hs2 := hW.size
    exact line_any hnl hNl hcl (by omega) (key _ _ d0) (key _ _ d1) (key _ _ d2) (key _ _ d3) (key _ _ d4)
  clear d0 d1 d2 d3 d4 a0 a1 a2 a5 a33 hb hz hcl
  have hNb : N ≤ 70000 := by omega
  clear hNl hnl
  go_enter Tryz.func46, Tryz.ntmps46
  go_upto_region 1 with fail
  generalize w.setCell ⟨r, 33, none⟩ (.int .i64 ((S : Int) + 1)) = W at hb1 hr1 hs1 hl1 CL ⊢
  have hrl : r < W.heap.size := zb_lt hb1
  have e0 : ∀ yy : Wd W.heap.size W, yy.v.cell? ⟨r, 0, none⟩ = some (.slice an0 n0 c0') := fun yy => (yy.h.cell (p := ⟨r, 0, none⟩) hrl).trans ((Ev.cell_of hb1 0).trans k0)
  have e1 : ∀ yy : Wd W.heap.size W, yy.v.cell? ⟨r, 1, none⟩ = some (.slice an1 n1 c1') := fun yy => (yy.h.cell (p := ⟨r, 1, none⟩) hrl).trans ((Ev.cell_of hb1 1).trans k1)
  have e2 : ∀ yy : Wd W.heap.size W, yy.v.cell? ⟨r, 2, none⟩ = some (.slice (some ⟨g, 0, none⟩) nl cl) := fun yy => (yy.h.cell (p := ⟨r, 2, none⟩) hrl).trans ((Ev.cell_of hb1 2).trans k2)
  have e5 : ∀ yy : Wd W.heap.size W, yy.v.cell? ⟨r, 5, none⟩ = some (.int .i64 N) := fun yy => (yy.h.cell (p := ⟨r, 5, none⟩) hrl).trans ((Ev.cell_of hb1 5).trans k5)
  haveI := Wd.ne
  clear c33 z33
  have HS1 := Lib.hid hs1
  have HL1 := Lib.hid hl1
  clear hs1 hl1
  have HB1 := Lib.hid hb1
  have HR1 := Lib.hid hr1
  have HA1 := Lib.hid hA1
  clear hb1 hr1 hA1
  refine wp_region_made 10 9 2 (.cells #[.int .i64 0, .int .i64 0, .int .i64 0, .int .i64 0, .int .i64 0] 99 (0, 0)) _ (by kernel_rfl) (by kernel_rfl) (by kernel_rfl) (by decide) rfl rfl rfl ?_
  simp only [TkD]
  iterate 8
   apply wpB_step (by decide) (by rfl)
   · intro yy; go_simp; all_goals with_reducible rfl
   simp only [Act.put, SsT]
  refine wpB_step (by decide) (by rfl) (v := ?v8) ?hv8 ?_
  case hv8 => (intro yy; go_simp; exact CL.out _ yy.h)
  simp only [Act.put, SsT]
  refine wpB_skip (by decide) (fun w => by kernel_rfl) ?_
  refine wpB_nil ?_
  intro b yy hb hbk
  refine wpList_store_all hbk rfl 99 (.tmp 2) (.tmp 18) rfl #[.int .i64 (op : Nat), .int .i64 q, .int .i64 x, .int .i64 y, .int .i64 p] rfl rfl rfl kiLn (all_oneCell_toArray (by intro u hu; simp at hu; rcases hu with rfl | rfl | rfl | rfl | rfl <;> rfl)) ?_
  intro w2 hbk2 hlo
  have hbw2 : Below W.heap.size W w2 := yy.h.trans (hlo.below.mono hb)
  have hb2 : w2.heap[r]? = some (.cells arr1 ty (lo, hi)) := (hbw2.block r hrl).trans HB1.out
  have f5 : w2.cell? ⟨r, 5, none⟩ = some (.int .i64 N) := (Ev.cell_of hb2 5).trans k5
  have z5 : w2.frozen? ⟨r, 5, none⟩ = false := Ev.frozen_of hb2 hz1 (Array.getElem?_eq_some_iff.1 k5).1
  have hs1 := HS1.out
  have hl1 := HL1.out
  have hbr : b ≠ r := by omega
  have hbr' : r ≠ b := Ne.symm hbr
  have hln : (w2.setCell ⟨r, 5, none⟩ (.int .i64 ((N : Int) + 1))).heap[b]? = some (.cells #[.int .i64 (op : Nat), .int .i64 q, .int .i64 x, .int .i64 y, .int .i64 p] 99 (0, 0)) := (zb_ne 5 _ hbr).trans hbk2
  have hb3 := zb_set hb2 5 (.int .i64 ((N : Int) + 1))
  have hr3 : ∀ j, j < w.heap.size → j ≠ r → (w2.setCell ⟨r, 5, none⟩ (.int .i64 ((N : Int) + 1))).heap[j]? = w.heap[j]? := fun j hj hjr => (zb_ne 5 _ hjr).trans ((hbw2.block j (by omega)).trans (HR1.out j hjr))
  have hl3 : Below 0 w (w2.setCell ⟨r, 5, none⟩ (.int .i64 ((N : Int) + 1))) := (hl1.trans (hbw2.mono (Nat.zero_le _))).setCell (Nat.zero_le _) _
  have hs2 := zb_lt hbk2
  clear hlo hbk hb2 hs1 hl1
  go_upto_region 4 with fail
  have HB3 := Lib.hid hb3
  have HR3 := Lib.hid hr3
  have HL3 := Lib.hid hl3
  generalize w2.setCell ⟨r, 5, none⟩ (.int .i64 ((N : Int) + 1)) = W3 at HB3 HR3 HL3 hln ⊢
  have q0 : W3.cell? ⟨b, 0, none⟩ = some (.int .i64 (op : Nat)) := lb_at hln 0 rfl
  have q1 : W3.cell? ⟨b, 1, none⟩ = some (.int .i64 q) := lb_at hln 1 rfl
  have q2 : W3.cell? ⟨b, 2, none⟩ = some (.int .i64 x) := lb_at hln 2 rfl
  have q3 : W3.cell? ⟨b, 3, none⟩ = some (.int .i64 y) := lb_at hln 3 rfl
  have q4 : W3.cell? ⟨b, 4, none⟩ = some (.int .i64 p) := lb_at hln 4 rfl
  clear hb3 hr3 hl3 hln hbk2 f5 z5
  rcases HK.out with ⟨hop, rfl, rfl⟩ | ⟨hop, rfl, rfl⟩ | ⟨hop, rfl, rfl⟩ | ⟨hop, rfl, rfl⟩ | ⟨hop, rfl, rfl⟩ | ⟨hop, rfl, rfl⟩ | ⟨hop, rfl, rfl⟩ | ⟨hop, rfl, rfl⟩ | ⟨hop, rfl, rfl⟩
  · clear HK
    have a1 : decide ((1 : Int) ≤ (op : Int)) = true := by simp; omega
    have b6 : decide ((op : Int) ≤ (6 : Int)) = true := by simp; omega
    clear hop
    go_wp2_with (first
      | (go_at_call 74; refine (HC.out _ HB3.out HR3.out HL3.out).mono ?_; intro e4 w4 hq4; have he4 := HQ.out _ _ hq4; subst he4))
    go_returns
    exact hq4
  · clear HK
    have a1 : decide ((1 : Int) ≤ (op : Int)) = true := by simp; omega
    have b6 : decide ((op : Int) ≤ (6 : Int)) = false := by simp; omega
    have a7 : decide ((7 : Int) ≤ (op : Int)) = true := by simp; omega
    have b16 : decide ((op : Int) ≤ (16 : Int)) = true := by simp; omega
    clear hop
    go_wp2_with (first
      | (go_at_call 75; refine (HC.out _ HB3.out HR3.out HL3.out).mono ?_; intro e4 w4 hq4; have he4 := HQ.out _ _ hq4; subst he4))
    go_returns
    exact hq4
  · clear HK
    have a1 : decide ((1 : Int) ≤ (op : Int)) = true := by simp; omega
    have b6 : decide ((op : Int) ≤ (6 : Int)) = false := by simp; omega
    have a7 : decide ((7 : Int) ≤ (op : Int)) = true := by simp; omega
    have b16 : decide ((op : Int) ≤ (16 : Int)) = false := by simp; omega
    rcases hop with rfl | rfl
    all_goals
      go_wp2_with (first
        | (go_at_call 76; refine (HC.out _ HB3.out HR3.out HL3.out).mono ?_; intro e4 w4 hq4; have he4 := HQ.out _ _ hq4; subst he4))
      go_returns
      exact hq4
  · clear HK
    have a1 : decide ((1 : Int) ≤ (op : Int)) = true := by simp; omega
    have b6 : decide ((op : Int) ≤ (6 : Int)) = false := by simp; omega
    have a7 : decide ((7 : Int) ≤ (op : Int)) = true := by simp; omega
    have b16 : decide ((op : Int) ≤ (16 : Int)) = false := by simp; omega
    have c17 : ((op : Int) == 17) = false := by simp; omega
    have c18 : ((op : Int) == 18) = false := by simp; omega
    rcases hop with rfl | rfl | rfl
    all_goals
      go_wp2_with (first
        | (go_at_call 77; refine (HC.out _ HB3.out HR3.out HL3.out).mono ?_; intro e4 w4 hq4; have he4 := HQ.out _ _ hq4; subst he4))
      go_returns
      exact hq4
  · clear HK
    have a1 : decide ((1 : Int) ≤ (op : Int)) = true := by simp; omega
    have b6 : decide ((op : Int) ≤ (6 : Int)) = false := by simp; omega
    have a7 : decide ((7 : Int) ≤ (op : Int)) = true := by simp; omega
    have b16 : decide ((op : Int) ≤ (16 : Int)) = false := by simp; omega
    have c17 : ((op : Int) == 17) = false := by simp; omega
    have c18 : ((op : Int) == 18) = false := by simp; omega
    have c19 : ((op : Int) == 19) = false := by simp; omega
    have c20 : ((op : Int) == 20) = false := by simp; omega
    have c23 : ((op : Int) == 23) = false := by simp; omega
    have a21 : decide ((21 : Int) ≤ (op : Int)) = true := by simp; omega
    have b26 : decide ((op : Int) ≤ (26 : Int)) = true := by simp; omega
    clear hop
    go_wp2_with (first
      | (go_at_call 78; refine (HC.out _ HB3.out HR3.out HL3.out).mono ?_; intro e4 w4 hq4; have he4 := HQ.out _ _ hq4; subst he4))
    go_returns
    exact hq4
  · clear HK
    have a1 : decide ((1 : Int) ≤ (op : Int)) = true := by simp; omega
    have b6 : decide ((op : Int) ≤ (6 : Int)) = false := by simp; omega
    have a7 : decide ((7 : Int) ≤ (op : Int)) = true := by simp; omega
    have b16 : decide ((op : Int) ≤ (16 : Int)) = false := by simp; omega
    have c17 : ((op : Int) == 17) = false := by simp; omega
    have c18 : ((op : Int) == 18) = false := by simp; omega
    have c19 : ((op : Int) == 19) = false := by simp; omega
    have c20 : ((op : Int) == 20) = false := by simp; omega
    have c23 : ((op : Int) == 23) = false := by simp; omega
    have a21 : decide ((21 : Int) ≤ (op : Int)) = true := by simp; omega
    have b26 : decide ((op : Int) ≤ (26 : Int)) = false := by simp; omega
    have c27 : ((op : Int) == 27) = true := by simp; omega
    clear hop
    go_wp2_with (first
      | (go_at_call 79; refine (HC.out _ HB3.out HR3.out HL3.out).mono ?_; intro e4 w4 hq4; have he4 := HQ.out _ _ hq4; subst he4))
    go_returns
    exact hq4
  · clear HK
    have a1 : decide ((1 : Int) ≤ (op : Int)) = true := by simp; omega
    have b6 : decide ((op : Int) ≤ (6 : Int)) = false := by simp; omega
    have a7 : decide ((7 : Int) ≤ (op : Int)) = true := by simp; omega
    have b16 : decide ((op : Int) ≤ (16 : Int)) = false := by simp; omega
    have c17 : ((op : Int) == 17) = false := by simp; omega
    have c18 : ((op : Int) == 18) = false := by simp; omega
    have c19 : ((op : Int) == 19) = false := by simp; omega
    have c20 : ((op : Int) == 20) = false := by simp; omega
    have c23 : ((op : Int) == 23) = false := by simp; omega
    have a21 : decide ((21 : Int) ≤ (op : Int)) = true := by simp; omega
    have b26 : decide ((op : Int) ≤ (26 : Int)) = false := by simp; omega
    have c27 : ((op : Int) == 27) = false := by simp; omega
    have c28 : ((op : Int) == 28) = true := by simp; omega
    clear hop
    go_wp2_with (first
      | (go_at_call 80; refine (HC.out _ HB3.out HR3.out HL3.out).mono ?_; intro e4 w4 hq4; have he4 := HQ.out _ _ hq4; subst he4))
    go_returns
    exact hq4
  · clear HK
    have a1 : decide ((1 : Int) ≤ (op : Int)) = true := by simp; omega
    have b6 : decide ((op : Int) ≤ (6 : Int)) = false := by simp; omega
    have a7 : decide ((7 : Int) ≤ (op : Int)) = true := by simp; omega
    have b16 : decide ((op : Int) ≤ (16 : Int)) = false := by simp; omega
    have c17 : ((op : Int) == 17) = false := by simp; omega
    have c18 : ((op : Int) == 18) = false := by simp; omega
    have c19 : ((op : Int) == 19) = false := by simp; omega
    have c20 : ((op : Int) == 20) = false := by simp; omega
    have c23 : ((op : Int) == 23) = false := by simp; omega
    have a21 : decide ((21 : Int) ≤ (op : Int)) = true := by simp; omega
    have b26 : decide ((op : Int) ≤ (26 : Int)) = false := by simp; omega
    have c27 : ((op : Int) == 27) = false := by simp; omega
    have c28 : ((op : Int) == 28) = false := by simp; omega
    have a29 : decide ((29 : Int) ≤ (op : Int)) = true := by simp; omega
    have b32 : decide ((op : Int) ≤ (32 : Int)) = true := by simp; omega
    clear hop
    go_wp2_with (first
      | (go_at_call 81; refine (HC.out _ HB3.out HR3.out HL3.out).mono ?_; intro e4 w4 hq4; have he4 := HQ.out _ _ hq4; subst he4))
    go_returns
    exact hq4
  · clear HK
    have a1 : decide ((1 : Int) ≤ (op : Int)) = true := by simp; omega
    have b6 : decide ((op : Int) ≤ (6 : Int)) = false := by simp; omega
    have a7 : decide ((7 : Int) ≤ (op : Int)) = true := by simp; omega
    have b16 : decide ((op : Int) ≤ (16 : Int)) = false := by simp; omega
    have c17 : ((op : Int) == 17) = false := by simp; omega
    have c18 : ((op : Int) == 18) = false := by simp; omega
    have c19 : ((op : Int) == 19) = false := by simp; omega
    have c20 : ((op : Int) == 20) = false := by simp; omega
    have c23 : ((op : Int) == 23) = false := by simp; omega
    have a21 : decide ((21 : Int) ≤ (op : Int)) = true := by simp; omega
    have b26 : decide ((op : Int) ≤ (26 : Int)) = false := by simp; omega
    have c27 : ((op : Int) == 27) = false := by simp; omega
    have c28 : ((op : Int) == 28) = false := by simp; omega
    have a29 : decide ((29 : Int) ≤ (op : Int)) = true := by simp; omega
    have b32 : decide ((op : Int) ≤ (32 : Int)) = false := by simp; omega
    have c33 : ((op : Int) == 33) = true := by simp; omega
    clear hop
    go_wp2_with (first
      | (go_at_call 82; refine (HC.out _ HB3.out HR3.out HL3.out).mono ?_; intro e4 w4 hq4; have he4 := HQ.out _ _ hq4; subst he4))
    go_returns
    exact hq4

end Lo
end Go.Proofs.YtjmifcnfnihhnaaGreatDoor
/- WALKS: frames of the emitter: newFrame, reads. -/
set_option linter.unusedVariables false
set_option linter.unusedSimpArgs false
namespace Go.Proofs.YtjmifcnfnihhnaaGreatDoor
namespace Lo
open Go.RowKit Lr
/-! on the machine's numbers -/
theorem i64_w (n : Int) (h0 : 0 ≤ n) (h1 : n < 2 ^ 62) : IntKind.i64.wrap n = n := by rw [IntKind.wrap_i64]; omega
theorem i64_and (a b : Nat) (ha : a < 2 ^ 62) (hb : b < 2 ^ 62) : bits .and .i64 (a : Int) (b : Int) = ((a &&& b : Nat) : Int) := (bits_nat .i64 62 (by decide) i64_w a b ha hb).1
theorem and63 (n : Nat) (h : n < 2 ^ 62) : bits BinOp.and IntKind.i64 (n : Int) 63 = ((n % 64 : Nat) : Int) := by
  have := i64_and n 63 h (by decide)
  rw [show (63 : Nat) = 2 ^ 6 - 1 from rfl, Nat.and_two_pow_sub_one_eq_mod] at this
  exact this
structure S7 where
  a0 : BitVec 64
  a1 : BitVec 64
  a2 : BitVec 64
  a3 : BitVec 64
  a4 : BitVec 64
  a5 : BitVec 64
  a6 : BitVec 64
def S7.g (s : S7) : Nat → BitVec 64
  | 0 => s.a0
  | 1 => s.a1
  | 2 => s.a2
  | 3 => s.a3
  | 4 => s.a4
  | 5 => s.a5
  | 6 => s.a6
  | _ => 0
def has (s : S7) (b : Int) : Bool := decide (0 ≤ b) && (decide (b < 448) && decide ((s.g (b.toNat / 64)).toNat / 2 ^ (b.toNat % 64) % 2 = 1))
theorem blk_new' {w : World} {o : Obj} {b : Nat} (h : b = w.heap.size) : (w.alloc o).heap[b]? = some o := by subst h; exact lb_new w o
def sc (s : S7) : Array Value := #[.int .u64 (s.a0.toNat : Int), .int .u64 (s.a1.toNat : Int), .int .u64 (s.a2.toNat : Int), .int .u64 (s.a3.toNat : Int), .int .u64 (s.a4.toNat : Int), .int .u64 (s.a5.toNat : Int), .int .u64 (s.a6.toNat : Int)]
theorem sc_at (s : S7) : ∀ {j : Nat}, j < 7 → (sc s)[j]? = some (.int .u64 ((s.g j).toNat : Int))
  | 0, _ => rfl
  | 1, _ => rfl
  | 2, _ => rfl
  | 3, _ => rfl
  | 4, _ => rfl
  | 5, _ => rfl
  | 6, _ => rfl
  | n + 7, h => by omega
theorem has_neg {s : S7} {b : Int} (h : b < 0) : has s b = false := by
  unfold has
  rw [decide_eq_false (by omega)]; rfl
theorem has_big {s : S7} {b : Int} (h : 448 ≤ b) : has s b = false := by
  unfold has
  rw [decide_eq_false (p := b < 448) (by omega)]; simp
theorem has_nat {s : S7} {n : Nat} (h : n < 448) : has s (n : Int) = decide ((s.g (n / 64)).toNat / 2 ^ (n % 64) % 2 = 1) := by
  unfold has
  rw [decide_eq_true (by omega), decide_eq_true (by omega)]; rfl
set_option maxRecDepth 100000 in
theorem has_any {s : S7} {b : Int} {w : World} (hb : -100000 ≤ b ∧ b ≤ 100000) : Calls Tryz.prog 55 #[.agg (sc s), .int .i64 b] w fun e w' => e = .returned (.bool (has s b)) ∧ Below w.heap.size w w' := by
  have hB := (Below.refl w.heap.size w).alloc (Nat.le_refl _) (.cells (sc s) 134)
  rcases Int.lt_or_le b 0 with h0 | h0
  · rw [has_neg h0]
    go_enter Tryz.func55, Tryz.ntmps55
    go_wp2
    go_ret
    exact ⟨rfl, hB⟩
  · obtain ⟨n, rfl⟩ := Int.eq_ofNat_of_zero_le h0
    rcases Nat.lt_or_ge n 448 with h7 | h7
    · rw [has_nat h7]
      have h1 := and63 n (by omega)
      have hj : n / 64 < 7 := by omega
      have hq : n % 64 < 64 := by omega
      have hc : ((w.alloc (.cells (sc s) 134))).cell? ⟨w.heap.size, n / 64, none⟩ = some (.int .u64 ((s.g (n / 64)).toNat : Int)) := lb_at (blk_new' rfl) _ (sc_at s hj)
      obtain ⟨M, hM⟩ : ∃ M : Nat, (s.g (n / 64)).toNat = M := ⟨_, rfl⟩
      have hlt : M < 18446744073709551616 := by rw [← hM]; exact (s.g (n / 64)).isLt
      obtain ⟨R, HR⟩ : ∃ R : Bool, Hid (decide (M / 2 ^ (n % 64) % 2 = 1) = R) := ⟨_, rfl⟩
      rw [hM] at hc ⊢
      rw [HR.out]
      obtain ⟨j, hj'⟩ : ∃ j, n / 64 = j := ⟨_, rfl⟩
      obtain ⟨q, hq'⟩ : ∃ q, n % 64 = q := ⟨_, rfl⟩
      rw [hj'] at hc hj
      rw [hq'] at h1 hq HR
      have hj3 : (n : Int) / 64 = (j : Int) := by omega
      clear hj' hq' hM
      obtain ⟨A, hA⟩ : ∃ A, sc s = A := ⟨_, rfl⟩
      rw [hA] at hc hB ⊢
      clear hA
      go_enter Tryz.func55, Tryz.ntmps55
      go_wp2
      go_ret
      refine ⟨ret_bool' ?_, hB⟩
      have hd : M / 2 ^ q < 18446744073709551616 := Nat.lt_of_le_of_lt (Nat.div_le_self _ _) hlt
      rw [← HR.out, show ((M : Int) / 2 ^ q) = ((M / 2 ^ q : Nat) : Int) by simp, show (1 : Int) = ((1 : Nat) : Int) from rfl, u64_and_nat _ _ hd (by decide), Nat.and_one_is_mod, Bool.eq_iff_iff]
      generalize M / 2 ^ q = z
      simp
      omega
    · rw [has_big (by omega)]
      go_enter Tryz.func55, Tryz.ntmps55
      go_wp2
      go_ret
      exact ⟨rfl, hB⟩

abbrev m1 : Value := .int .i64 (-1)
/-- a frame's cells, the first i homes of which are nowhere -/
structure Fr (arr : Array Value) (i : Nat) : Prop where
  sz : arr.size = 802
  lo : ∀ j, j < 2 * i → arr[j]? = some m1
  hi : ∀ j, 2 * i ≤ j → j < 802 → arr[j]? = some (.int .i64 0)
theorem Fr.next {arr : Array Value} {i : Nat} (h : Fr arr i) (hi : i < 400) : Fr ((arr.setIfInBounds (i * 2) m1).setIfInBounds (i * 2 + 1) m1) (i + 1) := by
  have hs := h.sz
  refine ⟨by simp [hs], fun j hj => ?_, fun j h1 h2 => ?_⟩
  · by_cases e1 : j = i * 2 + 1
    · subst e1
      rw [Array.getElem?_setIfInBounds_self_of_lt (by simp; omega)]
    · rw [Array.getElem?_setIfInBounds_ne (fun e => e1 e.symm)]
      by_cases e2 : j = i * 2
      · subst e2
        rw [Array.getElem?_setIfInBounds_self_of_lt (by omega)]
      · rw [Array.getElem?_setIfInBounds_ne (fun e => e2 e.symm)]
        exact h.lo j (by omega)
  · rw [Array.getElem?_setIfInBounds_ne (by omega), Array.getElem?_setIfInBounds_ne (by omega)]
    exact h.hi j (by omega) h2
theorem zf_list : Tryz.zeroCells146.toList = List.replicate 802 (Value.int .i64 0) := by kernel_rfl
theorem zf_fr : Fr Tryz.zeroCells146 0 := by
  have hs : Tryz.zeroCells146.size = 802 := by rw [← Array.length_toList, zf_list, List.length_replicate]
  refine ⟨hs, fun j hj => absurd hj (by omega), fun j _ hj => ?_⟩
  rw [← Array.getElem?_toList, zf_list, List.getElem?_replicate, if_pos hj]
set_option maxRecDepth 100000 in
theorem newFrame_w (w : World) : Calls Tryz.prog 53 #[] w fun e w' => e = .returned (.pointer (some ⟨w.heap.size, 0, none⟩)) ∧ (∃ arr, w'.heap[w.heap.size]? = some (.cells arr 146 (0, 0)) ∧ Fr arr 400) ∧ Below w.heap.size w w' := by
  have HB0 := Lib.hid ((Below.refl w.heap.size w).alloc (Nat.le_refl _) (.cells Tryz.zeroCells146 146))
  go_enter Tryz.func53, Tryz.ntmps53
  go_wp2_with fail
  go_loopg [2] 400 (fun gh u (wr : World) => ∃ (i : Nat) (arr : Array Value), i ≤ 400 ∧ gh = 400 - i ∧ u = .int .i64 (i : Nat) ∧ wr.heap[w.heap.size]? = some (.cells arr 146 (0, 0)) ∧ Fr arr i ∧ Below w.heap.size w wr)
  case atStart => exact ⟨0, _, Nat.zero_le _, rfl, rfl, lb_new w _, zf_fr, HB0.out⟩
  case round =>
    obtain ⟨i, arr, hi, hgk, rfl, hb, hf, hB⟩ := hrel
    have HF := Lib.hid hf
    have HBl := Lib.hid hB
    have HBb := Lib.hid hb
    have hlt := zb_lt hb
    clear hB
    rcases Nat.lt_or_ge i 400 with hi4 | hi4
    · have hsz := hf.sz
      have g1 : (i : Int) < 400 := by omega
      have e0 : wr.cell? ⟨w.heap.size, i * 2, none⟩ = some (.int .i64 0) := lb_at hb _ (hf.hi _ (by omega) (by omega))
      have e1 : wr.cell? ⟨w.heap.size, i * 2 + 1, none⟩ = some (.int .i64 0) := lb_at hb _ (hf.hi _ (by omega) (by omega))
      have f0 := lb_f hb (i * 2)
      have f1 := lb_f hb (i * 2 + 1)
      clear hb hf hsz
      go_wp2_with fail
      go_roundg (400 - (i + 1))
      case measure => omega
      case rel =>
        refine ⟨i + 1, _, by omega, rfl, by go_num, lb_set (lb_set HBb.out (i * 2) m1) (i * 2 + 1) m1, HF.out.next hi4, ?_⟩
        exact (HBl.out.setCell (p := ⟨w.heap.size, i * 2, none⟩) (Nat.le_refl _) _).setCell (p := ⟨w.heap.size, i * 2 + 1, none⟩) (Nat.le_refl _) _
    · have g1 : ¬ (i : Int) < 400 := by omega
      have hi' : i = 400 := by omega
      clear hb hf
      go_wp2_with fail
      go_ret
      exact ⟨rfl, ⟨arr, HBb.out, by rw [← hi']; exact HF.out⟩, HBl.out⟩
/-- do some of the bindings lie in the slot? -/
def rdB (hs : Nat → Int) (s : S7) (slot : Int) : Nat → Bool
  | 0 => false
  | n + 1 => rdB hs s slot n || (hs n == slot && has s (n : Int))
set_option maxRecDepth 100000 in
theorem reads_w {w : World} {b : Nat} {hs : Nat → Int} {s : S7} {slot : Int} (hb : b < w.heap.size) (hc : ∀ i, i < 400 → w.cell? ⟨b, i * 2, none⟩ = some (.int .i64 (hs i))) :
    Calls Tryz.prog 211 #[.pointer (some ⟨b, 0, none⟩), .agg (sc s), .int .i64 slot] w fun e w' => e = .returned (.bool (rdB hs s slot 400)) ∧ Below w.heap.size w w' := by
  have HC := Lib.hid hc
  clear hc
  have HB0 := Lib.hid ((Below.refl w.heap.size w).alloc (Nat.le_refl _) (.cells (sc s) 134))
  have hbk := blk_new' (w := w) (o := .cells (sc s) 134) rfl
  have HH : Hid (∀ (i : Nat) (W : World), i < 400 → Calls Tryz.prog 55 #[.agg (sc s), .int .i64 (i : Nat)] W fun e w' => e = .returned (.bool (has s (i : Int))) ∧ Below W.heap.size W w') := fun i W hi => has_any (by omega)
  have HBK := Lib.hid hbk
  clear hbk
  go_enter Tryz.func211, Tryz.ntmps211
  go_wp2_with fail
  go_loopg [7] 400 (fun gh u (wr : World) => ∃ (i : Nat), i ≤ 400 ∧ gh = 400 - i ∧ u = .int .i64 (i : Nat) ∧ rdB hs s slot i = false ∧ Below w.heap.size w wr ∧ wr.heap[w.heap.size]? = some (.cells (sc s) 134 (0, 0)))
  case atStart => exact ⟨0, Nat.zero_le _, rfl, rfl, rfl, HB0.out, HBK.out⟩
  case round =>
    obtain ⟨i, hi, hgk, rfl, hR, hB, hk⟩ := hrel
    have HR := Lib.hid hR
    have HBl := Lib.hid hB
    have HKb := Lib.hid hk
    clear hR hB hk
    rcases Nat.lt_or_ge i 400 with hi4 | hi4
    · have g1 : (i : Int) < 400 := by omega
      have e0 : wr.cell? ⟨b, i * 2, none⟩ = some (.int .i64 (hs i)) := (HBl.out.cell (p := ⟨b, i * 2, none⟩) hb).trans (HC.out i hi4)
      have e1 : wr.cell? ⟨w.heap.size, 0, none⟩ = _ := lb_at HKb.out 0 rfl
      have e2 : wr.cell? ⟨w.heap.size, 1, none⟩ = _ := lb_at HKb.out 1 rfl
      have e3 : wr.cell? ⟨w.heap.size, 2, none⟩ = _ := lb_at HKb.out 2 rfl
      have e4 : wr.cell? ⟨w.heap.size, 3, none⟩ = _ := lb_at HKb.out 3 rfl
      have e5 : wr.cell? ⟨w.heap.size, 4, none⟩ = _ := lb_at HKb.out 4 rfl
      have e6 : wr.cell? ⟨w.heap.size, 5, none⟩ = _ := lb_at HKb.out 5 rfl
      have e7 : wr.cell? ⟨w.heap.size, 6, none⟩ = _ := lb_at HKb.out 6 rfl
      obtain ⟨h, hh⟩ : ∃ h, hs i = h := ⟨_, rfl⟩
      rw [hh] at e0
      have HHi := Lib.hid hh
      clear hh
      by_cases hq : h = slot
      · have g2 : (h == slot) = true := by simpa using hq
        have HQ := Lib.hid hq
        clear hq
        obtain ⟨R, hRv⟩ : ∃ R, has s (i : Int) = R := ⟨_, rfl⟩
        have CH : Hid (∀ W : World, Calls Tryz.prog 55 #[.agg (sc s), .int .i64 (i : Nat)] W fun e w' => e = .returned (.bool R) ∧ Below W.heap.size W w') := fun W => by rw [← hRv]; exact HH.out i W hi4
        have HRv := Lib.hid hRv
        clear hRv
        cases R with
        | true =>
          go_wp2_with (first | (go_at_call 55; refine (CH.out _).mono ?_; rintro e w1 ⟨rfl, hb1⟩))
          go_ret
          refine ⟨ret_bool' ?_, HBl.out.trans (hb1.mono HBl.out.size)⟩
          have key : ∀ n, i < n → rdB hs s slot n = true := by
            intro n
            induction n with
            | zero => intro h; omega
            | succ n ih =>
              intro h
              unfold rdB
              by_cases e : n = i
              · subst e
                rw [HHi.out, HQ.out, HRv.out]; simp
              · rw [ih (by omega)]; rfl
          exact (key 400 hi4).symm
        | false =>
          go_wp2_with (first | (go_at_call 55; refine (CH.out _).mono ?_; rintro e w1 ⟨rfl, hb1⟩))
          go_roundg (400 - (i + 1))
          case measure => omega
          case rel => exact ⟨i + 1, by omega, rfl, by go_num, by unfold rdB; rw [HR.out, HRv.out]; simp, HBl.out.trans (hb1.mono HBl.out.size), (hb1.block _ (zb_lt HKb.out)).trans HKb.out⟩
      · have g2 : (h == slot) = false := by simpa using hq
        have HQ := Lib.hid hq
        clear hq
        go_wp2_with fail
        go_roundg (400 - (i + 1))
        case measure => omega
        case rel => exact ⟨i + 1, by omega, rfl, by go_num, by unfold rdB; rw [HR.out, HHi.out]; simp [HQ.out], HBl.out, HKb.out⟩
    · have g1 : ¬ (i : Int) < 400 := by omega
      have hi' : i = 400 := by omega
      go_wp2_with fail
      go_ret
      exact ⟨ret_bool' (by rw [← hi']; exact HR.out.symm), HBl.out⟩
end Lo
end Go.Proofs.YtjmifcnfnihhnaaGreatDoor
