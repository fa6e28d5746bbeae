import Derived.Test.YtjmgolahkgalbaaGreatDoorS03
import Derived.Deep.Quiet
import Derived.StillTail
set_option linter.unusedVariables false
set_option linter.unusedSimpArgs false
set_option maxHeartbeats 20000000
namespace Go.Proofs.YtjmgolahkgalbaaGreatDoor
open Go Go.RowKit
variable {w : World}
structure Wd (B : Nat) (w : World) where
 v : World
 h : Below B w v
theorem Wd.ne (B : Nat) (w : World) : Nonempty (Wd B w) := ⟨⟨w,jB⟩⟩
section
variable {P : Program} {ops : Array Oper} {md : Region.Mode} {w0 : World} {ia : Nat} {oa : Oper} {obj : Obj} {mk : Nat -> Value}
def qAt (P : Program) (o : Oper) (a : Act) (w0 : World) (v : Value) : Prop := ∀ x : Wd w0.heap.size w0,o.quietAt P a (fun w'' => Below x.v.heap.size x.v w'') x.v v
def qB (P : Program) (o : Oper) (a : Act) (w0 : World) (next : Act -> Prop) : Prop := ∃ v,qAt P o a w0 v /\ next (a.put o.dst v)
def ya (mk : Nat -> Value) (P : Program) (oa : Oper) (obj : Obj) (a : Act) : Prop := ∀ w,(execOp a.eval oa).run P w = .ok (.value (mk w.heap.size)) (w.alloc obj)
def opB (mk : Nat -> Value) (P : Program) (ops : Array Oper) (w0 : World) (oa : Oper) (obj : Obj) (ia i : Nat) (K : Act -> Prop) (a : Act) : Prop :=
 if i = ia then ya mk P oa obj a /\ K a else
 match ops[i]? with
 | none => K a
 | some o => if Region.wanted o (yielded ops a.tmps) then qB P o a w0 K else K (a.put o.dst undef)
theorem jew {i : Nat} {a : Act} {K K' : Act -> Prop} (h : ∀ a,K a -> K' a) (hh : opB mk P ops w0 oa obj ia i K a) : opB mk P ops w0 oa obj ia i K' a := by
 unfold opB at *
 by_cases e : i = ia
 ·rw [if_pos e] at hh ⊢;exact ⟨hh.1,h _ hh.2⟩
 ·rw [if_neg e] at hh ⊢
  split
  ·exact h _ (by simpa [*] using hh)
  ·rename_i o ho
   simp only [ho] at hh
   split
   ·rename_i hw;simp only [hw,if_true] at hh
    obtain ⟨v,h1,h2⟩ := hh
    exact ⟨v,h1,h _ h2⟩
   ·rename_i hw;simp only [hw] at hh;exact h _ hh
def YB (P : Program) (ops : Array Oper) (w0 : World) (o : Oper) (v : Value) (a : Act) : Prop :=
 (Region.wanted o (yielded ops a.tmps) = true /\ qAt P o a w0 v) \/ (Region.wanted o (yielded ops a.tmps) = false /\ v = undef)
theorem YB.op {i : Nat} {o : Oper} {v : Value} {a : Act} (hne : i ≠ ia) (hi : ops[i]? = some o) (hy : YB P ops w0 o v a) {K : Act -> Prop} (h : K (a.put o.dst v)) : opB mk P ops w0 oa obj ia i K a := by
 unfold opB
 rw [if_neg hne]
 simp only [hi]
 rcases hy with ⟨hw,hv⟩ | ⟨hw,rfl⟩
 ·simp only [hw,if_true];exact ⟨v,hv,h⟩
 ·simp only [hw,Bool.false_eq_true,if_false];exact h
theorem YB.of_same {o : Oper} {v : Value} {a a' : Act} (hy : YB P ops w0 o v a) (he : execOp a'.eval o = execOp a.eval o)
 (hw : Region.wanted o (yielded ops a'.tmps) = Region.wanted o (yielded ops a.tmps)) : YB P ops w0 o v a' := by
 unfold YB qAt Oper.quietAt at *
 rw [he,hw]
 exact hy
theorem jcM {i : Nat} {o : Oper} {a : Act} {K : Act -> Prop} (hne : i ≠ ia) (hi : ops[i]? = some o) (h : opB mk P ops w0 oa obj ia i K a) : ∃ v,YB P ops w0 o v a /\ K (a.put o.dst v) := by
 unfold opB at h
 rw [if_neg hne] at h
 simp only [hi] at h
 by_cases hw : Region.wanted o (yielded ops a.tmps) = true
 ·simp only [hw,if_true] at h
  obtain ⟨v,h1,h2⟩ := h
  exact ⟨v,.inl ⟨hw,h1⟩,h2⟩
 ·simp only [hw] at h
  exact ⟨undef,.inr ⟨by simpa using hw,rfl⟩,h⟩
theorem jib {j : Nat} {oi oj : Oper} {v : Value} (hoa : ∀ o',ops[ia]? = some o' -> o' = oa) (hj : ops[j]? = some oj) (hap : oi.apart ops oj = true)
 (hsi : ∀ cs b,oi.op ≠ .select cs b) (hsj : ∀ cs b,oj.op ≠ .select cs b) {K : Act -> Prop} {a : Act}
 (hy : YB P ops w0 oi v a) (h : opB mk P ops w0 oa obj ia j K (a.put oi.dst v)) :
 opB mk P ops w0 oa obj ia j (fun a' => YB P ops w0 oi v a' /\ K (a'.put oi.dst v)) a := by
 obtain ⟨h1,h2,h3⟩ := Oper.apart_spec hap
 have keep : ∀ (a : Act),YB P ops w0 oi v a -> ∀ u,YB P ops w0 oi v (a.put oj.dst u) := fun a hy u =>
  hy.of_same (execOp_put oi hsi a oj.dst u h3) (wanted_put oi a oj.dst u h3)
 unfold opB at *
 by_cases e : j = ia
 ·rw [if_pos e] at h ⊢
  have hjo : oj = oa := hoa oj (by rw [<- e];exact hj)
  refine ⟨?_,hy,h.2⟩
  have h4 := h.1
  unfold ya at h4 ⊢
  rw [<- hjo] at h4 ⊢
  rw [execOp_put oj hsj a oi.dst v h1] at h4
  exact h4
 ·rw [if_neg e] at h ⊢
  simp only [hj] at *
  rw [wanted_put oj a oi.dst v h1] at h
  split
  ·rename_i hw
   simp only [hw,if_true] at h
   obtain ⟨u,hu,hn⟩ := h
   refine ⟨u,fun x => ?_,keep a hy u,by rw [<- Act.put_comm a v u h2];exact hn⟩
   have := hu x
   unfold Oper.quietAt at *
   rwa [execOp_put oj hsj a oi.dst v h1] at this
  ·rename_i hw
   simp only [hw] at h
   exact ⟨keep a hy _,by rw [<- Act.put_comm a v undef h2];exact h⟩
def jaN (mk : Nat -> Value) (P : Program) (md : Region.Mode) (ops : Array Oper) (w0 : World) (oa : Oper) (obj : Obj) (ia n : Nat) (L : Array Bool -> Act -> Prop) : Nat -> Array Bool -> Act -> Prop
 | 0,listed,a => L listed a
 | f + 1,listed,a =>
   Region.ready md ops listed ≠ [] /\ ∀ i ∈ Region.ready md ops listed,i < n /\ opB mk P ops w0 oa obj ia i (jaN mk P md ops w0 oa obj ia n L f (listed.setIfInBounds i true)) a
theorem jml {n i : Nat} {oi : Oper} {v : Value} {L : Array Bool -> Act -> Prop} (hoa : ∀ o',ops[ia]? = some o' -> o' = oa) (hne : i ≠ ia) (hi : ops[i]? = some oi) (hsel : ∀ (j : Nat) (o : Oper) cs b,ops[j]? = some o -> o.op ≠ .select cs b)
 (hs : Region.sinkB md ops n = true) (hc : Region.chainB md ops n = true) (hn : n < ops.size) (hin : i < n)
 (hdone : ∀ listed a,L listed a -> ∀ j ∈ Region.ready md ops listed,n <= j) :
 ∀ (f : Nat) (listed : Array Bool) (a : Act),HeadInv md ops n listed ->
   (∀ j oj,ops[j]? = some oj -> j ≠ i -> listed.getD j true = false -> (∀ e ∈ oj.after,Region.binds md e = true -> e.on ≠ i) -> oi.apart ops oj = true) ->
   i ∈ Region.ready md ops listed -> YB P ops w0 oi v a ->
   jaN mk P md ops w0 oa obj ia n L f (listed.setIfInBounds i true) (a.put oi.dst v) -> jaN mk P md ops w0 oa obj ia n L (f + 1) listed a := by
 intro f
 induction f with
 | zero =>
   intro listed a inv _ hr hy H
   have hun := (mem_ready.1 hr).1
   refine ⟨fun h => (by rw [h] at hr;cases hr),fun j hj => ?_⟩
   have hjn : j < n := by
    rcases Nat.lt_or_ge j n with h | h
    ·exact h
    ·exact absurd hj (tail_waits hs hc hn inv _ i rfl hin hun j h)
   refine ⟨hjn,?_⟩
   by_cases hji : j = i
   ·subst hji;exact hy.op hne hi H
   ·have := hdone _ _ H j (ready_mono hj hji)
    omega
 | succ f ih =>
   intro listed a inv hfree hr hy H
   have hun := (mem_ready.1 hr).1
   refine ⟨fun h => (by rw [h] at hr;cases hr),fun j hj => ?_⟩
   have hjn : j < n := by
    rcases Nat.lt_or_ge j n with h | h
    ·exact h
    ·exact absurd hj (tail_waits hs hc hn inv _ i rfl hin hun j h)
   refine ⟨hjn,?_⟩
   by_cases hji : j = i
   ·subst hji;exact hy.op hne hi H
   ·have h1 := (H.2 j (ready_mono hj hji)).2
    obtain ⟨hjun,oj,hoj,hall⟩ := mem_ready.1 hj
    have hnot : ∀ e ∈ oj.after,Region.binds md e = true -> e.on ≠ i := fun e he hb heq => by
     have h1 := hall e he hb
     rw [heq,getD_both hun] at h1
     cases h1
    have h2 := jib hoa hoj (hfree j oj hoj hji hjun hnot) (fun cs b => hsel i oi cs b hi) (fun cs b => hsel j oj cs b hoj) hy h1
    have hfree' : ∀ k ok,ops[k]? = some ok -> k ≠ i -> (listed.setIfInBounds j true).getD k true = false ->
     (∀ e ∈ ok.after,Region.binds md e = true -> e.on ≠ i) -> oi.apart ops ok = true := fun k ok hk hki hun hno => by
     refine hfree k ok hk hki ?_ hno
     by_cases hjk : j = k
     ·subst hjk;exact hjun
     ·rw [getD_set_ne true hjk] at hun;exact hun
    refine jew (fun a' h3 => ih (listed.setIfInBounds j true) a' (inv.set hj hjn) hfree' (ready_mono hr (Ne.symm hji)) h3.1 ?_) h2
    rw [Array.setIfInBounds_comm _ _ hji]
    exact h3.2
theorem jia {j : Nat} {oj : Oper} (hne : j ≠ ia) (hj : ops[j]? = some oj) (hap : oa.apart ops oj = true) (hsa : ∀ cs b,oa.op ≠ .select cs b) {K : Act -> Prop} {a : Act}
 (hy : ya mk P oa obj a) (h : opB mk P ops w0 oa obj ia j K a) : opB mk P ops w0 oa obj ia j (fun a' => ya mk P oa obj a' /\ K a') a := by
 obtain ⟨h1,h2,h3⟩ := Oper.apart_spec hap
 have keep : ∀ u,ya mk P oa obj (a.put oj.dst u) := fun u w => by rw [execOp_put oa hsa a oj.dst u h3];exact hy w
 unfold opB at *
 rw [if_neg hne] at h ⊢
 simp only [hj] at *
 split
 ·rename_i hw
  simp only [hw,if_true] at h
  obtain ⟨u,hu,hn⟩ := h
  exact ⟨u,hu,keep u,hn⟩
 ·rename_i hw
  simp only [hw] at h
  exact ⟨keep _,h⟩
theorem jmk {n : Nat} {L : Array Bool -> Act -> Prop} (hoa : ops[ia]? = some oa) (hsel : ∀ (j : Nat) (o : Oper) cs b,ops[j]? = some o -> o.op ≠ .select cs b)
 (hs : Region.sinkB md ops n = true) (hc : Region.chainB md ops n = true) (hn : n < ops.size) (hin : ia < n)
 (hdone : ∀ listed a,L listed a -> ∀ j ∈ Region.ready md ops listed,n <= j) :
 ∀ (f : Nat) (listed : Array Bool) (a : Act),HeadInv md ops n listed ->
   (∀ j oj,ops[j]? = some oj -> j ≠ ia -> listed.getD j true = false -> (∀ e ∈ oj.after,Region.binds md e = true -> e.on ≠ ia) -> oa.apart ops oj = true) ->
   ia ∈ Region.ready md ops listed -> ya mk P oa obj a ->
   jaN mk P md ops w0 oa obj ia n L f (listed.setIfInBounds ia true) a -> jaN mk P md ops w0 oa obj ia n L (f + 1) listed a := by
 intro f
 induction f with
 | zero =>
   intro listed a inv _ hr hy H
   have hun := (mem_ready.1 hr).1
   refine ⟨fun h => (by rw [h] at hr;cases hr),fun j hj => ?_⟩
   have hjn : j < n := by
    rcases Nat.lt_or_ge j n with h | h
    ·exact h
    ·exact absurd hj (tail_waits hs hc hn inv _ ia rfl hin hun j h)
   refine ⟨hjn,?_⟩
   by_cases hji : j = ia
   ·subst hji;unfold opB;rw [if_pos rfl];exact ⟨hy,H⟩
   ·have := hdone _ _ H j (ready_mono hj hji)
    omega
 | succ f ih =>
   intro listed a inv hfree hr hy H
   have hun := (mem_ready.1 hr).1
   refine ⟨fun h => (by rw [h] at hr;cases hr),fun j hj => ?_⟩
   have hjn : j < n := by
    rcases Nat.lt_or_ge j n with h | h
    ·exact h
    ·exact absurd hj (tail_waits hs hc hn inv _ ia rfl hin hun j h)
   refine ⟨hjn,?_⟩
   by_cases hji : j = ia
   ·subst hji;unfold opB;rw [if_pos rfl];exact ⟨hy,H⟩
   ·have h1 := (H.2 j (ready_mono hj hji)).2
    obtain ⟨hjun,oj,hoj,hall⟩ := mem_ready.1 hj
    have hnot : ∀ e ∈ oj.after,Region.binds md e = true -> e.on ≠ ia := fun e he hb heq => by
     have h1 := hall e he hb
     rw [heq,getD_both hun] at h1
     cases h1
    have hfree' : ∀ k ok,ops[k]? = some ok -> k ≠ ia -> (listed.setIfInBounds j true).getD k true = false ->
     (∀ e ∈ ok.after,Region.binds md e = true -> e.on ≠ ia) -> oa.apart ops ok = true := fun k ok hk hki hun hno => by
     refine hfree k ok hk hki ?_ hno
     by_cases hjk : j = k
     ·subst hjk;exact hjun
     ·rw [getD_set_ne true hjk] at hun;exact hun
    have h2 := jia hji hoj (hfree j oj hoj hji hjun hnot) (fun cs b => hsel ia oa cs b hoa) hy h1
    refine jew (fun a' h3 => ih (listed.setIfInBounds j true) a' (inv.set hj hjn) hfree' (ready_mono hr (Ne.symm hji)) h3.1 ?_) h2
    rw [Array.setIfInBounds_comm _ _ hji]
    exact h3.2
def wpB (mk : Nat -> Value) (P : Program) (ops : Array Oper) (w0 : World) (oa : Oper) (obj : Obj) (ia : Nat) (Q : Act -> Prop) : Nat -> List Oper -> Act -> Prop
 | _,[],a => Q a
 | k,o :: rest,a => if k = ia then ya mk P oa obj a /\ wpB mk P ops w0 oa obj ia Q (k + 1) rest a else
  if Region.wanted o (yielded ops a.tmps) then qB P o a w0 (wpB mk P ops w0 oa obj ia Q (k + 1) rest) else wpB mk P ops w0 oa obj ia Q (k + 1) rest (a.put o.dst undef)
theorem jcH {n g : Nat} {Lq : Act -> Prop} (hoa : ∀ o',ops[ia]? = some o' -> o' = oa) (hsel : Region.noSelect ops = true) (hs : Region.sinkB md ops n = true) (hc : Region.chainB md ops n = true) (hn : n < ops.size) :
 ∀ (l : List Oper) (k : Nat) (listed : Array Bool) (a : Act),(∀ j,j < l.length -> l[j]? = ops[k + j]?) -> k + l.length = n -> HeadInv md ops n listed ->
 Region.lexHead md ops g l.length k listed = true -> wpB mk P ops w0 oa obj ia Lq k l a ->
 jaN mk P md ops w0 oa obj ia n (fun listed' a' => Region.seqB md ops g n listed' = true /\ Lq a') l.length listed a
 | [],k,listed,a,_,hk,_,hB,h => by
   have : k = n := by simpa using hk
   subst this
   exact ⟨by simpa [Region.lexHead] using hB,h⟩
 | o :: l,k,listed,a,hl,hk,inv,hB,h => by
   have h0 : ops[k]? = some o := by simpa using (hl 0 (by simp)).symm
   simp only [List.length_cons,Region.lexHead,Bool.and_eq_true] at hB
   obtain ⟨⟨hr,hf⟩,hB'⟩ := hB
   have hkn : k < n := by simp only [List.length_cons] at hk;omega
   have hr' : k ∈ Region.ready md ops listed := by simpa using hr
   have hl' : ∀ j,j < l.length -> l[j]? = ops[k + 1 + j]? := fun j hj => by have := hl (j + 1) (by simp;omega);simpa [Nat.add_assoc,Nat.add_comm 1 j] using this
   have hk' : k + 1 + l.length = n := by simp only [List.length_cons] at hk;omega
   unfold wpB at h
   by_cases e : k = ia
   ·rw [if_pos e] at h
    have H := jcH hoa hsel hs hc hn l (k + 1) _ _ hl' hk' (inv.set hr' hkn) hB' h.2
    have h0a : o = oa := hoa o (by rw [<- e];exact h0)
    rw [h0a,e] at h0
    rw [e] at hf
    exact jmk h0 (Region.noSelect_spec hsel) hs hc hn (e ▸ hkn) (fun listed' a' hL => seqB_ready hL.1) l.length listed a inv (Region.free_spec h0 hf) (e ▸ hr') h.1 (by rw [e] at H;exact H)
   ·rw [if_neg e] at h
    have hst : opB mk P ops w0 oa obj ia k (wpB mk P ops w0 oa obj ia Lq (k + 1) l) a := by unfold opB;rw [if_neg e];simp only [h0];exact h
    obtain ⟨v,hy,hK⟩ := jcM e h0 hst
    exact jml hoa e h0 (Region.noSelect_spec hsel) hs hc hn hkn (fun listed' a' hL => seqB_ready hL.1) l.length listed a inv (Region.free_spec h0 hf) hr' hy
     (jcH hoa hsel hs hc hn l (k + 1) _ _ hl' hk' (inv.set hr' hkn) hB' hK)
def ap1 (ops : Array Oper) (x y : Oper) : Bool :=
 match x.dst with
 | some d => !(y.looksAt ops).contains d && y.dst != some d
 | none => true
theorem jmj {x y : Oper} (h : ap1 ops x y = true) : (∀ d,x.dst = some d -> d ∉ y.looksAt ops) /\ (∀ d,x.dst = some d -> y.dst ≠ some d) := by
 refine ⟨fun d hd => ?_,fun d hd => ?_⟩ <;> simp [ap1,hd] at h
 ·exact h.1
 ·exact h.2
inductive At (mk : Nat -> Value) (w0 : World) (d : Tmp) (obj : Obj) (ml : Bool) (a : Act) (ar : Act) (wr : World) : Prop where
 | ahead (h : ml = false) (e : ar = a) (b : Below w0.heap.size w0 wr) : At mk w0 d obj ml a ar wr
 | made (b : Nat) (h : ml = true) (e : ar = a.put (some d) (mk b)) (b0 : w0.heap.size <= b) (hb : wr.heap[b]? = some obj) (bl : Below w0.heap.size w0 wr) : At mk w0 d obj ml a ar wr
theorem jcO {n g : Nat} {d : Tmp} {L : Array Bool -> Act -> Prop} {Q' : Exit -> Act -> World -> Prop} (hsel : ∀ (j : Nat) (o : Oper) cs b,ops[j]? = some o -> o.op ≠ .select cs b)
 (ha : ops[ia]? = some oa) (hd : oa.dst = some d) (hg : oa.guard = none)
 (hap : ∀ j oj,j < n -> j ≠ ia -> ops[j]? = some oj -> ap1 ops oa oj = true)
 (hL : ∀ listed a b w,L listed a -> w0.heap.size <= b -> w.heap[b]? = some obj -> Below w0.heap.size w0 w -> wpAny P md ops Q' g listed (a.put (some d) (mk b)) w)
 (hs : Region.sinkB md ops n = true) (hc : Region.chainB md ops n = true) (hn : n < ops.size) (hia : ia < n)
 (hLl : ∀ listed a,L listed a -> n ∈ Region.ready md ops listed) :
 ∀ (f : Nat) (listed : Array Bool) (a ar : Act) (wr : World),HeadInv md ops n listed -> jaN mk P md ops w0 oa obj ia n L f listed a -> At mk w0 d obj (listed.getD ia false) a ar wr -> wpAny P md ops Q' (f + g) listed ar wr
 | 0,listed,a,ar,wr,inv,h,hat => by
   rw [Nat.zero_add]
   have hl : listed.getD ia false = true := by
    cases hl : listed.getD ia false with
    | true => rfl
    | false => exact absurd (hLl _ _ h) (tail_waits hs hc hn inv _ ia rfl hia (getD_in (by rw [inv.size];omega) hl) n jN)
   cases hat with
   | ahead h' => rw [hl] at h';cases h'
   | made b h' e b0 hb bl => rw [e];exact hL _ _ _ _ h b0 hb bl
 | f + 1,listed,a,ar,wr,inv,h,hat => by
   have hsz := inv.size
   rw [show f + 1 + g = (f + g) + 1 by omega]
   refine ⟨fun h0 => absurd h0 h.1,fun i hi => ?_⟩
   obtain ⟨hin,ho⟩ := h.2 i hi
   obtain ⟨hun,oi,hoi,_⟩ := mem_ready.1 hi
   have hilt : i < listed.size := by rw [hsz];exact (Array.getElem?_eq_some_iff.1 hoi).1
   have hsz' : HeadInv md ops n (listed.setIfInBounds i true) := inv.set hi hin
   by_cases e : i = ia
   ·rw [e] at hoi ho hun hilt hsz' ⊢
    rw [ha] at hoi
    injection hoi with hoi
    subst hoi
    unfold opB at ho
    rw [if_pos rfl] at ho
    unfold wpOp
    simp only [ha]
    have hw : Region.wanted oa (yielded ops ar.tmps) = true := by unfold Region.wanted;rw [hg]
    rw [if_pos hw]
    left
    cases hat with
    | made b h' => rw [getD_both hun] at h';cases h'
    | ahead h' e' bl =>
      unfold Oper.wp
      rw [e',ho.1]
      simp only [Oper.upon]
      rw [hd]
      refine jcO hsel ha hd hg hap hL hs hc hn hia hLl f _ a _ _ hsz' ho.2 (At.made wr.heap.size ?_ rfl bl.size ?_ (bl.alloc bl.size _))
      ·simp [hilt]
      ·show (wr.heap.push obj)[wr.heap.size]? = _
       simp
   ·have hapj := hap i oi hin e hoi
    obtain ⟨h1,h2⟩ := jmj hapj
    have hlia : (listed.setIfInBounds i true).getD ia false = listed.getD ia false := getD_set_ne false e
    obtain ⟨v,hy,hK⟩ := jcM e hoi ho
    have hsame : execOp ar.eval oi = execOp a.eval oi /\ Region.wanted oi (yielded ops ar.tmps) = Region.wanted oi (yielded ops a.tmps) := by
     cases hat with
     | ahead h' e' bl => rw [e'];exact ⟨rfl,rfl⟩
     | made b h' e' b0 hb bl =>
       rw [e',<- hd]
       exact ⟨execOp_put oi (fun cs b => hsel i oi cs b hoi) a oa.dst _ h1,wanted_put oi a oa.dst _ h1⟩
    have hbl : Below w0.heap.size w0 wr := by cases hat <;> assumption
    have next : ∀ w',Below wr.heap.size wr w' -> wpAny P md ops Q' (f + g) (listed.setIfInBounds i true) (ar.put oi.dst v) w' := fun w' hw' => by
     have hbl' : Below w0.heap.size w0 w' := hbl.trans (hw'.mono hbl.size)
     refine jcO hsel ha hd hg hap hL hs hc hn hia hLl f _ (a.put oi.dst v) _ _ hsz' hK ?_
     rw [hlia]
     cases hat with
     | ahead h' e' bl => exact At.ahead h' (by rw [e']) hbl'
     | made b h' e' b0 hb bl =>
       refine At.made b h' ?_ b0 ?_ hbl'
       ·rw [e',<- hd];exact Act.put_comm a _ v h2
       ·have hlt : b < wr.heap.size := by
         rcases Nat.lt_or_ge b wr.heap.size with h | h
         ·exact h
         ·rw [Array.getElem?_eq_none h] at hb;cases hb
        exact (hw'.block b hlt).trans hb
    unfold wpOp
    simp only [hoi]
    rw [hsame.2]
    rcases hy with ⟨hw,hq⟩ | ⟨hw,hv⟩
    ·rw [if_pos hw]
     left
     have h3 := hq ⟨wr,hbl⟩
     unfold Oper.quietAt at h3
     unfold Oper.wp
     rw [hsame.1]
     generalize (execOp a.eval oi).run P wr = r at *
     cases r with
     | ok nx w' =>
       cases nx <;> simp only [Oper.quietUpon] at h3 <;> simp only [Oper.upon]
       case value u =>
        obtain ⟨e1,e2⟩ := h3
        rw [e1,e2]
        exact next _ jB
       case skip =>
        obtain ⟨e1,e2⟩ := h3
        rw [e1,<- e2]
        exact next _ jB
       case enter f' args =>
        obtain ⟨e1,hcl⟩ := h3
        rw [e1]
        exact hcl.mono fun e w'' ⟨he,hw''⟩ => by subst he;exact next _ hw''
     | halt x w' => simp only [Oper.quietUpon] at h3
    ·rw [if_neg (by rw [hw];exact Bool.false_ne_true),<- hv]
     exact next _ jB
def apB (ops : Array Oper) (ia n : Nat) : Bool := (List.range n).all fun j => j == ia || (match ops[ia]?,ops[j]? with
 | some x,some y => ap1 ops x y
 | _,_ => false)
theorem JE {id : Nat} {Q : Exit -> Act -> World -> Prop} {a : Act} {l : List Oper} (n ia : Nat) (d : Tmp) (mk : Nat -> Value) (obj : Obj) (oa : Oper) (hm : P.follows .mixedOrders = true) (hB : Region.lexTailB .any l.toArray n = true) (hab : apB l.toArray ia n = true) (hia : ia < n)
 (ha : l[ia]? = some oa) (hd : oa.dst = some d) (hg : oa.guard = none)
 (h : wpB mk P l.toArray w oa obj ia (fun a' => ∀ (b : Nat) (x : Wd w.heap.size w),w.heap.size <= b -> x.v.heap[b]? = some obj -> wpList P l.toArray Q (l.drop n) (a'.put (some d) (mk b)) x.v) 0 (l.take n) a) : (Code.region id l.toArray true).wp P Q a w := by
 simp only [Region.lexTailB,Bool.and_eq_true,decide_eq_true_eq] at hB
 obtain ⟨⟨⟨⟨hsel,hn⟩,hs⟩,hc⟩,hlex⟩ := hB
 have hn' : n < l.length := by simpa using hn
 have htl : (l.take n).length = n := by simp;omega
 have hdl : (l.drop n).length = l.toArray.size - n := by simp
 have inv0 : HeadInv .any l.toArray n (Array.replicate l.toArray.size false) :=
  ⟨by simp,fun j oj _ hl => (by rw [getD_replicate_false] at hl;cases hl),fun t _ ht => getD_in (by simpa using ht) (getD_replicate_false _ _)⟩
 have H := jcH (ia := ia) (oa := oa) (obj := obj) (md := .any) (g := l.toArray.size - n) (fun o' ho' => by rw [show l.toArray[ia]? = some oa by simpa using ha] at ho';exact (Option.some.inj ho').symm) hsel hs hc hn (l.take n) 0 _ a (fun j hj => by
  have hj' : j < n := by rw [htl] at hj;exact hj
  simp [hj']) (by simpa using htl) inv0 (by rw [htl];exact hlex) h
 refine wp_region_any hm ?_
 have := jcO (Q' := Q) (g := l.toArray.size - n) (d := d) (obj := obj) (oa := oa) (Region.noSelect_spec hsel) (by simpa using ha) hd hg (fun j oj hj hne hoj => by
  have := List.all_eq_true.1 hab j (List.mem_range.2 hj)
  rw [show l.toArray[ia]? = some oa by simpa using ha,hoj] at this
  simpa [hne] using this)
  (fun listed a' b w' hL h1 h2 h3 => by
   have := wpAny_of_seq (md := .any) (Q' := Q) (l.drop n) n listed (a'.put (some d) (mk b)) w' (fun j => by simp [List.getElem?_drop]) (by rw [hdl];exact hL.1) (hL.2 b ⟨w',h3⟩ h1 h2)
   rwa [hdl] at this) hs hc hn hia
  (fun listed a' hL => by
   have h1 := hL.1
   obtain ⟨g,hg'⟩ : ∃ g,l.toArray.size - n = g + 1 := ⟨l.toArray.size - n - 1,by omega⟩
   rw [hg'] at h1
   simp only [Region.seqB,Bool.and_eq_true,decide_eq_true_eq] at h1
   rw [h1.1];simp)
  _ _ a a { w with drawn := w.drawn + 1 } inv0 H (At.ahead (getD_replicate_false _ _) rfl jB.drew)
 rw [htl,show n + (l.toArray.size - n) = l.toArray.size by omega] at this
 exact this
theorem jbo {id : Nat} {Q : Exit -> Act -> World -> Prop} {a : Act} {l : List Oper} (n ia : Nat) (d : Tmp) (obj : Obj) (oa : Oper) (hm : P.follows .mixedOrders = true) (hB : Region.lexTailB .any l.toArray n = true) (hab : apB l.toArray ia n = true) (hia : ia < n)
 (ha : l[ia]? = some oa) (hd : oa.dst = some d) (hg : oa.guard = none)
 (h : wpB (fun b => .pointer (some ⟨b,0,none⟩)) P l.toArray w oa obj ia (fun a' => ∀ (b : Nat) (x : Wd w.heap.size w),w.heap.size <= b -> x.v.heap[b]? = some obj -> wpList P l.toArray Q (l.drop n) (a'.put (some d) (.pointer (some ⟨b,0,none⟩))) x.v) 0 (l.take n) a) : (Code.region id l.toArray true).wp P Q a w := JE n ia d _ obj oa hm hB hab hia ha hd hg h
theorem jdM {n g : Nat} {L : Array Bool -> Act -> Prop} {Q' : Exit -> Act -> World -> Prop}
 (hL : ∀ listed a w,L listed a -> Below w0.heap.size w0 w -> wpAny P md ops Q' g listed a w) (hia : ops.size <= ia) :
 ∀ (f : Nat) (listed : Array Bool) (a : Act) (wr : World),jaN mk P md ops w0 oa obj ia n L f listed a -> Below w0.heap.size w0 wr -> wpAny P md ops Q' (f + g) listed a wr
 | 0,listed,a,wr,h,hb => by rw [Nat.zero_add];exact hL _ _ _ h hb
 | f + 1,listed,a,wr,h,hb => by
   rw [show f + 1 + g = (f + g) + 1 by omega]
   refine ⟨fun h0 => absurd h0 h.1,fun i hi => ?_⟩
   obtain ⟨hin,ho⟩ := h.2 i hi
   obtain ⟨hun,oi,hoi,_⟩ := mem_ready.1 hi
   have hilt : i < ops.size := (Array.getElem?_eq_some_iff.1 hoi).1
   obtain ⟨v,hy,hK⟩ := jcM (show i ≠ ia by omega) hoi ho
   have next : ∀ w',Below wr.heap.size wr w' -> wpAny P md ops Q' (f + g) (listed.setIfInBounds i true) (a.put oi.dst v) w' := fun w' hw' =>
    jdM hL hia f _ _ _ hK (hb.trans (hw'.mono hb.size))
   unfold wpOp
   simp only [hoi]
   rcases hy with ⟨hw,hq⟩ | ⟨hw,hv⟩
   ·rw [if_pos hw]
    left
    have h3 := hq ⟨wr,hb⟩
    unfold Oper.quietAt at h3
    unfold Oper.wp
    generalize (execOp a.eval oi).run P wr = r at *
    cases r with
    | ok nx w' =>
      cases nx <;> simp only [Oper.quietUpon] at h3 <;> simp only [Oper.upon]
      case value u =>
       obtain ⟨e1,e2⟩ := h3
       rw [e1,e2]
       exact next _ jB
      case skip =>
       obtain ⟨e1,e2⟩ := h3
       rw [e1,<- e2]
       exact next _ jB
      case enter f' args =>
       obtain ⟨e1,hcl⟩ := h3
       rw [e1]
       exact hcl.mono fun e w'' ⟨he,hw''⟩ => by subst he;exact next _ hw''
    | halt x w' => simp only [Oper.quietUpon] at h3
   ·rw [if_neg (by rw [hw];exact Bool.false_ne_true),<- hv]
    exact next _ jB
theorem jfO {id : Nat} {Q : Exit -> Act -> World -> Prop} {a : Act} {l : List Oper} (n ia : Nat) (hm : P.follows .mixedOrders = true) (hB : Region.lexTailB .any l.toArray n = true) (hia : l.length <= ia)
 (h : wpB mk P l.toArray w oa obj ia (fun a' => ∀ x : Wd w.heap.size w,wpList P l.toArray Q (l.drop n) a' x.v) 0 (l.take n) a) : (Code.region id l.toArray true).wp P Q a w := by
 simp only [Region.lexTailB,Bool.and_eq_true,decide_eq_true_eq] at hB
 obtain ⟨⟨⟨⟨hsel,hn⟩,hs⟩,hc⟩,hlex⟩ := hB
 have hn' : n < l.length := by simpa using hn
 have htl : (l.take n).length = n := by simp;omega
 have hdl : (l.drop n).length = l.toArray.size - n := by simp
 have inv0 : HeadInv .any l.toArray n (Array.replicate l.toArray.size false) :=
  ⟨by simp,fun j oj _ hl => (by rw [getD_replicate_false] at hl;cases hl),fun t _ ht => getD_in (by simpa using ht) (getD_replicate_false _ _)⟩
 have H := jcH (ia := ia) (oa := oa) (obj := obj) (md := .any) (g := l.toArray.size - n) (fun o' ho' => by rw [Array.getElem?_eq_none (by simpa using hia)] at ho';cases ho') hsel hs hc hn (l.take n) 0 _ a (fun j hj => by
  have hj' : j < n := by rw [htl] at hj;exact hj
  simp [hj']) (by simpa using htl) inv0 (by rw [htl];exact hlex) h
 refine wp_region_any hm ?_
 have := jdM (Q' := Q) (g := l.toArray.size - n) (w0 := w)
  (fun listed a' w' hL h3 => by
   have := wpAny_of_seq (md := .any) (Q' := Q) (l.drop n) n listed a' w' (fun j => by simp [List.getElem?_drop]) (by rw [hdl];exact hL.1) (hL.2 ⟨w',h3⟩)
   rwa [hdl] at this) (by simpa using hia)
  _ _ a { w with drawn := w.drawn + 1 } H jB.drew
 rw [htl,show n + (l.toArray.size - n) = l.toArray.size by omega] at this
 exact this
def noOp : Oper := { dst := none,op := .move (.tmp 0),type := 0,pos := "",after := #[],guard := none }
def jig : Obj := .cells #[] 0 (0,0)
theorem jP {id : Nat} {Q : Exit -> Act -> World -> Prop} {a : Act} {l : List Oper} (n ia : Nat) (hm : P.follows .mixedOrders = true) (hB : Region.lexTailB .any l.toArray n = true) (hia : l.length <= ia)
 (h : wpB (fun _ => undef) P l.toArray w noOp jig ia (fun a' => ∀ x : Wd w.heap.size w,wpList P l.toArray Q (l.drop n) a' x.v) 0 (l.take n) a) : (Code.region id l.toArray true).wp P Q a w :=
 jfO n ia hm hB hia h
theorem js {Q : Act -> Prop} {k : Nat} {a : Act} (h : Q a) : wpB mk P ops w0 oa obj ia Q k [] a := h
theorem Jh {Q : Act -> Prop} {k : Nat} {o : Oper} {rest : List Oper} {a : Act} (hk : k = ia) (hy : ya mk P oa obj a) (h : wpB mk P ops w0 oa obj ia Q (k + 1) rest a) : wpB mk P ops w0 oa obj ia Q k (o :: rest) a := by
 unfold wpB;rw [if_pos hk];exact ⟨hy,h⟩
theorem jd {Q : Act -> Prop} {k : Nat} {o : Oper} {rest : List Oper} {a : Act} (hk : k ≠ ia) (hw : Region.wanted o (yielded ops a.tmps) = true) {v : Value} (hv : qAt P o a w0 v) (h : wpB mk P ops w0 oa obj ia Q (k + 1) rest (a.put o.dst v)) : wpB mk P ops w0 oa obj ia Q k (o :: rest) a := by
 unfold wpB;rw [if_neg hk,if_pos hw];exact ⟨v,hv,h⟩
theorem jmv {Q : Act -> Prop} {k : Nat} {o : Oper} {rest : List Oper} {a : Act} (hk : k ≠ ia) (hw : Region.wanted o (yielded ops a.tmps) = false) (h : wpB mk P ops w0 oa obj ia Q (k + 1) rest (a.put o.dst undef)) : wpB mk P ops w0 oa obj ia Q k (o :: rest) a := by
 unfold wpB;rw [if_neg hk,if_neg (by rw [hw];exact Bool.false_ne_true)];exact h
end
theorem SsT {α : Type} : (∀ (l : List α) (i : Nat) (a : α),l.toArray.setIfInBounds i a = (l.set i a).toArray) /\ (∀ (x a : α) (l : List α),(x :: l).set 0 a = a :: l) /\ (∀ (x a : α) (l : List α) (i : Nat),(x :: l).set (i + 1) a = x :: l.set i a) := ⟨fun _ _ _ => List.setIfInBounds_toArray ..,fun _ _ _ => rfl,fun _ _ _ _ => rfl⟩
theorem TkD {α : Type} : (∀ (i : Nat) (a : α) (l : List α),(a :: l).take (i + 1) = a :: l.take i) /\ (∀ (l : List α),l.take 0 = []) /\ (∀ (a : α) (l : List α) (i : Nat),(a :: l).drop (i + 1) = l.drop i) /\ (∀ (l : List α),l.drop 0 = l) := ⟨fun _ _ _ => rfl,fun _ => rfl,fun _ _ _ => rfl,fun _ => rfl⟩
end Go.Proofs.YtjmgolahkgalbaaGreatDoor
