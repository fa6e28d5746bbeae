import Derived.Orders
import Derived.Below
import Derived.Deep.AppendSrc
import Derived.Deep.Upon
import Derived.Laws.BytesString
set_option linter.unusedVariables false
set_option linter.unusedSimpArgs false
set_option maxHeartbeats 20000000
namespace Go.Proofs.YtnhbcdnmfafbiaaGreatDoor
namespace V
inductive C where
 |i (k:IntKind) (n:Int)
 |b (x:Bool)
 |s (x:ByteArray)
 |pn
 |bx (l:List C)
 |r (o:Bool) (z:Nat) (l:List (List C))
 |uk
 |ui
 |us (p:ByteArray->Prop)
abbrev Ph:=List (Nat × Nat × Nat)
structure Pth where
 r:Nat
 o:Nat
 p:Ph
inductive Av where
 |c (x:C)
 |ag (l:List C)
 |nl
 |pa (p:Pth)
 |lo (p:Pth)
 |la (p:Pth) (n:Nat)
 |sb (p:Pth) (z a b:Nat)
 |ev (l:List C) (o:Nat)
 |tp (l:List Av)
 |u
structure Rt where
 kd:Nat
 cs:List C
def gts (cs:List C):Nat->Nat->Option (List C)
 |o,0=>if o<=cs.length then some [] else none
 |o,n+1=>match cs[o]? with
  |some c=>match gts cs (o+1) n with
   |some l=>some (c ::l)
   |none=>none
  |none=>none
def ovl:List C->Nat->List C->List C
 |cs,_,[]=>cs
 |cs,o,c ::l=>ovl (cs.set o c) (o+1) l
theorem jLH (cs:List C):∀(n o:Nat) (l:List C),gts cs o n=some l->l=(cs.drop o).take n/\l.length=n/\o+n<=cs.length
 |0,o,l,h=>by
  unfold gts at h
  split at h
  .cases h;simp;assumption
  .cases h
 |n+1,o,l,h=>by
  unfold gts at h
  split at h
  .rename_i c hc
   split at h
   .rename_i l' hl
    cases h;obtain⟨E,G,J⟩:=jLH cs n (o+1) l' hl;have B:=(List.getElem?_eq_some_iff.1 hc).1;rw[List.drop_eq_getElem_cons B,List.take_succ_cons,<-E];have:=(List.getElem?_eq_some_iff.1 hc).2;exact⟨by rw[this],by simp[G],by omega⟩
   .cases h
  .cases h
theorem jMx:∀(l:List C) (cs:List C) (o:Nat),(ovl cs o l).length=cs.length
 |[],cs,o=>rfl
 |c ::l,cs,o=>by unfold ovl;rw[jMx l];simp
theorem jLo:∀(l:List C) (cs:List C) (o:Nat),o+l.length<=cs.length->ovl cs o l=cs.take o ++l ++cs.drop (o+l.length)
 |[],cs,o,h=>by simp[ovl]
 |c ::l,cs,o,h=>by
  rw[List.length_cons]at h ⊢;unfold ovl;rw[jLo l (cs.set o c) (o+1) (by simp;omega)];rw[List.take_set,List.drop_set_of_lt (by omega),List.take_succ_eq_append_getElem (by omega),List.set_append_right _ _ (by simp;omega)];simp;rw[show min o cs.length=o by omega,Nat.sub_self];simp
  congr 1
  omega
def gL:Ph->List C->Nat->Nat->Option (List C)
 |[],cs,o,n=>gts cs o n
 |(z,j,q) ::pp,cs,o,n=>match cs[o]? with
  |some (.r true zz l)=>match l[j]? with
   |some e=>if zz=z then gL pp e q n else none
   |none=>none
  |some (.bx e)=>gL pp e q n
  |_=>none
def sL:Ph->List C->Nat->List C->Option (List C)
 |[],cs,o,new=>if o+new.length<=cs.length then some (ovl cs o new) else none
 |(z,j,q) ::pp,cs,o,new=>match cs[o]? with
  |some (.r true zz l)=>match l[j]? with
   |some e=>if zz=z then match sL pp e q new with
    |some e'=>some (cs.set o (.r true zz (l.set j e')))
    |none=>none else none
   |none=>none
  |some (.bx e)=>match sL pp e q new with
   |some e'=>some (cs.set o (.bx e'))
   |none=>none
  |_=>none
def okz (n:Nat) (fz:Nat × Nat):Prop:=fz.1=fz.2\/n<=fz.1
mutual
inductive RC (w:World) (A:Nat->Prop):C->Value->List Nat->Prop where
 |i (k n):RC w A (.i k n) (.int k n) []
 |b (x):RC w A (.b x) (.bool x) []
 |s (x):RC w A (.s x) (.string x) []
 |pn:RC w A .pn (.pointer none) []
 |uk {v}:v.oneCell'=true->RC w A .uk v []
 |ui (n):RC w A .ui (.int .i64 n) []
 |us {p:ByteArray->Prop}{s:ByteArray}:p s->RC w A (.us p) (.string s) []
 |bx {k l F arr ty fz}:w.heap[k]? =some (.cells arr ty fz)->okz arr.size fz->RL w A l arr.toList F->RC w A (.bx l) (.pointer (some ⟨k,0,none⟩)) (k ::F)
 |rn (o z):RC w A (.r o z []) (.slice none 0 0) []
 |re (z a cap):RC w A (.r false z []) (.slice a 0 cap) []
 |ro {g l F z cap arr ty fz}:w.heap[g]? =some (.cells arr ty fz)->okz arr.size fz->0<z->cap*z<=arr.size->l.length<=cap->RE w A z l arr.toList F->RC w A (.r true z l) (.slice (some ⟨g,0,none⟩) l.length cap) (g ::F)
 |rf {g off l z cap arr ty fz}:A g->w.heap[g]? =some (.cells arr ty fz)->0<z->off+l.length*z<=arr.size->l.length<=cap->RE w A z l (arr.toList.drop off) []->RC w A (.r false z l) (.slice (some ⟨g,off,none⟩) l.length cap) []
inductive RL (w:World) (A:Nat->Prop):List C->List Value->List Nat->Prop where
 |nil:RL w A [] [] []
 |cons {c v F cs vs F'}:RC w A c v F->RL w A cs vs F'->RL w A (c ::cs) (v ::vs) (F ++F')
inductive RE (w:World) (A:Nat->Prop):Nat->List (List C)->List Value->List Nat->Prop where
 |nil (z vs):RE w A z [] vs []
 |cons {z e l vs F F'}:z<=vs.length->RL w A e (vs.take z) F->RE w A z l (vs.drop z) F'->RE w A z (e ::l) vs (F ++F')
end
variable {w w':World}{A A':Nat->Prop}
mutual
theorem RC.st:∀{c v F},RC w A c v F->(∀k,A k->A' k/\w'.heap[k]? =w.heap[k]?)->(∀k ∈ F,w'.heap[k]? =w.heap[k]?)->RC w' A' c v F
 |_,_,_,.i k n,_,_=>.i k n
 |_,_,_,.b k,_,_=>.b k
 |_,_,_,.s k,_,_=>.s k
 |_,_,_,.pn,_,_=>.pn
 |_,_,_,.uk v,_,_=>.uk v
 |_,_,_,.ui n,_,_=>.ui n
 |_,_,_,.us h,_,_=>.us h
 |_,_,_,.bx h1 h2 h3,hA,hF=>.bx ((hF _ (List.mem_cons_self ..)).trans h1) h2 (RL.st h3 hA fun k hk=>hF k (List.mem_cons_of_mem _ hk))
 |_,_,_,.rn o z,_,_=>.rn o z
 |_,_,_,.re z a cap,_,_=>.re z a cap
 |_,_,_,.ro h1 h2 h3 h4 h5 h6,hA,hF=>.ro ((hF _ (List.mem_cons_self ..)).trans h1) h2 h3 h4 h5 (RE.st h6 hA fun k hk=>hF k (List.mem_cons_of_mem _ hk))
 |_,_,_,.rf h0 h1 h3 h4 h5 h6,hA,hF=>.rf (hA _ h0).1 ((hA _ h0).2.trans h1) h3 h4 h5 (RE.st h6 hA hF)
theorem RL.st:∀{c v F},RL w A c v F->(∀k,A k->A' k/\w'.heap[k]? =w.heap[k]?)->(∀k ∈ F,w'.heap[k]? =w.heap[k]?)->RL w' A' c v F
 |_,_,_,.nil,_,_=>.nil
 |_,_,_,.cons h1 h2,hA,hF=>.cons (RC.st h1 hA fun k hk=>hF k (List.mem_append_left _ hk)) (RL.st h2 hA fun k hk=>hF k (List.mem_append_right _ hk))
theorem RE.st:∀{z c v F},RE w A z c v F->(∀k,A k->A' k/\w'.heap[k]? =w.heap[k]?)->(∀k ∈ F,w'.heap[k]? =w.heap[k]?)->RE w' A' z c v F
 |_,_,_,_,.nil z vs,_,_=>.nil z vs
 |_,_,_,_,.cons h1 h2 h3,hA,hF=>.cons h1 (RL.st h2 hA fun k hk=>hF k (List.mem_append_left _ hk)) (RE.st h3 hA fun k hk=>hF k (List.mem_append_right _ hk))
end
theorem RC.one {c:C}{v:Value}{F:List Nat}(h:RC w A c v F):v.oneCell'=true:=by
 cases h <;> first|rfl|assumption
mutual
theorem RC.lt:∀{c v F},RC w A c v F->∀k ∈ F,k<w.heap.size
 |_,_,_,.i k n,_,h=>by cases h
 |_,_,_,.b k,_,h=>by cases h
 |_,_,_,.s k,_,h=>by cases h
 |_,_,_,.pn,_,h=>by cases h
 |_,_,_,.uk v,_,h=>by cases h
 |_,_,_,.ui n,_,h=>by cases h
 |_,_,_,.us _,_,h=>by cases h
 |_,_,_,.bx h1 h2 h3,k,h=>by
  rcases List.mem_cons.1 h with rfl|h
  .exact(Array.getElem?_eq_some_iff.1 h1).1
  .exact RL.lt h3 k h
 |_,_,_,.rn o z,_,h=>by cases h
 |_,_,_,.re z a cap,_,h=>by cases h
 |_,_,_,.ro h1 h2 h3 h4 h5 h6,k,h=>by
  rcases List.mem_cons.1 h with rfl|h
  .exact(Array.getElem?_eq_some_iff.1 h1).1
  .exact RE.lt h6 k h
 |_,_,_,.rf h0 h1 h3 h4 h5 h6,k,h=>by cases h
theorem RL.lt:∀{c v F},RL w A c v F->∀k ∈ F,k<w.heap.size
 |_,_,_,.nil,_,h=>by cases h
 |_,_,_,.cons h1 h2,k,h=>by
  rcases List.mem_append.1 h with h|h
  .exact RC.lt h1 k h
  .exact RL.lt h2 k h
theorem RE.lt:∀{z c v F},RE w A z c v F->∀k ∈ F,k<w.heap.size
 |_,_,_,_,.nil z vs,_,h=>by cases h
 |_,_,_,_,.cons h1 h2 h3,k,h=>by
  rcases List.mem_append.1 h with h|h
  .exact RL.lt h2 k h
  .exact RE.lt h3 k h
end
theorem RL.len {cs:List C}{vs:List Value}{F:List Nat}(h:RL w A cs vs F):cs.length=vs.length:=by
 induction cs generalizing vs F with
 |nil=>cases h;rfl
 |cons c cs ih=>cases h with|cons h1 h2=>rw[List.length_cons,List.length_cons,ih h2]
theorem RL.app {cs B:List C}{vs us:List Value}{F G:List Nat}(h:RL w A cs vs F) (E:RL w A B us G):RL w A (cs ++B) (vs ++us) (F ++G):=by
 induction cs generalizing vs F with
 |nil=>cases h;exact E
 |cons c cs ih=>cases h with|cons h1 h2=>rw[List.append_assoc];exact .cons h1 (ih h2)
theorem RL.split {cs B:List C}:∀{vs:List Value}{F:List Nat},RL w A (cs ++B) vs F->∃F1 F2,F=F1 ++F2/\RL w A cs (vs.take cs.length) F1/\RL w A B (vs.drop cs.length) F2:=by
 induction cs with
 |nil=>intro vs F h;exact⟨[],F,rfl,.nil,h⟩
 |cons c cs ih=>
  intro vs F h
  cases h with
  |@cons _ v F0 _ vs' F' h1 h2=>
   obtain⟨F1,F2,e,E,G⟩:=ih h2;exact⟨F0 ++F1,F2,by rw[e,List.append_assoc],.cons h1 E,G⟩
theorem RL.foc {cs:List C}{vs:List Value}{F:List Nat}(h:RL w A cs vs F) {o n:Nat}(O:o+n<=cs.length):∃F1 Fs F2,F=F1 ++Fs ++F2/\RL w A ((cs.drop o).take n) ((vs.drop o).take n) Fs/\RL w A (cs.take o) (vs.take o) F1/\RL w A (cs.drop (o+n)) (vs.drop (o+n)) F2:=by
 have M:cs=cs.take o ++((cs.drop o).take n ++cs.drop (o+n)):=by
  rw[<-List.drop_drop,List.take_append_drop,List.take_append_drop]
 rw[M]at h;obtain⟨F1,G,rfl,J,h2⟩:=h.split;obtain⟨Fs,F2,rfl,E,B⟩:=h2.split;have P:(cs.take o).length=o:=by simp;omega
 have V:((cs.drop o).take n).length=n:=by simp;omega
 rw[P]at J E B;rw[V]at E B;rw[List.drop_drop]at B;exact⟨F1,Fs,F2,by rw[List.append_assoc],E,J,B⟩
theorem RL.at {cs:List C}{vs:List Value}{F:List Nat}(h:RL w A cs vs F) {o:Nat}{c:C}(G:cs[o]? =some c):∃v F1 Fs F2,vs[o]? =some v/\F=F1 ++Fs ++F2/\RC w A c v Fs/\RL w A (cs.take o) (vs.take o) F1/\RL w A (cs.drop (o+1)) (vs.drop (o+1)) F2:=by
 have B:=(List.getElem?_eq_some_iff.1 G).1;have J:o<vs.length:=by rw[<-h.len];exact B
 obtain⟨F1,Fs,F2,e,E,h2,M⟩:=h.foc (o:=o) (n:=1) (by omega);rw[List.drop_eq_getElem_cons B,List.drop_eq_getElem_cons J]at E;simp only[List.take_succ_cons,List.take_zero]at E
 cases E with
 |cons h4 h5=>
  cases h5;rw[(List.getElem?_eq_some_iff.1 G).2]at h4;exact⟨_,F1,_,F2,List.getElem?_eq_getElem J,by rw[e];simp,h4,h2,M⟩
theorem jOQ {α:Type}{l:List α}{o:Nat}{a:α}(h:o<l.length):l.set o a=l.take o ++a ::l.drop (o+1):=by
 rw[List.set_eq_take_append_cons_drop,if_pos h]
variable {w w':World}{A A':Nat->Prop}
def adr (w:World):Nat->Nat->Ph->Option (Nat × Nat)
 |g,b,[]=>some (g,b)
 |g,b,(z,j,q) ::pp=>match w.cell? ⟨g,b,none⟩ with
  |some (.slice (some a) _ _)=>adr w a.block (a.off+j*z+q) pp
  |some (.pointer (some a))=>adr w a.block (a.off+q) pp
  |_=>none
def adv (w:World) (v:Value) (z j q:Nat) (pp:Ph):Option (Nat × Nat):=match v with
 | .slice (some a) _ _=>adr w a.block (a.off+j*z+q) pp
 | .pointer (some a)=>adr w a.block (a.off+q) pp
 |_=>none
theorem jLM (w:World) (g b z j q:Nat) (pp:Ph):adr w g b ((z,j,q) ::pp)=(w.cell? ⟨g,b,none⟩).bind fun v=>adv w v z j q pp:=by
 simp only[adr,adv]
 cases w.cell? ⟨g,b,none⟩ with
 |none=>rfl
 |some v=>
  cases v with
  |pointer a=>cases a <;> rfl
  |slice a l c=>cases a <;> rfl
  |_=>rfl
def gC (c:C) (z j q:Nat) (pp:Ph) (n:Nat):Option (List C):=match c with
 | .r true zz l=>match l[j]? with
   |some e=>if zz=z then gL pp e q n else none
   |none=>none
 | .bx e=>gL pp e q n
 |_=>none
def sC (c:C) (z j q:Nat) (pp:Ph) (new:List C):Option C:=match c with
 | .r true zz l=>match l[j]? with
   |some e=>if zz=z then match sL pp e q new with
    |some e'=>some (.r true zz (l.set j e'))
    |none=>none else none
   |none=>none
 | .bx e=>match sL pp e q new with
   |some e'=>some (.bx e')
   |none=>none
 |_=>none
theorem jP9 (cs:List C) (o z j q:Nat) (pp:Ph) (n:Nat):gL ((z,j,q) ::pp) cs o n=(cs[o]?).bind fun c=>gC c z j q pp n:=by
 simp only[gL,gC]
 cases cs[o]? with
 |none=>rfl
 |some c=>
  cases c with
  |r o zz l=>cases o <;> rfl
  |_=>rfl
theorem jRS (cs:List C) (o z j q:Nat) (pp:Ph) (B:List C):sL ((z,j,q) ::pp) cs o B=(cs[o]?).bind fun c=>(sC c z j q pp B).map fun c'=>cs.set o c':=by
 simp only[sL,sC]
 cases cs[o]? with
 |none=>rfl
 |some c=>
  cases c with
  |r o zz l=>
   cases o with
   |false=>rfl
   |true=>
    simp only[Option.bind_some]
    cases l[j]? with
    |none=>rfl
    |some e=>
     simp only
     split
     .cases sL pp e q B <;> rfl
     .rfl
  |bx e=>
   simp only[Option.bind_some];cases sL pp e q B <;> rfl
  |_=>rfl
theorem cell_of {k:Nat}{arr:Array Value}{ty:TypeId}{fz:Nat × Nat}(h:w.heap[k]? =some (.cells arr ty fz)) (j:Nat):w.cell? ⟨k,j,none⟩=arr[j]?:=by
 simp[World.cell?,h]
theorem RE.foc:∀{l:List (List C)}{z:Nat}{vs:List Value}{F:List Nat}{j:Nat}{e:List C},RE w A z l vs F->l[j]? =some e->e.length=z/\j*z+z<=vs.length/\∃F1 Fj F2,F=F1 ++Fj ++F2/\RL w A e ((vs.drop (j*z)).take z) Fj/\
 ∀(w':World) (A':Nat->Prop) (e':List C) (Fn:List Nat) (vs':List Value),vs'.length=vs.length->(∀i,i<j*z\/j*z+z<=i->vs'[i]? =vs[i]?)->RL w' A' e' ((vs'.drop (j*z)).take z) Fn->(∀k,A k->A' k/\w'.heap[k]? =w.heap[k]?)->(∀k ∈ F1 ++F2,w'.heap[k]? =w.heap[k]?)->RE w' A' z (l.set j e') vs' (F1 ++Fn ++F2)
 |[],z,vs,F,j,e,h,hj=>by simp at hj
 |e0 ::l,z,vs,F,0,e,h,hj=>by
  cases h with
  |@cons _ _ _ _ Fa Fb h1 h2 h3=>
  simp only[List.getElem?_cons_zero,Option.some.injEq]at hj;subst hj;refine⟨by rw[h2.len];simp;omega,by omega,[],Fa,Fb,by simp,by simpa using h2,fun w' A' e' Fn vs' hl hi hr hA hF=>?_⟩;rw[List.set_cons_zero];simp only[Nat.zero_mul,List.drop_zero,Nat.zero_add,List.nil_append]at hr hi hF ⊢;refine .cons (by omega) hr ?_;have:vs'.drop z=vs.drop z:=List.ext_getElem? fun i=>by rw[List.getElem?_drop,List.getElem?_drop];exact hi _ (.inr (by omega))
  rw[this];exact h3.st hA hF
 |e0 ::l,z,vs,F,j+1,e,h,hj=>by
  cases h with
  |@cons _ _ _ _ Fa Fb h1 h2 h3=>
  simp only[List.getElem?_cons_succ]at hj;obtain⟨q1,q2,F1,Fj,F2,rfl,q3,q4⟩:=RE.foc h3 hj;rw[List.length_drop]at q2;have E:(j+1)*z=z+j*z:=by rw[Nat.add_mul,Nat.one_mul,Nat.add_comm]
  refine⟨q1,by rw[E];omega,Fa ++F1,Fj,F2,by simp,by rw[E,<-List.drop_drop];exact q3,fun w' A' e' Fn vs' hl hi hr hA hF=>?_⟩;rw[List.set_cons_succ,List.append_assoc,List.append_assoc,<-List.append_assoc F1];rw[E]at hi hr;rw[<-List.drop_drop]at hr
  have G:vs'.take z=vs.take z:=List.ext_getElem? fun i=>by
   rw[List.getElem?_take,List.getElem?_take]
   by_cases B:i<z
   .rw[if_pos B,if_pos B];exact hi _ (.inl (by omega))
   .rw[if_neg B,if_neg B]
  refine .cons (by omega) (by rw[G];exact h2.st hA fun k hk=>hF k (by simp[hk])) (q4 w' A' e' Fn (vs'.drop z) (by simp[hl]) (fun i hi'=>?_) hr hA fun k hk=>hF k (by simp at hk ⊢;rcases hk with h|h <;> simp[h]));rw[List.getElem?_drop,List.getElem?_drop];exact hi _ (by rcases hi' with h|h <;> omega)
structure Lie (t:Bool) (w:World) (A:Nat->Prop) (g b:Nat) (e:List C) (F:List Nat) (arr:Array Value) (ty:TypeId) (fz:Nat × Nat):Prop where
 blk:w.heap[g]? =some (.cells arr ty fz)
 okz:t=true->okz arr.size fz
 le:b+e.length<=arr.size
 rl:RL w A e ((arr.toList.drop b).take e.length) F
theorem jRB {arr B:Array Value}{a n:Nat}:(∀i,i<n->B[a+i]? =arr[a+i]?)->(B.toList.drop a).take n=(arr.toList.drop a).take n:=fun h=>List.ext_getElem? fun i=>by
 rw[List.getElem?_take,List.getElem?_take]
 by_cases E:i<n
 .rw[if_pos E,if_pos E,List.getElem?_drop,List.getElem?_drop,Array.getElem?_toList,Array.getElem?_toList];exact h i E
 .rw[if_neg E,if_neg E]
theorem jNn {α:Type}(l:List α) (b n q m:Nat) (h:q+m<=n):(((l.drop b).take n).drop q).take m=(l.drop (b+q)).take m:=by
 rw[List.drop_take,List.drop_drop,List.take_take,Nat.min_eq_left (by omega)]
structure Trn (w w':World) (A A':Nat->Prop) (g1 a1 n:Nat) (arr1:Array Value) (ty1:TypeId) (fz1:Nat × Nat) (new:List C) (Fn:List Nat) (G:List Nat):Prop where
 len:new.length=n
 blk:∃arr1',w'.heap[g1]? =some (.cells arr1' ty1 fz1)/\arr1'.size=arr1.size/\(∀i,i<a1\/a1+n<=i->arr1'[i]? =arr1[i]?)/\RL w' A' new ((arr1'.toList.drop a1).take n) Fn
 fro:∀k,A k->A' k/\w'.heap[k]? =w.heap[k]?
 rest:∀k ∈ G,k≠g1->w'.heap[k]? =w.heap[k]?
theorem Trn.sub {Y V n:Nat}{B:Array Value}{M:TypeId}{E:Nat × Nat}{J:List C}{O G P:List Nat}(h:Trn w w' A A' Y V n B M E J O G) (hs:∀k ∈ P,k ∈ G):Trn w w' A A' Y V n B M E J O P:=⟨h.len,h.blk,h.fro,fun k hk=>h.rest k (hs k hk)⟩
def jUs (w:World) (A:Nat->Prop) (pp:Ph):Prop:=∀(t:Bool) (g b:Nat) (e:List C) (F:List Nat) (arr:Array Value) (ty:TypeId) (fz:Nat × Nat) (q n:Nat) (sub:List C),Lie t w A g b e F arr ty fz->(g ::F).Nodup->gL pp e q n=some sub->
    ∃g1 a1 arr1 ty1 fz1 F1 Fs F2,adr w g (b+q) pp=some (g1,a1)/\w.heap[g1]? =some (.cells arr1 ty1 fz1)/\(t=true->V.okz arr1.size fz1)/\a1+n<=arr1.size/\sub.length=n/\RL w A sub ((arr1.toList.drop a1).take n) Fs/\F=F1 ++Fs ++F2/\(g1 ∈ g ::F1/\(pp≠[]->g1 ∈ F1))/\
    (∀w':World,(∀k ∈ g ::F1,w'.heap[k]? =w.heap[k]?)->adr w' g (b+q) pp=some (g1,a1))/\
    ∀(w':World) (A':Nat->Prop) (new:List C) (Fn:List Nat),Trn w w' A A' g1 a1 n arr1 ty1 fz1 new Fn (g ::(F1 ++F2))->
     ∃e' arr',sL pp e q new=some e'/\e'.length=e.length/\Lie t w' A' g b e' (F1 ++Fn ++F2) arr' ty fz/\arr'.size=arr.size/\∀i,i<b\/b+e.length<=i->arr'[i]? =arr[i]?
theorem RC.lens_of {pp:Ph}(ih:jUs w A pp) {c:C}{v:Value}{F:List Nat}{z j q n:Nat}{sub:List C}(h9:RC w A c v F) (hN:F.Nodup) (B:gC c z j q pp n=some sub) :
 ∃g1 a1 arr1 ty1 fz1 F1 Fs F2,adv w v z j q pp=some (g1,a1)/\w.heap[g1]? =some (.cells arr1 ty1 fz1)/\V.okz arr1.size fz1/\a1+n<=arr1.size/\sub.length=n/\RL w A sub ((arr1.toList.drop a1).take n) Fs/\F=F1 ++Fs ++F2/\g1 ∈ F1/\
 (∀w':World,(∀k ∈ F1,w'.heap[k]? =w.heap[k]?)->adv w' v z j q pp=some (g1,a1))/\
 ∀(w':World) (A':Nat->Prop) (new:List C) (Fn:List Nat),Trn w w' A A' g1 a1 n arr1 ty1 fz1 new Fn (F1 ++F2)->∃c',sC c z j q pp new=some c'/\RC w' A' c' v (F1 ++Fn ++F2):=by
 cases c with
 |r o zz l=>
  cases o with
  |false=>simp[gC]at B
  |true=>
   simp only[gC]at B
   cases hj :l[j]? with
   |none=>rw[hj]at B;simp at B
   |some ej=>
    rw[hj]at B;simp only at B
    by_cases hz:zz=z
    .rw[if_pos hz]at B
     subst hz
     cases h9 with
     |rn=>simp at hj
     |@ro g2 _ Fr _ cap arr2 ty2 fzz h1 h2 h3 h4 h5 h6=>
      obtain⟨q1,q2,P,Fj,Y,h7,q3,q4⟩:=RE.foc h6 hj;have k3:j*zz+zz<=arr2.size:=by simpa using q2
      have h8:Lie true w A g2 (j*zz) ej Fj arr2 ty2 fzz:=⟨h1,fun _=>h2,by rw[q1];exact k3,by rw[q1];exact q3⟩
      have k5:(g2 ::Fj).Nodup:=by
       rw[h7]at hN
       have:(g2 ::Fj).Sublist (g2 ::(P ++Fj ++Y)):=by
        refine List.Sublist.cons_cons _ ?_;rw[List.append_assoc];exact List.Sublist.trans (List.sublist_append_left _ _) (List.sublist_append_right _ _)
       exact this.nodup hN
      obtain⟨g1,a1,arr1,ty1,fz1,J,Hs,M,s1,s2,s3,s4,s5,s6,s7,⟨s8,_⟩,s9,k2⟩:=ih _ _ _ _ _ _ _ _ _ _ _ h8 k5 B
      have G:∀w':World,adv w' (.slice (some ⟨g2,0,none⟩) l.length cap) zz j q pp=adr w' g2 (j*zz+q) pp:=fun w'=>by
       simp only[adv,Nat.zero_add]
      refine⟨g1,a1,arr1,ty1,fz1,g2 ::(P ++J),Hs,M ++Y,by rw[G w];exact s1,s2,s3 rfl,s4,s5,s6,by rw[h7,s7];simp,?_,fun w' hw'=>?_,fun w' A' new Fn hT=>?_⟩
      .simp only[List.mem_cons,List.mem_append]at s8 ⊢
       rcases s8 with h|h <;> simp[h]
      .rw[G w']
       exact s9 w' fun k hk=>hw' k (by
        simp only[List.mem_cons,List.mem_append]at hk ⊢
        rcases hk with h|h <;> simp[h])
      .have hdisj:∀k ∈ P ++Y,k≠g1:=by
        rintro k E rfl;rw[h7,s7]at hN;simp only[List.mem_cons,List.mem_append]at s8 E;simp only[List.nodup_cons,List.nodup_append,List.mem_cons,List.mem_append]at hN
        grind
       obtain⟨Z,O,t1,t2,t3,t4,t5⟩:=k2 w' A' new Fn (hT.sub fun k E=>by
        simp only[List.mem_cons,List.mem_append]at E ⊢
        rcases E with h|h|h <;> simp[h])
       have k6:=q4 w' A' Z (J ++Fn ++M) O.toList (by simp[t4]) (fun i hi'=>by rw[Array.getElem?_toList,Array.getElem?_toList];exact t5 i (by rw[q1];exact hi')) (by have:=t3.rl;rw[t2,q1]at this;exact this) hT.fro (fun k E=>hT.rest k (by
        simp only[List.mem_cons,List.mem_append]at E ⊢
        rcases E with h|h <;> simp[h]) (hdisj k E))
       have k1:RC w' A' (.r true zz (l.set j Z)) (.slice (some ⟨g2,0,none⟩) (l.set j Z).length cap) (g2 ::(P ++(J ++Fn ++M) ++Y)):=.ro t3.blk (t3.okz rfl) h3 (by rw[t4];exact h4) (by simpa using h5) k6;rw[List.length_set]at k1;refine⟨.r true zz (l.set j Z),by simp only[sC,hj,if_true,t1],?_⟩;have:g2 ::(P ++(J ++Fn ++M) ++Y)=g2 ::(P ++J) ++Fn ++(M ++Y):=by simp
       rw[<-this];exact k1
    .rw[if_neg hz]at B;cases B
 |bx l=>
  simp only[gC]at B
  cases h9 with
  |@bx g2 _ Fr arr2 ty2 fz2 h1 h2 h6=>
   have k7:l.length=arr2.size:=h6.len.trans (by simp)
   have h8:Lie true w A g2 0 l Fr arr2 ty2 fz2:=⟨h1,fun _=>h2,by omega,by
    have:(arr2.toList.drop 0).take l.length=arr2.toList:=by rw[List.drop_zero,List.take_of_length_le (by simp;omega)]
    rw[this]
    exact h6⟩
   obtain⟨g1,a1,arr1,ty1,fz1,J,Hs,M,s1,s2,s3,s4,s5,s6,s7,⟨s8,_⟩,s9,k2⟩:=ih _ _ _ _ _ _ _ _ _ _ _ h8 hN B
   have G:∀w':World,adv w' (.pointer (some ⟨g2,0,none⟩)) z j q pp=adr w' g2 (0+q) pp:=fun w'=>by
    simp only[adv]
   refine⟨g1,a1,arr1,ty1,fz1,g2 ::J,Hs,M,by rw[G w];exact s1,s2,s3 rfl,s4,s5,s6,by rw[s7];simp,s8,fun w' hw'=>?_,fun w' A' new Fn hT=>?_⟩
   .rw[G w']
    exact s9 w' hw'
   .obtain⟨Z,O,t1,t2,t3,t4,t5⟩:=k2 w' A' new Fn hT
    have k4:=t3.rl;rw[List.drop_zero,List.take_of_length_le (by simp;omega)]at k4;exact⟨.bx Z,by simp only[sC,t1],.bx t3.blk (t3.okz rfl) k4⟩
 |_=>simp[gC]at B
theorem Lie.lens:∀(pp:Ph),jUs w A pp
 |[]=>by
  intro t g b e F arr ty fz q n sub G hN P;obtain⟨e1,e2,hq⟩:=jLH e n q sub P;obtain⟨J,Fs,M,hF,r1,r2,r3⟩:=G.rl.foc hq;have Y:=G.le;rw[jNn _ _ _ _ _ hq,<-e1]at r1;refine⟨g,b+q,arr,ty,fz,J,Fs,M,rfl,G.blk,G.okz,by omega,e2,r1,hF,⟨List.mem_cons_self ..,fun h=>absurd rfl h⟩,fun _ _=>rfl,fun w' A' new Fn hT=>?_⟩;obtain⟨hn,⟨E,hb,hs,hi,hr⟩,hA,hk⟩:=hT
  have hG:∀k ∈ J ++M,w'.heap[k]? =w.heap[k]?:=fun k B=>hk k (List.mem_cons_of_mem _ B) fun ek=>by
   rw[hF,List.nodup_cons]at hN;refine hN.1 ?_;rw[<-ek];simp at B ⊢;rcases B with h|h <;> simp[h]
  refine⟨ovl e q new,E,by show(if q+new.length<=e.length then _ else _)=_;rw[if_pos (by omega)],jMx _ _ _,⟨hb,by rw[hs];exact G.okz,by rw[jMx,hs];exact Y,?_⟩,hs,fun i hi'=>hi i (by omega)⟩;rw[jMx,jLo _ _ _ (by omega),hn]
  have k1:(E.toList.drop b).take e.length=(arr.toList.drop b).take q ++((E.toList.drop (b+q)).take n ++(arr.toList.drop (b+(q+n))).take (e.length-(q+n))):=by
   have:(E.toList.drop b).take e.length=(E.toList.drop b).take q ++((E.toList.drop (b+q)).take n ++(E.toList.drop (b+(q+n))).take (e.length-(q+n))):=by
    rw[<-List.drop_drop,<-List.drop_drop,<-List.drop_drop];generalize E.toList.drop b=L;have:=List.take_add (l:=L) (i:=q) (j:=e.length-q);rw[show q+(e.length-q)=e.length by omega]at this;rw[this]
    congr 1
    have:=List.take_add (l:=L.drop q) (i:=n) (j:=e.length-q-n);rw[show n+(e.length-q-n)=e.length-q by omega]at this;rw[this,show e.length-q-n=e.length-(q+n) by omega]
   rw[this]
   congr 1
   .exact jRB fun i hi'=>hi _ (.inl (by omega))
   .congr 1
    exact jRB fun i hi'=>hi _ (.inr (by omega))
  rw[k1,List.append_assoc,List.append_assoc];refine RL.app ?_ (RL.app hr ?_)
  .have:=r2.st hA fun k B=>hG k (List.mem_append_left _ B)
   rw[List.take_take,Nat.min_eq_left (by omega)]at this;exact this
  .have:=r3.st hA fun k B=>hG k (List.mem_append_right _ B)
   rw[List.drop_take,List.drop_drop]at this;exact this
 |(z,j,q') ::pp=>by
  intro t g b e F arr ty fz q n sub G hN P;rw[jP9]at P
  cases hc :e[q]? with
  |none=>rw[hc]at P;simp at P
  |some c=>
   rw[hc,Option.bind_some]at P;obtain⟨v,J,Fc,M,hv,hF,h8,r1,r2⟩:=G.rl.at hc;have Z:=(List.getElem?_eq_some_iff.1 hc).1;have Y:=G.le
   have h4:arr[b+q]? =some v:=by
    rw[List.getElem?_take,if_pos Z,List.getElem?_drop,Array.getElem?_toList]at hv;exact hv
   have O:(g ::(J ++Fc ++M)).Nodup:=by rw[<-hF];exact hN
   have h6:Fc.Nodup:=by
    have:Fc.Sublist (g ::(J ++Fc ++M)):=by
     refine List.Sublist.cons _ ?_;rw[List.append_assoc];exact List.Sublist.trans (List.sublist_append_left _ _) (List.sublist_append_right _ _)
    exact this.nodup O
   obtain⟨g1,a1,h3,k2,h5,H1,Hs,H2,s1,s2,s3,s4,s5,s6,s7,s8,s9,h9⟩:=RC.lens_of (Lie.lens pp) h8 h6 P
   have V:∀w':World,w'.heap[g]? =w.heap[g]?->adr w' g (b+q) ((z,j,q') ::pp)=adv w' v z j q' pp:=fun w' hw=>by
    rw[jLM,cell_of (hw.trans G.blk),h4,Option.bind_some]
   refine⟨g1,a1,h3,k2,h5,J ++H1,Hs,H2 ++M,by rw[V w rfl];exact s1,s2,fun _=>s3,s4,s5,s6,by rw[hF,s7];simp,⟨by simp[s8],fun _=>by simp[s8]⟩,fun w' hw'=>?_,fun w' A' new Fn hT=>?_⟩
   .rw[V w' (hw' g (List.mem_cons_self ..))]
    exact s9 w' fun k hk=>hw' k (by simp[hk])
   .have hne:g≠g1:=by
     rintro rfl;rw[List.nodup_cons]at O;refine O.1 ?_;rw[s7];simp[s8]
    have h1:∀k ∈ J ++M,k≠g1:=by
     rintro k B rfl;rw[s7]at O;simp only[List.mem_append]at B;simp only[List.nodup_cons,List.nodup_append,List.mem_cons,List.mem_append]at O
     grind
    have h7:w'.heap[g]? =w.heap[g]?:=hT.rest g (List.mem_cons_self ..) hne
    obtain⟨c',t1,t2⟩:=h9 w' A' new Fn (hT.sub fun k B=>by
     simp only[List.mem_cons,List.mem_append]at B ⊢
     rcases B with h|h <;> simp[h])
    have hk:∀k ∈ J ++M,w'.heap[k]? =w.heap[k]?:=fun k B=>hT.rest k (by
     simp only[List.mem_cons,List.mem_append]at B ⊢
     rcases B with h|h <;> simp[h]) (h1 k B)
    refine⟨e.set q c',arr,by rw[jRS,hc,Option.bind_some,t1];rfl,by simp,⟨h7.trans G.blk,G.okz,by simpa using Y,?_⟩,rfl,fun _ _=>rfl⟩;rw[List.length_set,jOQ Z]
    have k1:(arr.toList.drop b).take e.length=((arr.toList.drop b).take e.length).take q ++v ::((arr.toList.drop b).take e.length).drop (q+1):=by
     have k3:q<((arr.toList.drop b).take e.length).length:=by rw[<-G.rl.len];exact Z
     rw[<-(List.getElem?_eq_some_iff.1 hv).2,<-List.drop_eq_getElem_cons,List.take_append_drop]
    rw[k1];have:J ++H1 ++Fn ++(H2 ++M)=J ++((H1 ++Fn ++H2) ++M):=by simp
    rw[this];exact RL.app (r1.st hT.fro fun k B=>hk k (List.mem_append_left _ B)) (.cons t2 (r2.st hT.fro fun k B=>hk k (List.mem_append_right _ B)))
theorem RC.lens {pp:Ph}{c:C}{v:Value}{F:List Nat}{z j q n:Nat}{sub:List C}(B:RC w A c v F) (hN:F.Nodup) (E:gC c z j q pp n=some sub) :
 ∃g1 a1 arr1 ty1 fz1 F1 Fs F2,adv w v z j q pp=some (g1,a1)/\w.heap[g1]? =some (.cells arr1 ty1 fz1)/\V.okz arr1.size fz1/\a1+n<=arr1.size/\sub.length=n/\RL w A sub ((arr1.toList.drop a1).take n) Fs/\F=F1 ++Fs ++F2/\g1 ∈ F1/\
 (∀w':World,(∀k ∈ F1,w'.heap[k]? =w.heap[k]?)->adv w' v z j q pp=some (g1,a1))/\
 ∀(w':World) (A':Nat->Prop) (new:List C) (Fn:List Nat),Trn w w' A A' g1 a1 n arr1 ty1 fz1 new Fn (F1 ++F2)->∃c',sC c z j q pp new=some c'/\RC w' A' c' v (F1 ++Fn ++F2):=RC.lens_of (Lie.lens pp) B hN E
structure TI where
 sz:Nat
 bs:Nat
 ag:Bool
 z:Option (List C)
 kd:Nat
 el:Nat
 ln:Nat
 fs:List (Nat × Nat)
 ik:IntKind
def cOf:Value->Option C
 | .bool x=>some (.b x)
 | .int k n=>some (.i k n)
 | .string s=>some (.s s)
 | .pointer none=>some .pn
 | .slice none 0 0=>some (.r true 0 [])
 |_=>none
def jNu:List Value->Option (List C)
 |[]=>some []
 |v ::l=>match cOf v with
  |some x=>match jNu l with
   |some m=>some (x ::m)
   |none=>none
  |none=>none
def zOf:Value->Option (List C)
 | .agg ⟨l⟩=>jNu l
 |v=>match cOf v with
  |some x=>some [x]
  |none=>none
def ti0:TI:=⟨0,0,false,none,0,0,0,[],.i64⟩
def jJR (P:Program) (t:Nat):TI:=match P.info? t with
 |none=>ti0
 |some i=>
  let z:=match i.zero with
   |some v=>zOf v
   |none=>none
  match P.underlying t with
  |some (.slice e)=>⟨i.size,i.bytes,false,z,1,e,0,[],.i64⟩
  |some (.array n e)=>⟨i.size,i.bytes,true,z,2,e,n,[],.i64⟩
  |some (.struct fs)=>⟨i.size,i.bytes,true,z,3,0,0,fs.toList.map fun f=>(f.offset,f.type),.i64⟩
  |some .string=>⟨i.size,i.bytes,false,z,4,0,0,[],.i64⟩
  |some (.int k)=>⟨i.size,i.bytes,false,z,5,0,0,[],k⟩
  |some .bool=>⟨i.size,i.bytes,false,z,6,0,0,[],.i64⟩
  |some (.pointer e)=>⟨i.size,i.bytes,false,z,7,e,0,[],.i64⟩
  |_=>ti0
def zn:C->C
 | .r _ _ []=>.r true 0 []
 |c=>c
def mk1:C->C->C
 | .uk,_=>.uk
 | .ui,.i .i64 _=>.ui
 |_,c=>c
def msk:List C->List C->List C
 |c ::l,d ::m=>mk1 c d ::msk l m
 |_,m=>m
structure Tb where
 P:Program
 ti:Nat->TI
 gl:Nat->Option (List C)
 md:Nat->List Nat
 mo:P.follows .mixedOrders=true
 gl0:∀k,k<1000000->gl k=none
 ok:∀t,(ti t).kd≠0->ti t={jJR P t with z:=(ti t).z}/\∀l,(ti t).z=some l->(jJR P t).z.map (msk l)=some (l.map zn)
structure Mo where
 k:Nat
 o:Nat
 vs:List Value
 a0:Array Value
 ty:TypeId
 fz:Nat × Nat
structure St where
 tm:List (Nat × Av)
 rt:List (Nat × Rt)
def lkt:List (Nat × Av)->Nat->Av
 |[],_=>.u
 |(k,v) ::l,t=>if k=t then v else lkt l t
def lkr (T:Tb):List (Nat × Rt)->Nat->Option Rt
 |[],k=>match T.gl k with
  |some cs=>some ⟨3,cs⟩
  |none=>none
 |(j,R) ::l,k=>if j=k then some R else lkr T l k
def isV (R:Rt):Bool:=R.kd == 2 || R.kd == 4
def own (R:Rt):Bool:=decide (R.kd<=2)
variable {T:Tb}{w w':World}{A A':Nat->Prop}
def jJM (w:World) (A:Nat->Prop) (R:Rt) (m:Mo) (F:List Nat):Prop:=
 if R.kd=9 then F=[] else if isV R then RL w A R.cs m.vs F
 else ∃F' arr,F=m.k ::F'/\Lie (own R) w A m.k m.o R.cs F' arr m.ty m.fz/\m.vs=(arr.toList.drop m.o).take R.cs.length/\arr.size=m.a0.size/\(∀i,i<m.o\/m.o+R.cs.length<=i->arr[i]? =m.a0[i]?)/\(R.kd=1->m.o=0/\m.a0.size=R.cs.length)
def ad (w:World) (m:Mo) (o:Nat):Ph->Option (Nat × Nat)
 |[]=>some (m.k,m.o+o)
 |(z,j,q) ::pp=>(m.vs[o]?).bind fun v=>adv w v z j q pp
def jMa (w:World) (g a n:Nat):Option (List Value):=match w.heap[g]? with
 |some (.cells arr _ _)=>if a+n<=arr.size then some ((arr.toList.drop a).take n) else none
 |_=>none
def vls (w:World) (m:Mo) (p:Pth) (n:Nat):Option (List Value):=match p.p with
 |[]=>if p.o+n<=m.vs.length then some ((m.vs.drop p.o).take n) else none
 |_ ::_=>(ad w m p.o p.p).bind fun g=>jMa w g.1 g.2 n
def Agr (F:List Nat) (w w':World):Prop:=∀k ∈ F,w'.heap[k]? =w.heap[k]?
def TV0 (w:World) (A:Nat->Prop) (mo:Nat->Mo) (fp:Nat->List Nat):Av->Value->Prop
 | .c x,v=>RC w A x v []
 | .ag l,v=>∃arr:Array Value,v= .agg arr/\RL w A l arr.toList []
 | .nl,v=>v= .slice none 0 0
 | .pa p,v=>∃g a,(∀w',Agr (fp p.r) w w'->ad w' (mo p.r) p.o p.p=some (g,a))/\v= .pointer (some ⟨g,a,none⟩)
 | .lo p,v=>∀w',Agr (fp p.r) w w'->vls w' (mo p.r) p 1=some [v]
 | .la p n,v=>∃arr:Array Value,v= .agg arr/\arr.size=n/\∀w',Agr (fp p.r) w w'->vls w' (mo p.r) p n=some arr.toList
 | .sb p z a b,v=>∃g len cap,(∀w',Agr (fp p.r) w w'->vls w' (mo p.r) p 1=some [.slice (some ⟨g,0,none⟩) len cap])/\a<=b/\b<=len/\len<=cap/\v= .slice (some (if cap=a then⟨g,0,none⟩ else⟨g,a*z,none⟩)) (b-a) (cap-a)
 | .ev l o,v=>∃g q arr ty fz,A g/\w.heap[g]? =some (.cells arr ty fz)/\q+l.length<=arr.size/\RL w A l ((arr.toList.drop q).take l.length) []/\v= .pointer (some ⟨g,q+o,none⟩)
 | .tp _,_=>False
 | .u,_=>True
def TV (w:World) (A:Nat->Prop) (mo:Nat->Mo) (fp:Nat->List Nat):Av->Value->Prop
 | .tp l,v=>∃arr:Array Value,v= .tuple arr/\arr.size=l.length/\∀(j:Nat) x u,l[j]? =some x->arr[j]? =some u->TV0 w A mo fp x u
 |x,v=>TV0 w A mo fp x v
structure SR (T:Tb) (w:World) (A:Nat->Prop) (st:St) (mo:Nat->Mo) (fp:Nat->List Nat) (a:Nat->Value):Prop where
 rts:∀k R,lkr T st.rt k=some R->jJM w A R (mo k) (fp k)
 nd:∀k R,lkr T st.rt k=some R->(fp k).Nodup
 fa:∀k R,lkr T st.rt k=some R->own R=true->∀g ∈ fp k,¬A g
 dj:∀k k' R R',k≠k'->lkr T st.rt k=some R->lkr T st.rt k'=some R'->own R=true->∀g ∈ fp k,g ∉ fp k'
 tms:∀t,TV w A mo fp (lkt st.tm t) (a t)
 nf:∀k,lkr T st.rt k=none->fp k=[]
 gl:∀g cs,T.gl (1000000+g)=some cs->(mo (1000000+g)).k=g/\(mo (1000000+g)).o=0/\(mo (1000000+g)).a0.size=cs.length
theorem jJM.lens {R:Rt}{m:Mo}{F:List Nat}{pp:Ph}{o n:Nat}{sub:List C}(h:jJM w A R m F) (hN:F.Nodup) (hb:pp=[]->isV R=false) (Z:R.kd≠9) (G:gL pp R.cs o n=some sub) :
 ∃g1 a1 arr1 ty1 fz1 F1 Fs F2,ad w m o pp=some (g1,a1)/\w.heap[g1]? =some (.cells arr1 ty1 fz1)/\(own R=true->okz arr1.size fz1)/\a1+n<=arr1.size/\sub.length=n/\RL w A sub ((arr1.toList.drop a1).take n) Fs/\F=F1 ++Fs ++F2/\g1 ∈ F1/\
 (∀w':World,(∀k ∈ F1,w'.heap[k]? =w.heap[k]?)->ad w' m o pp=some (g1,a1))/\
 ∀(w':World) (A':Nat->Prop) (new:List C) (Fn:List Nat),Trn w w' A A' g1 a1 n arr1 ty1 fz1 new Fn (F1 ++F2)->
  ∃cs' vs',sL pp R.cs o new=some cs'/\cs'.length=R.cs.length/\vs'.length=m.vs.length/\jJM w' A' ⟨R.kd,cs'⟩ {m with vs:=vs'} (F1 ++Fn ++F2)/\∀i,(pp≠[]\/i<o\/o+n<=i)->vs'[i]? =m.vs[i]?:=by
 unfold jJM at h;rw[if_neg Z]at h
 cases hv :isV R with
 |true=>
  rw[hv,if_pos rfl]at h
  cases pp with
  |nil=>rw[hb rfl]at hv;cases hv
  |cons x pp=>
   obtain⟨z,j,q⟩:=x;rw[jP9]at G
   cases hc :R.cs[o]? with
   |none=>rw[hc]at G;simp at G
   |some c=>
    rw[hc,Option.bind_some]at G;obtain⟨v,F1,Fc,F2,h4,hF,k2,r1,r2⟩:=h.at hc;have h3:=(List.getElem?_eq_some_iff.1 hc).1
    have h6:Fc.Nodup:=by
     rw[hF,List.append_assoc]at hN;exact(List.Sublist.trans (List.sublist_append_left _ _) (List.sublist_append_right _ _)).nodup hN
    obtain⟨g1,a1,arr1,ty1,fz1,H1,Hs,H2,P,s2,s3,s4,s5,s6,Y,s8,s9,V⟩:=RC.lens k2 h6 G
    have E:∀w':World,ad w' m o ((z,j,q) ::pp)=adv w' v z j q pp:=fun w'=>by
     simp only[ad,h4,Option.bind_some]
    refine⟨g1,a1,arr1,ty1,fz1,F1 ++H1,Hs,H2 ++F2,by rw[E w];exact P,s2,fun _=>s3,s4,s5,s6,by rw[hF,Y];simp,by simp[s8],fun w' hw'=>?_,fun w' A' new Fn hT=>?_⟩
    .rw[E w']
     exact s9 w' fun k hk=>hw' k (by simp[hk])
    .have hdisj:∀k ∈ F1 ++F2,k≠g1:=by
      rintro k B rfl;rw[hF,Y]at hN;simp only[List.mem_append]at B;simp only[List.nodup_append,List.mem_append]at hN
      grind
     obtain⟨c',t1,t2⟩:=V w' A' new Fn (hT.sub fun k B=>by
      simp only[List.mem_append]at B ⊢
      rcases B with h|h <;> simp[h])
     have hk:∀k ∈ F1 ++F2,w'.heap[k]? =w.heap[k]?:=fun k B=>hT.rest k (by
      simp only[List.mem_append]at B ⊢
      rcases B with h|h <;> simp[h]) (hdisj k B)
     refine⟨R.cs.set o c',m.vs,by rw[jRS,hc,Option.bind_some,t1];rfl,by simp,rfl,?_,fun _ _=>rfl⟩;unfold jJM;rw[if_neg Z,show isV ⟨R.kd,R.cs.set o c'⟩=true from hv,if_pos rfl];show RL w' A' (R.cs.set o c') m.vs _;rw[jOQ h3]
     have k1:m.vs=m.vs.take o ++v ::m.vs.drop (o+1):=by
      have J:o<m.vs.length:=by rw[<-h.len];exact h3
      rw[<-(List.getElem?_eq_some_iff.1 h4).2,<-List.drop_eq_getElem_cons,List.take_append_drop]
     rw[k1];have:F1 ++H1 ++Fn ++(H2 ++F2)=F1 ++((H1 ++Fn ++H2) ++F2):=by simp
     rw[this];exact RL.app (r1.st hT.fro fun k B=>hk k (List.mem_append_left _ B)) (.cons t2 (r2.st hT.fro fun k B=>hk k (List.mem_append_right _ B)))
 |false=>
  rw[hv]at h;simp only[Bool.false_eq_true,if_false]at h;obtain⟨F',arr,hF,M,O,k3,h5,h1⟩:=h;rw[hF]at hN;obtain⟨g1,a1,arr1,ty1,fz1,F1,Fs,F2,P,s2,s3,s4,s5,s6,Y,⟨s8,k4⟩,s9,V⟩:=Lie.lens pp _ _ _ _ _ _ _ _ _ _ _ M hN G;have k6:=M.le;have k7:m.vs.length=R.cs.length:=by rw[O];simp;omega
  have E:∀w':World,w'.heap[m.k]? =w.heap[m.k]?->ad w' m o pp=adr w' m.k (m.o+o) pp:=fun w' hw=>by
   cases pp with
   |nil=>rfl
   |cons x pp=>
    obtain⟨z,j,q⟩:=x;simp only[ad];rw[jLM,cell_of (hw.trans M.blk)]
    have h7:o<R.cs.length:=by
     rw[jP9]at G
     cases hc :R.cs[o]? with
     |none=>rw[hc]at G;simp at G
     |some c=>exact(List.getElem?_eq_some_iff.1 hc).1
    rw[O,List.getElem?_take,if_pos h7,List.getElem?_drop,Array.getElem?_toList]
  refine⟨g1,a1,arr1,ty1,fz1,m.k ::F1,Fs,F2,by rw[E w rfl];exact P,s2,s3,s4,s5,s6,by rw[hF,Y];simp,s8,fun w' hw'=>?_,fun w' A' new Fn hT=>?_⟩
  .rw[E w' (hw' _ (List.mem_cons_self ..))]
   exact s9 w' hw'
  .obtain⟨e',arr',t1,t2,t3,t4,t5⟩:=V w' A' new Fn hT
   refine⟨e',(arr'.toList.drop m.o).take R.cs.length,t1,t2,by simp[t4];omega,?_,fun i hi=>?_⟩
   .unfold jJM
    rw[if_neg Z,show isV ⟨R.kd,e'⟩=false from hv];simp only[Bool.false_eq_true,if_false];exact⟨F1 ++Fn ++F2,arr',by simp,t3,by rw[t2],by rw[t4,k3],fun i hi=>by rw[t2]at hi;rw[t5 i hi];exact h5 i hi,fun hk=>by obtain⟨q1,q2⟩:=h1 hk;exact⟨q1,by rw[q2,t2]⟩⟩
   .rw[O,List.getElem?_take,List.getElem?_take]
    by_cases J:i<R.cs.length
    .rw[if_pos J,if_pos J,List.getElem?_drop,List.getElem?_drop,Array.getElem?_toList,Array.getElem?_toList]
     cases pp with
     |nil=>
      simp only[adr,Option.some.injEq,Prod.mk.injEq]at P;obtain⟨rfl,rfl⟩:=P;obtain⟨k5,b1,b2,b3,b4⟩:=hT.blk;rw[M.blk]at s2;cases s2;rw[t3.blk]at b1;cases b1;exact b3 _ (by rcases hi with h|h|h <;> first|exact absurd rfl h|omega)
     |cons x pp=>
      have:m.k≠g1:=by
       rintro rfl;have h8:=k4 (by simp);rw[Y,List.nodup_cons]at hN;exact hN.1 (by simp[h8])
      have:=hT.rest m.k (by simp) this;rw[t3.blk,M.blk]at this;cases this;rfl
    .rw[if_neg J,if_neg J]
end V
end Go.Proofs.YtnhbcdnmfafbiaaGreatDoor
