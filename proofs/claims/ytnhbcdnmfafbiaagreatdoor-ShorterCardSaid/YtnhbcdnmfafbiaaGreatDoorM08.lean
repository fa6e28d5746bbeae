import Derived.Test.YtnhbcdnmfafbiaaGreatDoorM07
set_option linter.unusedVariables false
set_option linter.unusedSimpArgs false
set_option maxHeartbeats 20000000
namespace Go.Proofs.YtnhbcdnmfafbiaaGreatDoor
namespace V
open Go.RowKit
section
variable {T:Tb}{c c' c'':Cf}
theorem Ok.frame (hc:Ok T c) (hX:c.X=[]) {τ:Lt}(hτ:LOk T τ) (ha:jLA T τ c.st):∃cs:Cf,Ok T cs/\cs.st=τ.s/\cs.w=c.w/\cs.a=c.a/\cs.X=[]/\∀(c2:Cf) (st':St),Ok T c2->Stp T cs c2->c2.st=τ.s'->Mrg T τ c.st st'->(∀t,t ∉ τ.wt->c2.a t=c.a t)->∃c',Ok T c'/\Stp T c c'/\c'.st=st'/\c'.w=c2.w/\c'.a=c2.a/\c'.X=[]:=by
 have P:=hc.sx.sr
 have h3:∀k S,lkr T τ.s.rt k=some S->∃R,lkr T c.st.rt k=some R/\(S=R\/S=dem R)/\(own S=true->S=R/\k ∈ τ.wr)/\(k ∈ τ.wr->S=R):=fun k S hk=>by
  rcases Nat.lt_or_ge k 1000000 with r4|k8
  .by_cases hf:k ∈ τ.fr
   .by_cases B:k ∈ τ.wr
    .rw[ha.rw k hf B]at hk
     exact⟨S,hk,.inl rfl,fun _=>⟨rfl,B⟩,fun _=>rfl⟩
    .rw[ha.rr k hf B]at hk
     cases hR :lkr T c.st.rt k with
     |none=>rw[hR]at hk;cases hk
     |some R=>
      rw[hR]at hk;cases hk;exact⟨R,rfl,.inr rfl,fun h=>(by rw[jTM]at h;cases h),fun h=>absurd h B⟩
   .rw[hτ.sr k r4 hf]at hk;cases hk
  .have M:=hk
   rw[ha.gk k k8]at hk;refine⟨S,hk,.inl rfl,fun h=>?_,fun _=>rfl⟩;exfalso
   by_cases B:k ∈ τ.wr
   .have:=hτ.wk k B;omega
   .by_cases hf:k ∈ τ.fr
    .rw[ha.rr k hf B,hk]at M
     have M:some (dem S)=some S:=M;have:=jTM S;rw[Option.some.inj M,h]at this;cases this
    .rcases jL1 (T:=T) hk with hm|⟨_,cs,_,rfl⟩
     .rcases jL1 (T:=T) M with hm'|⟨_,cs,_,rfl⟩
      .exact hτ.sk (k,S) hm' k8
      .cases h
     .cases h
 have h7:∀k,(lkr T τ.s.rt k).isSome=true->(if(lkr T τ.s.rt k).isSome=true then c.fp k else[])=c.fp k:=fun k h=>if_pos h
 have h5:∀k g,g ∈ (if(lkr T τ.s.rt k).isSome=true then c.fp k else[])->g ∈ c.fp k:=fun k g h=>by
  split at h
  .exact h
  .cases h
 have k7:Ok T ⟨c.w,c.A,τ.s,c.mo,fun k=>if(lkr T τ.s.rt k).isSome=true then c.fp k else[],c.a,[]⟩:=by
  refine⟨⟨⟨fun k S hk=>?_,fun k S hk=>?_,fun k S hk J g E h=>?_,fun k k' S S' hne hk M J g E G=>?_,fun t=>?_,fun k hk=>?_,P.gl⟩,List.nodup_nil,fun g E=>(by cases E),fun g E=>(by cases E),fun g E=>(by cases E)⟩,hc.al⟩
  .obtain⟨R,hR,h1,_⟩:=h3 k S hk
   show jJM c.w c.A S (c.mo k) (if(lkr T τ.s.rt k).isSome=true then c.fp k else[]);have hk:lkr T τ.s.rt k=some S:=hk;rw[h7 k (by rw[hk];rfl)];rcases h1 with rfl|rfl
   .exact P.rts k S hR
   .exact(P.rts k R hR).dem
  .obtain⟨R,hR,_⟩:=h3 k S hk
   show(if(lkr T τ.s.rt k).isSome=true then c.fp k else[]).Nodup;have hk:lkr T τ.s.rt k=some S:=hk;rw[h7 k (by rw[hk];rfl)];exact P.nd k R hR
  .obtain⟨R,hR,_,h2,_⟩:=h3 k S hk
   obtain⟨rfl,_⟩:=h2 J;exact P.fa k S hR J g (h5 k g E) h
  .obtain⟨R,hR,_,h2,_⟩:=h3 k S hk
   obtain⟨R',V,_⟩:=h3 k' S' M;obtain⟨rfl,_⟩:=h2 J;exact P.dj k k' S R' hne hR V J g (h5 k g E) (h5 k' g G)
  .show TV c.w c.A c.mo _ (lkt τ.s.tm t) (c.a t)
   by_cases ht:t ∈ τ.ft
   .rcases ha.tm t ht with e|e
    .rw[e];trivial
    have:=P.tms t;rw[<-e]at this;exact TV.nm (fun r hr=>⟨rfl,h7 r (hτ.sn t r hr)⟩) (fun r hr=>⟨rfl,rfl⟩) this
   .rw[hτ.st t ht];trivial
  .have hk:lkr T τ.s.rt k=none:=hk
   show(if(lkr T τ.s.rt k).isSome=true then c.fp k else[])=[];rw[hk];rfl
 refine⟨_,k7,rfl,rfl,rfl,rfl,fun c2 st' h2 hs hst hm hta=>?_⟩;have Z:=h2.sx.sr
 have h4:∀g,Ow T ⟨c.w,c.A,τ.s,c.mo,fun k=>if(lkr T τ.s.rt k).isSome=true then c.fp k else[],c.a,[]⟩ g->∃k R,k ∈ τ.wr/\lkr T c.st.rt k=some R/\own R=true/\g ∈ c.fp k:=fun g E=>by
  rcases E with⟨k,S,hk,J,E⟩|E
  .obtain⟨R,hR,_,h2,_⟩:=h3 k S hk
   obtain⟨rfl,B⟩:=h2 J;exact⟨k,S,B,hR,J,h5 k g E⟩
  .cases E
 have r8:c.w.heap.size<=c2.w.heap.size:=hs.low.size
 have h8:∀k,k ∉ τ.wr->∀g ∈ c.fp k,c2.w.heap[g]? =c.w.heap[g]?:=fun k hk g E=>hs.kp g (jKa P E) fun J=>by
  obtain⟨k',R,B,hR,k4,G⟩:=h4 g J;exact jLd P hR k4 (fun e=>hk (by rw[e];exact B)) E G
 have k6:∀k,c.A k->c2.A k/\c2.w.heap[k]? =c.w.heap[k]?:=fun k hk=>⟨hs.fa k hk,hs.kp k (hc.al k hk) fun J=>by
  obtain⟨k',R,B,hR,k4,G⟩:=h4 k J
  exact P.fa k' R hR k4 k G hk⟩
 have k5:∀k R,lkr T c2.st.rt k=some R->own R=true->∀g ∈ c2.fp k,(∃k' R',k' ∈ τ.wr/\lkr T c.st.rt k'=some R'/\own R'=true/\g ∈ c.fp k')\/c.w.heap.size<=g:=fun k R hk J g E=>by
  rcases hs.ow g (.inl ⟨k,R,hk,J,E⟩)with h|h
  .exact .inl (h4 g h)
  .exact .inr h
 have k3:∀k R,lkr T c2.st.rt k=some R->own R=false->R.kd≠9->∃R0,lkr T c.st.rt k=some R0/\c2.mo k=c.mo k/\c2.fp k=c.fp k/\(k ∈ τ.wr->R0=R):=fun k R hk J h9=>by
  obtain⟨a1,a2,a3⟩:=hs.ro k R hk J h9;obtain⟨R0,b1,b2,b3,b4⟩:=h3 k R a1;have a1:lkr T τ.s.rt k=some R:=a1;refine⟨R0,b1,a2,?_,fun h=>(b4 h).symm⟩;rw[a3];exact h7 k (by rw[a1];rfl)
 have q9:∀k R,lkr T c2.st.rt k=some R->R.kd=9->c2.fp k=[]:=fun k R hk h9=>by
  have:=Z.rts k R hk;unfold jJM at this;rw[if_pos h9]at this;exact this
 have k9:∀r ∈ τ.wi,(c2.mo r).k=(c.mo r).k/\(c2.mo r).o=(c.mo r).o:=fun r hr=>by
  obtain⟨t,o,ht,B,e1,e2⟩:=hτ.wi r hr;have h1:=k7.sx.sr.tms t;have h2:=Z.tms t;rw[show lkt (Cf.st ⟨c.w,c.A,τ.s,c.mo,fun k=>if(lkr T τ.s.rt k).isSome=true then c.fp k else[],c.a,[]⟩).tm t= .pa ⟨r,o,[]⟩ from e1]at h1;rw[hst,e2,hta t B]at h2;obtain⟨g1,a1,x1,y1⟩:=h1;obtain⟨g2,a2,x2,y2⟩:=h2;have x1:=x1 c.w (jJQ _ _);have x2:=x2 c2.w (jJQ _ _);simp only[ad,Option.some.injEq,Prod.mk.injEq]at x1 x2;rw[show(Cf.a ⟨c.w,c.A,τ.s,c.mo,fun k=>if(lkr T τ.s.rt k).isSome=true then c.fp k else[],c.a,[]⟩ t)=c.a t from rfl]at y1;rw[y1]at y2;injection y2 with y2
  injection y2 with y2
  injection y2 with z1 z2
  omega
 have h6:∀k k',k ∈ τ.wr->k' ∉ τ.wr->∀g ∈ c2.fp k,(∃K,lkr T c.st.rt k'=some K/\(own K=true\/∃R,lkr T c2.st.rt k=some R/\own R=true))->g ∉ c.fp k':=fun k k' hk M g E ⟨K,hK,hor⟩ G=>by
  cases hR :lkr T c2.st.rt k with
  |none=>rw[Z.nf k hR]at E;cases E
  |some R=>
   cases J :own R with
   |true=>
    rcases k5 k R hR J g E with⟨k2,R2,r7,r2,r5,r3⟩|h
    .exact jLd P r2 r5 (fun e=>M (by rw[e];exact r7)) G r3
    .have:=jKa P G;omega
   |false=>
    rcases hor with r1|⟨R',V,Y⟩
    .by_cases h9:R.kd=9
     .rw[q9 k R hR h9]at E;cases E
     .obtain⟨R0,b1,b2,b3,b4⟩:=k3 k R hR J h9
      rw[b3]at E;exact jLd P hK r1 (fun e=>M (by rw[<-e];exact hk)) E G
    .rw[hR]at V;cases V;rw[J]at Y;cases Y
 refine⟨⟨c2.w,c2.A,st',fun k=>if k ∈ τ.wr then c2.mo k else c.mo k,fun k=>if k ∈ τ.wr then c2.fp k else c.fp k,c2.a,[]⟩,⟨⟨⟨fun k R hk=>?_,fun k R hk=>?_,fun k R hk J g E h=>?_,fun k k' R R' hne hk M J g E G=>?_,fun t=>?_,fun k hk=>?_,fun g cs E=>?_⟩,List.nodup_nil,fun g E=>(by cases E),fun g E=>(by cases E),fun g E=>(by cases E)⟩,h2.al⟩,⟨hs.low,fun g E hno=>hs.kp g E fun J=>?_,fun g E=>?_,hs.fa,fun g E=>?_,fun r R hr h0=>?_,fun r R hr J h9=>?_⟩,rfl,rfl,rfl,rfl⟩
 .show jJM c2.w c2.A R (if k ∈ τ.wr then c2.mo k else c.mo k) (if k ∈ τ.wr then c2.fp k else c.fp k)
  have hk:lkr T st'.rt k=some R:=hk
  by_cases B:k ∈ τ.wr
  .rw[if_pos B,if_pos B]
   rw[hm.rw k B,<-hst]at hk;exact Z.rts k R hk
  .rw[if_neg B,if_neg B]
   rw[hm.rk k B]at hk;exact(P.rts k R hk).stay k6 (h8 k B)
 .show(if k ∈ τ.wr then c2.fp k else c.fp k).Nodup
  have hk:lkr T st'.rt k=some R:=hk
  by_cases B:k ∈ τ.wr
  .rw[if_pos B]
   rw[hm.rw k B,<-hst]at hk;exact Z.nd k R hk
  .rw[if_neg B]
   rw[hm.rk k B]at hk;exact P.nd k R hk
 .have hk:lkr T st'.rt k=some R:=hk
  have E:g ∈ (if k ∈ τ.wr then c2.fp k else c.fp k):=E
  by_cases B:k ∈ τ.wr
  .rw[if_pos B]at E
   rw[hm.rw k B,<-hst]at hk;exact Z.fa k R hk J g E h
  .rw[if_neg B]at E
   rw[hm.rk k B]at hk;rcases hs.fb g h with h|h|h
   .exact P.fa k R hk J g E h
   .obtain⟨k',R',O,V,Y,G⟩:=h4 g h
    exact jLd P V Y (fun e=>B (by rw[e];exact O)) E G
   .have h:c.w.heap.size<=g:=h
    have:=jKa P E;omega
 .have hk:lkr T st'.rt k=some R:=hk
  have M:lkr T st'.rt k'=some R':=M;have E:g ∈ (if k ∈ τ.wr then c2.fp k else c.fp k):=E;have G:g ∈ (if k' ∈ τ.wr then c2.fp k' else c.fp k'):=G
  by_cases B:k ∈ τ.wr
  .rw[if_pos B]at E
   rw[hm.rw k B,<-hst]at hk
   by_cases O:k' ∈ τ.wr
   .rw[if_pos O]at G
    rw[hm.rw k' O,<-hst]at M;exact Z.dj k k' R R' hne hk M J g E G
   .rw[if_neg O]at G
    rw[hm.rk k' O]at M;exact h6 k k' B O g E ⟨R',M,.inr ⟨R,hk,J⟩⟩ G
  .rw[if_neg B]at E
   rw[hm.rk k B]at hk
   by_cases O:k' ∈ τ.wr
   .rw[if_pos O]at G
    exact h6 k' k O B g G ⟨R,hk,.inl J⟩ E
   .rw[if_neg O]at G
    rw[hm.rk k' O]at M;exact P.dj k k' R R' hne hk M J g E G
 .show TV c2.w c2.A _ _ (lkt st'.tm t) (c2.a t)
  by_cases ht:t ∈ τ.wt
  .rw[hm.tw t ht]
   have h0:=Z.tms t;rw[hst]at h0;refine TV.nm (fun r hr=>?_) (fun r hr=>?_) h0
   rotate_left
   .show(if r ∈ τ.wr then c2.mo r else c.mo r).k=_/\(if r ∈ τ.wr then c2.mo r else c.mo r).o=_
    by_cases B:r ∈ τ.wr
    .rw[if_pos B];exact⟨rfl,rfl⟩
    .rw[if_neg B]
     rcases(hτ.ws t ht r hr).2 with h|h|⟨R,hR,J,h9⟩
     .exact absurd h B
     .obtain⟨h1,h2⟩:=k9 r h;exact⟨h1.symm,h2.symm⟩
     .rw[<-hst]at hR
      obtain⟨R0,b1,b2,b3,b4⟩:=k3 r R hR J h9;rw[b2];exact⟨rfl,rfl⟩
   rcases hτ.wn t ht r hr with h|⟨_,R,hR,J,h9⟩
   .exact⟨if_pos h,if_pos h⟩
   .rw[<-hst]at hR
    obtain⟨R0,b1,b2,b3,b4⟩:=k3 r R hR J h9
    by_cases B:r ∈ τ.wr
    .exact⟨if_pos B,if_pos B⟩
    .exact⟨(if_neg B).trans b2.symm,(if_neg B).trans b3.symm⟩
  .rw[hm.tk t ht,hta t ht]
   cases hh :jLc τ.wr τ.wi (lkt c.st.tm t) with
   |true=>unfold jJ2;rw[hh];trivial
   |false=>
    have e:jJ2 τ.wr τ.wi (lkt c.st.tm t)=lkt c.st.tm t:=by unfold jJ2;rw[hh];rfl
    rw[e];have h0:=P.tms t;obtain⟨k1,r6⟩:=jYl hh;have h1:TV c.w c.A c.mo (fun k=>if k ∈ τ.wr then[] else c.fp k) (lkt c.st.tm t) (c.a t):=TV.nm (fun r hr=>⟨rfl,if_neg (k1 r hr)⟩) (fun r hr=>⟨rfl,rfl⟩) h0
    have h2:=TV.same (w':=c2.w) (A':=c2.A) k6 (fun k g E=>by
     by_cases B:k ∈ τ.wr
     .rw[if_pos B]at E;cases E
     .rw[if_neg B]at E;exact h8 k B g E) h1
    refine TV.nm (fun r hr=>⟨if_neg (k1 r hr),(if_neg (k1 r hr)).trans (if_neg (k1 r hr)).symm⟩) (fun r hr=>?_) h2;show(if r ∈ τ.wr then c2.mo r else c.mo r).k=_/\(if r ∈ τ.wr then c2.mo r else c.mo r).o=_
    by_cases B:r ∈ τ.wr
    .rw[if_pos B];exact k9 r (r6 r hr B)
    .rw[if_neg B];exact⟨rfl,rfl⟩
 .have hk:lkr T st'.rt k=none:=hk
  show(if k ∈ τ.wr then c2.fp k else c.fp k)=[]
  by_cases B:k ∈ τ.wr
  .rw[if_pos B]
   rw[hm.rw k B,<-hst]at hk;exact Z.nf k hk
  .rw[if_neg B]
   rw[hm.rk k B]at hk;exact P.nf k hk
 .have B:1000000+g ∉ τ.wr:=fun h=>by have:=hτ.wk _ h;omega
  show(if 1000000+g ∈ τ.wr then c2.mo _ else c.mo _).k=g/\(if 1000000+g ∈ τ.wr then c2.mo _ else c.mo _).o=0/\(if 1000000+g ∈ τ.wr then c2.mo _ else c.mo _).a0.size=cs.length;rw[if_neg B];exact P.gl g cs E
 .obtain⟨k',R',O,V,Y,G⟩:=h4 g J
  exact hno (.inl ⟨k',R',V,Y,G⟩)
 .rcases E with⟨k,R,hk,J,E⟩|E
  .have hk:lkr T st'.rt k=some R:=hk
   have E:g ∈ (if k ∈ τ.wr then c2.fp k else c.fp k):=E
   by_cases B:k ∈ τ.wr
   .rw[if_pos B]at E
    rw[hm.rw k B,<-hst]at hk;rcases k5 k R hk J g E with⟨k',R',O,V,Y,G⟩|h
    .exact .inl (.inl ⟨k',R',V,Y,G⟩)
    .exact .inr h
   .rw[if_neg B]at E
    rw[hm.rk k B]at hk;exact .inl (.inl ⟨k,R,hk,J,E⟩)
  .cases E
 .rcases hs.fb g E with h|h|h
  .exact .inl h
  .obtain⟨k',R',O,V,Y,G⟩:=h4 g h
   exact .inr (.inl (.inl ⟨k',R',V,Y,G⟩))
  .exact .inr (.inr h)
 .show ∃R',lkr T st'.rt r=some R'/\_/\_/\base (if r ∈ τ.wr then c2.mo r else c.mo r)=_
  by_cases B:r ∈ τ.wr
  .by_cases hf:r ∈ τ.fr
   .have hrs:lkr T τ.s.rt r=some R:=by rw[ha.rw r hf B];exact hr
    obtain⟨R',e1,e2,e3,e4⟩:=hs.pr r R hrs h0;rw[hst]at e1;exact⟨R',by rw[hm.rw r B];exact e1,e2,e3,by rw[if_pos B];exact e4⟩
   .have:=ha.nw r B hf R hr;omega
  .exact⟨R,by rw[hm.rk r B];exact hr,h0,rfl,by rw[if_neg B]⟩
 .have hr:lkr T st'.rt r=some R:=hr
  by_cases B:r ∈ τ.wr
  .rw[hm.rw r B,<-hst]at hr
   obtain⟨R0,b1,b2,b3,b4⟩:=k3 r R hr J h9;have:=b4 B;subst this;exact⟨b1,(if_pos B).trans b2,(if_pos B).trans b3⟩
  .rw[hm.rk r B]at hr
   exact⟨hr,if_neg B,if_neg B⟩
end
inductive jLy (T:Tb) (n:Nat) (fz:List Nat) (ops:Array Oper) (o:Oper) (s s':St):Prop where
 |st (hw:jKz T s ops o=some true) (h:jKG T n fz s o=some s')
 |fn (hw:jKz T s ops o=some true) {f:Nat}{xs:Array Operand}{ats:Array TypeId}(ho:o.op= .call ⟨.value (.func f),xs,ats⟩) {as:List Arg}{st1:St}{bp:Option Pth}(h1:jMu T s (jLC xs.toList (T.md f) ats.toList)=some (as,st1,bp)) {rs:List Arg}{bs:List (List C)}(hD:Does T f as rs bs) (h2:jMv T n o.dst st1 bp rs bs=some s')
 |sk (hw:jKz T s ops o=some false) (h:jLV n o s=some s')
def mkM (T:Tb) (τ:Lt) (st:St):St:=⟨(τ.wt.map fun t=>(t,lkt τ.s'.tm t)) ++(st.tm.filter fun q=>!τ.wt.contains q.1).map fun q=>(q.1,jJ2 τ.wr τ.wi q.2),(τ.wr.filterMap fun k=>(lkr T τ.s'.rt k).map fun R=>(k,R)) ++st.rt.filter fun q=>!τ.wr.contains q.1⟩
section
variable {T:Tb}{c c' c'':Cf}{n:Nat}{fz:List Nat}{ops:Array Oper}
theorem jN4 (f:Nat->Av) (rest:List (Nat × Av)):∀(l:List Nat) (t:Nat),lkt ((l.map fun t=>(t,f t)) ++rest) t=if t ∈ l then f t else lkt rest t
 |[],t=>by simp
 |x ::l,t=>by
  simp only[List.map_cons,List.cons_append,lkt,jN4 f rest l t,List.mem_cons]
  by_cases h:x=t
  .subst h;simp
  .rw[if_neg h]
   have:¬t=x:=fun e=>h e.symm;simp[this]
theorem jST (p:Nat->Bool) (g:Av->Av) (B:g .u= .u):∀(l:List (Nat × Av)) (t:Nat),p t=true->lkt ((l.filter fun q=>p q.1).map fun q=>(q.1,g q.2)) t=g (lkt l t)
 |[],t,_=>by simp[lkt,B]
 |(k,x) ::l,t,h=>by
  have ih:=jST p g B l t h
  by_cases e:k=t
  .subst e
   rw[List.filter_cons_of_pos (by simpa using h)];simp[lkt]
  .by_cases hp:p k=true
   .rw[List.filter_cons_of_pos (by simpa using hp)]
    simp only[List.map_cons,lkt,if_neg e];exact ih
   .rw[List.filter_cons_of_neg (by simpa using hp)]
    simp only[lkt,if_neg e];exact ih
theorem jN8 (f:Nat->Option Rt) (rest:List (Nat × Rt)):∀(l:List Nat) (k:Nat),lkr T ((l.filterMap fun k=>(f k).map fun R=>(k,R)) ++rest) k=if k ∈ l/\(f k).isSome=true then f k else lkr T rest k
 |[],k=>by simp
 |x ::l,k=>by
  have ih:=jN8 f rest l k
  cases hx :f x with
  |none=>
   rw[List.filterMap_cons_none (by rw[hx];rfl),ih]
   by_cases e:k=x
   .subst e;simp[hx]
   .simp[e]
  |some R=>
   rw[List.filterMap_cons_some (b:=(x,R)) (by rw[hx];rfl)];simp only[List.cons_append,lkr];rw[ih]
   by_cases e:x=k
   .subst e;simp[hx]
   .rw[if_neg e]
    have:¬k=x:=fun e'=>e e'.symm;simp[this]
theorem jN6 (p:Nat->Bool):∀(l:List (Nat × Rt)) (k:Nat),lkr T (l.filter fun q=>p q.1) k=if p k=true then lkr T l k else lkr T [] k
 |[],k=>by simp
 |(j,R) ::l,k=>by
  have ih:=jN6 p l k
  by_cases hp:p j=true
  .rw[List.filter_cons_of_pos (by simpa using hp)]
   simp only[lkr]at ih ⊢;rw[ih]
   by_cases e:j=k
   .subst e;simp[hp]
   .simp[e]
  .rw[List.filter_cons_of_neg (by simpa using hp),ih]
   by_cases e:j=k
   .subst e;simp[hp]
   .simp only[lkr];rw[if_neg e]
theorem jPM {τ:Lt}(hk:∀k ∈ τ.wr,k<1000000) (st:St):Mrg T τ st (mkM T τ st):=by
 refine⟨fun t ht=>?_,fun t ht=>?_,fun k hw=>?_,fun k hw=>?_⟩
 .show lkt ((τ.wt.map fun t=>(t,lkt τ.s'.tm t)) ++_) t=_
  rw[jN4,if_pos ht]
 .show lkt ((τ.wt.map fun t=>(t,lkt τ.s'.tm t)) ++_) t=_
  rw[jN4,if_neg ht];exact jST (fun t=>!τ.wt.contains t) (jJ2 τ.wr τ.wi) (by simp[jJ2,jLc,nms,nm0,sof,so0]) st.tm t (by simpa using ht)
 .show lkr T ((τ.wr.filterMap fun k=>(lkr T τ.s'.rt k).map fun R=>(k,R)) ++_) k=_
  rw[jN8 (fun k=>lkr T τ.s'.rt k)]
  cases h :lkr T τ.s'.rt k with
  |some R=>simp[hw]
  |none=>
   rw[if_neg (by simp),jN6 (fun k=>!τ.wr.contains k),if_neg (by simpa using hw)];simp only[lkr];rw[T.gl0 k (hk k hw)]
 .show lkr T ((τ.wr.filterMap fun k=>(lkr T τ.s'.rt k).map fun R=>(k,R)) ++_) k=_
  rw[jN8 (fun k=>lkr T τ.s'.rt k),if_neg (by simp[hw]),jN6 (fun k=>!τ.wr.contains k),if_pos (by simpa using hw)]
theorem jUC {P:Program}{o:Oper}{a:Act}{w:World}{K:Act->World->Prop}{Q:Exit->Act->World->Prop}(h:o.wp P a w K Q):o.wp P a w (fun a' w'=>K a' w'/\∀t,o.dst≠some t->a'.tmps.getD t undef=a.tmps.getD t undef) Q:=by
 have hp:∀(b:Act) (v:Value) (t:Nat),o.dst≠some t->(b.put o.dst v).tmps.getD t undef=b.tmps.getD t undef:=fun b v t ht=>by
  cases hd :o.dst with
  |none=>rfl
  |some d=>
   have B:d≠t:=fun e=>ht (by rw[hd,e]);show(b.tmps.setIfInBounds d v).getD t undef=_;rw[Array.getD_eq_getD_getElem?,Array.getElem?_setIfInBounds_ne B,<-Array.getD_eq_getD_getElem?]
 unfold Oper.wp at *;generalize (execOp a.eval o).run P w=r at *
 cases r with
 |ok nx w'=>
  cases nx with
  |value v=>exact⟨h,hp a v⟩
  |skip=>exact⟨h,hp a undef⟩
  |defer d=>exact⟨h,hp {a with defers:=d ::a.defers} undef⟩
  |enter f args=>exact Calls.mono h fun e w'' he=>by cases e <;> first|exact⟨he,hp a _⟩|exact he
  |row r args=>exact Rows.mono h fun v w'' he=>⟨he,hp a v⟩
  |_=>simp only[Oper.upon]at h
 |halt x w'=>cases x <;> simp only[Oper.upon]at h ⊢ <;> exact h
theorem jXh (hc:Ok T c) {act:Act}(V:Ar n c act) (hX:c.X=[]) {τ:Lt}(hτ:LOk T τ) {i:Nat}{o:Oper}(ho:ops[i]? =some o) (h3:jLy T n fz ops o τ.s τ.s') (hd:∀d,o.dst=some d->d ∈ τ.wt) (ha:jLA T τ c.st) {st':St}(hm:Mrg T τ c.st st') {K:Act->World->Prop}{Q:Exit->Act->World->Prop}(hK:∀c' act',Ok T c'->Stp T c c'->c'.X=[]->Ar n c' act'->c'.st=st'->K act' c'.w):wpOp T.P ops Q i K act c.w:=by
 obtain⟨cs,Z,s2,s3,s4,s5,s6⟩:=hc.frame hX hτ ha;have E:Ar n cs act:=V.same s4
 have fin:∀(B:Cf) (act2:Act),Ok T B->Stp T cs B->Ar n B act2->B.st=τ.s'->(∀t,o.dst≠some t->act2.tmps.getD t undef=act.tmps.getD t undef)->K act2 B.w:=fun B act2 J M G O Y=>by
  obtain⟨c',j1,j2,j3,j4,j5,j6⟩:=s6 B st' J M O hm (fun t ht=>by
   rw[<-G.at' t,Y t (fun e=>ht (hd t e)),V.at' t])
  have:=hK c' act2 j1 j2 j6 (G.same j5) j3;rw[j4]at this;exact this
 unfold wpOp;rw[ho];simp only
 have go:VOp T n fz o (fun st=>st=τ.s') cs.st->o.wp T.P act c.w K Q:=fun h=>by
  have:=jUC (VOp.ok Z E s5 h (Q':=Q) (K':=fun act2 w2=>∃B,Ok T B/\Stp T cs B/\Ar n B act2/\B.st=τ.s'/\B.w=w2) fun B act2 J M k3 G O=>⟨B,J,M,G,O,rfl⟩);rw[s3]at this;refine Oper.wp_mono (fun a2 w2 ⟨⟨B,J,M,G,O,Y⟩,k7⟩=>?_) this;rw[<-Y];exact fin B a2 J M G O k7
 cases h3 with
 |st hw h=>
  rw[<-s2]at hw h;rw[if_pos (joN Z E hw)];exact .inl (go (.st _ h rfl))
 |fn hw ho' h1 hD h2=>
  rw[<-s2]at hw h1;rw[if_pos (joN Z E hw)];exact .inl (go (.fn ho' h1 hD h2 rfl))
 |sk hw h=>
  rw[<-s2]at hw h;rw[if_neg (by rw[joN Z E hw];exact Bool.false_ne_true)];obtain⟨B,J,M,k3,G,O,Y⟩:=jRM Z E s5 h
  have:=fin B _ J M O Y (fun t ht=>by
   cases hd :o.dst with
   |none=>rfl
   |some d=>
    have h4:d≠t:=fun e=>ht (by rw[hd,e]);show(act.tmps.setIfInBounds d undef).getD t undef=_
    rw[Array.getD_eq_getD_getElem?,Array.getElem?_setIfInBounds_ne h4,<-Array.getD_eq_getD_getElem?])
  rw[G,s3]at this;exact this
end
def jLp (l l':List Nat):Bool:=l.all fun x=>!l'.contains x
def jL4 (a b:Lt):Bool:=jLp a.wt b.ft && jLp a.wt b.wt && jLp b.wt a.ft && jLp a.wr b.fr && jLp a.wr b.wr && jLp b.wr a.fr && jLp a.so (b.wr.filter fun r=>!b.wi.contains r) && jLp b.so (a.wr.filter fun r=>!a.wi.contains r)
inductive jKV (T:Tb):List (Nat × Lt)->St->St->Prop where
 |nil {st:St}:jKV T [] st st
 |cons {i:Nat}{τ:Lt}{l:List (Nat × Lt)}{st st1 st2:St}(ha:jLA T τ st) (hm:Mrg T τ st st1) (h:jKV T l st1 st2):jKV T ((i,τ) ::l) st st2
def jN0 (bs:List Nat):List Edge->Nat->Nat
 |[],m=>m
 |e ::es,m=>jN0 bs es (if Region.binds .any e then(m ||| 1 <<< e.on) ||| bs.getD e.on 0 else m)
def jMz:List Oper->List Nat->List Nat
 |[],bs=>bs
 |o ::l,bs=>jMz l (bs ++[jN0 bs o.after.toList 0])
def jL0:List Oper->Nat->Bool
 |[],_=>true
 |o ::l,k=>(o.after.toList.all fun e=>!Region.binds .any e || Nat.blt e.on k) && jL0 l (k+1)
def jOh (τ:Lt) (m:Nat):List Lt->Nat->Bool
 |[],_=>true
 |σ ::l,j=>(m.testBit j || jL4 σ τ) && jOh τ m l (j+1)
def jL7:List Lt->List Lt->List Nat->Bool
 |pre,τ ::l,m ::bs=>jOh τ m pre 0 && jL7 (pre ++[τ]) l bs
 |_,[],_=>true
 |_,_ ::_,[]=>false
def ixs:Nat->List Lt->List (Nat × Lt)
 |_,[]=>[]
 |k,τ ::l=>(k,τ) ::ixs (k+1) l
section
variable {T:Tb}{c c' c'':Cf}{n:Nat}{fz:List Nat}{ops:Array Oper}
theorem jLE {l B:List Nat}(h:jLp l B=true) {x:Nat}(hx:x ∈ l):x ∉ B:=by
 have:=List.all_eq_true.1 h x hx;simpa using this
theorem jPY {wr wi:List Nat}{x:Av}(B:∀r ∈ nms x,r ∉ wr) (h2:∀r ∈ sof x,r ∈ wr->r ∈ wi):jJ2 wr wi x=x:=by
 unfold jJ2;rw[jYk B h2];rfl
theorem jS4 {wr wi:List Nat}{x:Av}:jJ2 wr wi x= .u\/jJ2 wr wi x=x:=by
 unfold jJ2
 split
 .exact .inl rfl
 .exact .inr rfl
theorem jXQ (a B b b':List Nat) (x:Av):jJ2 a B (jJ2 b b' x)=jJ2 b b' (jJ2 a B x):=by
 have G:∀a B,jJ2 a B .u= .u:=fun a B=>by simp[jJ2,jLc,nms,nm0,sof,so0]
 cases h1 :jLc a B x with
 |true=>
  have E:jJ2 a B x= .u:=by unfold jJ2;rw[if_pos h1]
  cases h2 :jLc b b' x with
  |true=>
   have J:jJ2 b b' x= .u:=by unfold jJ2;rw[if_pos h2]
   rw[E,J,G,G]
  |false=>
   have J:jJ2 b b' x=x:=by unfold jJ2;rw[h2];rfl
   rw[J,E,G]
 |false=>
  have E:jJ2 a B x=x:=by unfold jJ2;rw[h1];rfl
  rw[E];rcases jS4 (wr:=b) (wi:=b') (x:=x)with h|h
  .rw[h,G]
  .rw[h,E]
theorem swap {a b:Lt}(M:LOk T a) (P:LOk T b) (hi:jL4 a b=true) {st Z s2:St}(V:jLA T a st) (J:Mrg T a st Z) (a2:jLA T b Z) (Y:Mrg T b Z s2):jLA T b st/\jLA T a (mkM T b st)/\Mrg T a (mkM T b st) s2:=by
 unfold jL4 at hi;simp only[Bool.and_eq_true]at hi;obtain⟨⟨⟨⟨⟨⟨⟨i1,i2⟩,i3⟩,i4⟩,i5⟩,i6⟩,i7⟩,i8⟩:=hi
 have j7:∀r ∈ a.so,r ∈ b.wr->r ∈ b.wi:=fun r E B=>by
  have:=jLE i7 E;simpa[B] using this
 have j8:∀r ∈ b.so,r ∈ a.wr->r ∈ a.wi:=fun r E B=>by
  have:=jLE i8 E;simpa[B] using this
 have j2:∀x ∈ b.wt,x ∉ a.wt:=fun x hx hx'=>jLE i2 hx' hx;have j1:∀x ∈ b.ft,x ∉ a.wt:=fun x hx hx'=>jLE i1 hx' hx;have j4:∀x ∈ b.fr,x ∉ a.wr:=fun x hx hx'=>jLE i4 hx' hx;have j5:∀x ∈ b.wr,x ∉ a.wr:=fun x hx hx'=>jLE i5 hx' hx;have j3:∀x ∈ a.ft,x ∉ b.wt:=fun x hx hx'=>jLE i3 hx' hx;have j6:∀x ∈ a.fr,x ∉ b.wr:=fun x hx hx'=>jLE i6 hx' hx;have k1:∀t,t ∉ a.wt->lkt Z.tm t=jJ2 a.wr a.wi (lkt st.tm t):=fun t ht=>J.tk t ht;have k2:∀t,t ∉ b.wt->lkt s2.tm t=jJ2 b.wr b.wi (lkt Z.tm t):=fun t ht=>Y.tk t ht;have O:=jPM (T:=T) P.wk st;have kM:∀t,t ∉ b.wt->lkt (mkM T b st).tm t=jJ2 b.wr b.wi (lkt st.tm t):=fun t ht=>O.tk t ht
 have h3:∀t ∈ a.wt,∀r ∈ nms (lkt a.s'.tm t),r ∉ b.wr:=fun t ht r E B=>by
  rcases M.wn t ht r E with h|⟨h|h,_⟩
  .exact j5 r B h
  .exact j6 r h B
  .have:=P.wk r B;omega
 have wnB:∀t ∈ b.wt,∀r ∈ nms (lkt b.s'.tm t),r ∉ a.wr:=fun t ht r E B=>by
  rcases P.wn t ht r E with h|⟨h|h,_⟩
  .exact j5 r h B
  .exact j4 r h B
  .have:=M.wk r B;omega
 refine⟨⟨fun t ht=>?_,fun k hk B=>?_,fun k hk B=>?_,fun k hk=>?_,fun k hk hf R hR=>?_⟩,⟨fun t ht=>?_,fun k hk B=>?_,fun k hk B=>?_,fun k hk=>?_,fun k hk hf R hR=>?_⟩,⟨fun t ht=>?_,fun t ht=>?_,fun k hk=>?_,fun k hk=>?_⟩⟩
 .rcases a2.tm t ht with e|e
  .exact .inl e
  .rw[k1 t (j1 t ht)]at e
   rcases jS4 (wr:=a.wr) (wi:=a.wi) (x:=lkt st.tm t)with h|h
   .exact .inl (e.trans h)
   .exact .inr (e.trans h)
 .rw[a2.rr k hk B,J.rk k (j4 k hk)]
 .rw[a2.rw k hk B,J.rk k (j4 k hk)]
 .rw[a2.gk k hk,J.rk k (fun h=>by have:=M.wk k h;omega)]
 .exact a2.nw k hk hf R (by rw[J.rk k (j5 k hk)];exact hR)
 .rcases V.tm t ht with e|e
  .exact .inl e
  .rw[kM t (j3 t ht),<-e]
   by_cases hn:∀r ∈ nms (lkt a.s.tm t),r ∉ b.wr
   .exact .inr (jPY hn fun r E=>j7 r (M.ss t r E)).symm
   .exfalso
    apply hn;intro r E B;have h1:=M.sn t r E
    by_cases hf:r ∈ a.fr
    .exact j6 r hf B
    .rw[M.sr r (P.wk r B) hf]at h1;cases h1
 .rw[V.rr k hk B,O.rk k (j6 k hk)]
 .rw[V.rw k hk B,O.rk k (j6 k hk)]
 .rw[V.gk k hk,O.rk k (fun h=>by have:=P.wk k h;omega)]
 .exact V.nw k hk hf R (by rw[O.rk k (fun h=>j5 k h hk)]at hR;exact hR)
 .rw[k2 t (fun h=>j2 t h ht),J.tw t ht]
  exact jPY (h3 t ht) fun r E=>j7 r (M.ws t ht r E).1
 .show _=jJ2 a.wr a.wi _
  by_cases G:t ∈ b.wt
  .rw[Y.tw t G,O.tw t G]
   exact(jPY (wnB t G) fun r E=>j8 r (P.ws t G r E).1).symm
  .rw[k2 t G,k1 t ht,kM t G]
   exact jXQ _ _ _ _ _
 .rw[Y.rk k (fun h=>j5 k h hk),J.rw k hk]
 .by_cases G:k ∈ b.wr
  .rw[Y.rw k G,O.rw k G]
  .rw[Y.rk k G,J.rk k hk,O.rk k G]
theorem jKV.front {i:Nat}{b:Lt}(B:LOk T b) {E:List (Nat × Lt)}:∀{L1:List (Nat × Lt)}{st st':St},(∀p ∈ L1,LOk T p.2/\jL4 p.2 b=true)->jKV T (L1 ++(i,b) ::E) st st'->jLA T b st/\∃st1,Mrg T b st st1/\jKV T (L1 ++E) st1 st'
 |[],st,st',_,h=>by
  cases h with
  |cons ha hm h=>exact⟨ha,_,hm,h⟩
 |(j,a) ::L1,st,st',hi,h=>by
  cases h with
  |cons ha hm h=>
   obtain⟨a2,s2,V,h2⟩:=jKV.front B (fun p hp=>hi p (List.mem_cons_of_mem _ hp)) h;obtain⟨P,G⟩:=hi (j,a) (List.mem_cons_self ..);obtain⟨J,M,O⟩:=swap P B G ha hm a2 V;exact⟨J,mkM T b st,jPM B.wk st,.cons M O h2⟩
theorem jSK (bs:List Nat) {D:Nat->Prop}:∀(es:List Edge) (m:Nat),(∀i,m.testBit i=true->D i)->(∀e ∈ es,Region.binds .any e=true->D e.on/\∀x,bs[e.on]? =some x->∀i,x.testBit i=true->D i)->∀i,(jN0 bs es m).testBit i=true->D i
 |[],m,h0,_,i,h=>h0 i h
 |e ::es,m,h0,he,i,h=>by
  refine jSK bs es _ (fun i h=>?_) (fun e' he'=>he e' (List.mem_cons_of_mem _ he')) i h
  split at h
  .rename_i hb
   obtain⟨B,E⟩:=he e (List.mem_cons_self ..) hb;rw[Nat.testBit_or,Nat.testBit_or,Bool.or_eq_true,Bool.or_eq_true]at h;rcases h with(h|h)|h
   .exact h0 i h
   .rw[Nat.one_shiftLeft,Nat.testBit_two_pow]at h
    have:e.on=i:=by simpa using h
    rw[<-this];exact B
   .rw[List.getD_eq_getElem?_getD]at h
    cases hx :bs[e.on]? with
    |none=>rw[hx]at h;simp at h
    |some x=>rw[hx]at h;exact E x hx i h
  .exact h0 i h
end
section
variable {T:Tb}{c c' c'':Cf}{n:Nat}{fz:List Nat}{ops:Array Oper}
def Bits (all:List Oper) (k m:Nat):Prop:=∀D:Nat->Prop,(∀j o,D j->all[j]? =some o->∀e ∈ o.after.toList,Region.binds .any e=true->D e.on)->(∀o,all[k]? =some o->∀e ∈ o.after.toList,Region.binds .any e=true->D e.on)->∀i,m.testBit i=true->D i
theorem jSJ (all:List Oper):∀(l:List Oper) (bs:List Nat),(∀k o,l[k]? =some o->all[bs.length+k]? =some o)->(∀k m,bs[k]? =some m->Bits all k m)->∀k m,(jMz l bs)[k]? =some m->Bits all k m
 |[],bs,_,hb,k,m,h=>hb k m h
 |o ::l,bs,hl,hb,k,m,h=>by
  have O:=hl 0 o rfl;rw[Nat.add_zero]at O;refine jSJ all l (bs ++[jN0 bs o.after.toList 0]) (fun k o' hk=>?_) (fun k m hk=>?_) k m h
  .have:=hl (k+1) o' (by simpa using hk)
   rw[List.length_append,List.length_singleton];rw[show bs.length+1+k=bs.length+(k+1) by omega];exact this
  .by_cases hlt:k<bs.length
   .rw[List.getElem?_append_left hlt]at hk
    exact hb k m hk
   .rw[List.getElem?_append_right (by omega)]at hk
    have J:k-bs.length=0:=by
     rcases Nat.eq_zero_or_pos (k-bs.length)with h|h
     .exact h
     .rw[List.getElem?_eq_none (by simp;omega)]at hk;cases hk
    rw[J]at hk;simp only[List.getElem?_cons_zero,Option.some.injEq]at hk;have M:k=bs.length:=by omega
    subst M;subst hk;intro D B G i hi;refine jSK bs (D:=D) o.after.toList 0 (fun i h=>by simp at h) (fun e he hbd=>?_) i hi;have E:=G o O e he hbd;exact⟨E,fun x hx=>hb e.on x hx D B (fun o' ho'=>B e.on o' E ho')⟩
theorem jTh {τ:Lt}{m:Nat}:∀{l:List Lt}{k:Nat},jOh τ m l k=true->∀(j:Nat) (σ:Lt),l[j]? =some σ->m.testBit (k+j)=true\/jL4 σ τ=true
 |[],k,_,j,σ,h=>by simp at h
 |x ::l,k,h,j,σ,hj=>by
  simp only[jOh,Bool.and_eq_true,Bool.or_eq_true]at h
  cases j with
  |zero=>simp at hj;subst hj;exact h.1
  |succ j=>
   have:=jTh h.2 j σ (by simpa using hj);rw[show k+(j+1)=k+1+j by omega];exact this
theorem jTw:∀{l:List Lt}{pre:List Lt}{bs:List Nat},jL7 pre l bs=true->∀(i:Nat) (τ:Lt),l[i]? =some τ->∃m,bs[i]? =some m/\∀(j:Nat) (σ:Lt),j<pre.length+i->(pre ++l)[j]? =some σ->m.testBit j=true\/jL4 σ τ=true
 |[],pre,bs,_,i,τ,h=>by simp at h
 |x ::l,pre,[],h,i,τ,hi=>by cases h
 |x ::l,pre,m ::bs,h,i,τ,hi=>by
  simp only[jL7,Bool.and_eq_true]at h
  cases i with
  |zero=>
   simp at hi;subst hi;refine⟨m,rfl,fun j σ hj hs=>?_⟩;rw[List.getElem?_append_left (by omega)]at hs;have:=jTh h.1 j σ hs
   rwa [Nat.zero_add]at this
  |succ i=>
   obtain⟨m',B,h2⟩:=jTw h.2 i τ (by simpa using hi);refine⟨m',by simpa using B,fun j σ hj hs=>h2 j σ (by simp;omega) (by rw[List.append_assoc];exact hs)⟩
theorem jSP:∀{l:List Oper}{k:Nat},jL0 l k=true->∀(i:Nat) (o:Oper),l[i]? =some o->∀e ∈ o.after.toList,Region.binds .any e=true->e.on<k+i
 |[],k,_,i,o,h=>by simp at h
 |x ::l,k,h,i,o,hi=>by
  simp only[jL0,Bool.and_eq_true]at h
  cases i with
  |zero=>
   simp at hi;subst hi;intro e E B;have:=List.all_eq_true.1 h.1 e E;rw[B]at this;have this:e.on<k:=by simpa using this
   omega
  |succ i=>
   intro e E B;have:=jSP h.2 i o (by simpa using hi) e E B;omega
theorem jP6:∀(l:List Lt) (k:Nat) (p:Nat × Lt),p ∈ ixs k l->k<=p.1/\l[p.1-k]? =some p.2
 |[],k,p,h=>by cases h
 |τ ::l,k,p,h=>by
  rcases List.mem_cons.1 h with rfl|h
  .exact⟨Nat.le_refl _,by simp⟩
  .obtain⟨h1,h2⟩:=jP6 l (k+1) p h
   exact⟨by omega,by rw[show p.1-k=(p.1-(k+1))+1 by omega,List.getElem?_cons_succ];exact h2⟩
theorem jTd:∀(l:List Lt) (k i:Nat) (τ:Lt),l[i]? =some τ->(k+i,τ) ∈ ixs k l
 |[],k,i,τ,h=>by simp at h
 |σ ::l,k,0,τ,h=>by simp at h;subst h;exact List.mem_cons_self ..
 |σ ::l,k,i+1,τ,h=>by
  have:=jTd l (k+1) i τ (by simpa using h);rw[show k+(i+1)=k+1+i by omega];exact List.mem_cons_of_mem _ this
theorem jTb:∀(l:List Lt) (k:Nat),(ixs k l).Pairwise (fun p q=>p.1<q.1)
 |[],k=>.nil
 |τ ::l,k=>.cons (fun p hp=>by have:=(jP6 l (k+1) p hp).1;show k<p.1;omega) (jTb l (k+1))
theorem jTc:∀(l:List Lt) (k:Nat),(ixs k l).length=l.length
 |[],k=>rfl
 |τ ::l,k=>by simp[ixs,jTc l]
theorem jOZ {L:Array Bool}{i j:Nat}{b:Bool}(hi:i<L.size):(L.setIfInBounds i true).getD j b=if j=i then true else L.getD j b:=by
 rw[Array.getD_eq_getD_getElem?,Array.getElem?_setIfInBounds]
 by_cases e:i=j
 .subst e;simp[hi]
 .rw[if_neg e,if_neg (fun h=>e h.symm),<-Array.getD_eq_getD_getElem?]
theorem any_ok {Q:Exit->Act->World->Prop}{c0:Cf}{τs:List Lt}{stN:St}(h4:τs.length=ops.size) (hτ:∀(i:Nat) (τ:Lt) (o:Oper),τs[i]? =some τ->ops[i]? =some o->LOk T τ/\jLy T n fz ops o τ.s τ.s'/\∀d,o.dst=some d->d ∈ τ.wt) (O:jL7 [] τs (jMz ops.toList [])=true) (hlow:jL0 ops.toList 0=true) (hQ:∀c' act',Ok T c'->Stp T c0 c'->c'.X=[]->Ar n c' act'->c'.st=stN->Q .normal act' c'.w) :
 ∀(fuel:Nat) (listed:Array Bool) (act:Act) (c:Cf) (rem:List (Nat × Lt)),Ok T c->Stp T c0 c->c.X=[]->Ar n c act->jKV T rem c.st stN->listed.size=ops.size->rem.length=fuel->(∀p ∈ rem,listed.getD p.1 true=false/\τs[p.1]? =some p.2)->(∀i,listed.getD i true=false->∃τ,(i,τ) ∈ rem)->rem.Pairwise (fun p q=>p.1<q.1)->(∀j o,listed.getD j false=true->ops[j]? =some o->∀e ∈ o.after.toList,Region.binds .any e=true->listed.getD e.on false=true)->wpAny T.P .any ops Q fuel listed act c.w:=by
 have r1:=jSJ ops.toList ops.toList [] (fun k o h=>by simpa using h) (fun k m h=>by simp at h)
 have Z:∀{L:Array Bool}{j:Nat},j<L.size->(L.getD j true=false↔L.getD j false=false):=fun {L j} h=>by
  simp[Array.getD_eq_getD_getElem?,h]
 intro fuel
 induction fuel with
 |zero=>
  intro listed act c rem hc hs hX h3 M h6 Y ha hb hp hd;have:rem=[]:=List.eq_nil_of_length_eq_zero Y;subst this
  have h0:Region.ready .any ops listed=[]:=by
   cases hr :Region.ready .any ops listed with
   |nil=>rfl
   |cons j l=>
    have E:j ∈ Region.ready .any ops listed:=by rw[hr];exact List.mem_cons_self ..
    obtain⟨h1,_⟩:=mem_ready.1 E;obtain⟨τ,h⟩:=hb j h1;cases h
  refine⟨h0,?_⟩;cases M;exact hQ c act hc hs hX h3 rfl
 |succ fuel ih=>
  intro listed act c rem hc hs hX h3 M h6 Y ha hb hp hd;refine⟨fun h0=>?_,fun i hi=>?_⟩
  .exfalso
   cases rem with
   |nil=>simp at Y
   |cons p rest=>
    obtain⟨h1,h2⟩:=ha p (List.mem_cons_self ..);have V:p.1<ops.size:=by rw[<-h4];exact(List.getElem?_eq_some_iff.1 h2).1
    have:p.1 ∈ Region.ready .any ops listed:=mem_ready.2 ⟨h1,_,Array.getElem?_eq_getElem V,fun e he hbd=>by
     have r3:=jSP hlow p.1 ops[p.1] (by simp[V]) e (by simpa using he) hbd
     cases hl :listed.getD e.on false with
     |true=>rfl
     |false=>
      obtain⟨τ,h⟩:=hb e.on ((Z (by omega)).2 hl);rcases List.mem_cons.1 h with h|h
      .have:p.1=e.on:=by rw[<-h]
       omega
      .have:=(List.pairwise_cons.1 hp).1 _ h
       simp only at this
       omega⟩
    rw[h0]at this;cases this
  .obtain⟨hun,o,ho,hdeps⟩:=mem_ready.1 hi
   obtain⟨τ,h5⟩:=hb i hun;obtain⟨r4,h9⟩:=ha (i,τ) h5;obtain⟨L1,L2,rfl⟩:=List.append_of_mem h5;have J:i<listed.size:=by rw[h6];exact(Array.getElem?_eq_some_iff.1 ho).1
   obtain⟨t1,t2,t3⟩:=hτ i τ o h9 ho;have G:=List.pairwise_append.1 hp;have h8:=List.pairwise_cons.1 G.2.1;obtain⟨m,hm,q9⟩:=jTw O i τ h9
   have k6:∀p ∈ L1,LOk T p.2/\jL4 p.2 τ=true:=fun p hp1=>by
    obtain⟨p1,p2⟩:=ha p (List.mem_append_left _ hp1);have V:p.1<i:=G.2.2 p hp1 (i,τ) (List.mem_cons_self ..);have k7:p.1<ops.size:=by omega
    refine⟨(hτ p.1 p.2 _ p2 (Array.getElem?_eq_getElem k7)).1,?_⟩;rcases q9 p.1 p.2 (by simpa using V) (by simpa using p2)with h|h
    .exfalso
     have:=r1 i m hm (fun j=>listed.getD j false=true) (fun j o' E B e he hbd=>hd j o' E (by simpa using B) e he hbd) (fun o' B e he hbd=>by
      have B:ops[i]? =some o':=by simpa using B
      rw[ho]at B;cases B
      exact hdeps e (by simpa using he) hbd) p.1 h
     rw[(Z (by omega)).1 p1]at this;cases this
    .exact h
   obtain⟨k8,st1,k9,h7⟩:=jKV.front t1 k6 M;refine jXh hc h3 hX t1 ho t2 t3 k8 k9 fun c' act' k1 k2 k3 k4 k5=>?_
   have r2:∀p ∈ L1 ++L2,p.1≠i:=fun p hp' e=>by
    rcases List.mem_append.1 hp' with h|h
    .have:p.1<i:=G.2.2 p h (i,τ) (List.mem_cons_self ..);omega
    .have:i<p.1:=h8.1 p h;omega
   refine ih (listed.setIfInBounds i true) act' c' (L1 ++L2) k1 (hs.trans k2) k3 k4 (by rw[k5];exact h7) (by simpa using h6) (by simp at Y ⊢;omega) (fun p hp'=>?_) (fun j E=>?_) ?_ (fun j o' E B e he hbd=>?_)
   .have hin:p ∈ L1 ++(i,τ) ::L2:=by
     rcases List.mem_append.1 hp' with h|h
     .exact List.mem_append_left _ h
     .exact List.mem_append_right _ (List.mem_cons_of_mem _ h)
    obtain⟨p1,p2⟩:=ha p hin;exact⟨by rw[jOZ J,if_neg (r2 p hp')];exact p1,p2⟩
   .rw[jOZ J]at E
    by_cases e:j=i
    .rw[if_pos e]at E;cases E
    .rw[if_neg e]at E
     obtain⟨σ,h⟩:=hb j E;refine⟨σ,?_⟩;rcases List.mem_append.1 h with h|h
     .exact List.mem_append_left _ h
     .rcases List.mem_cons.1 h with h|h
      .cases h;exact absurd rfl e
      .exact List.mem_append_right _ h
   .refine List.pairwise_append.2 ⟨G.1,h8.2,fun p hp1 q hq=>G.2.2 p hp1 q (List.mem_cons_of_mem _ hq)⟩
   .rw[jOZ J]at E ⊢
    by_cases e1:e.on=i
    .rw[if_pos e1]
    .rw[if_neg e1]
     by_cases e2:j=i
     .subst e2
      rw[ho]at B;cases B;exact hdeps e (by simpa using he) hbd
     .rw[if_neg e2]at E
      exact hd j o' E B e he hbd
theorem Vw.any {Q:Exit->St->Prop}{P:Nat}{l:List Oper}{τs:List Lt}{st stN:St}(B:τs.length=l.length) (O:∀(i:Nat) (τ:Lt) (o:Oper),τs[i]? =some τ->l[i]? =some o->LOk T τ/\jLy T n fz l.toArray o τ.s τ.s'/\∀d,o.dst=some d->d ∈ τ.wt) (G:jKV T (ixs 0 τs) st stN) (E:jL7 [] τs (jMz l [])=true) (hlow:jL0 l 0=true) (M:Q .normal stN):Vw T n (.region P l.toArray true) Q st:=fun c act h1 h2 h3 h4=>by
 refine wp_region_any T.mo ?_;obtain⟨V,Y⟩:=h1.world (w':={c.w with drawn:=c.w.drawn+1}) (A':=c.A) (X':=[]) (fun k _ _=>rfl) (Below.refl 0 c.w).drew (fun k hk=>hk) (fun k hk=>⟨.inl hk,h1.al k hk⟩) List.nodup_nil (fun g hg=>by cases hg)
 have:=any_ok (T:=T) (n:=n) (fz:=fz) (ops:=l.toArray) (c0:=c) (τs:=τs) (stN:=stN) (Q:=Ends T n c Q) (by simpa using B) (fun i τ o hi ho=>O i τ o hi (by simpa using ho)) (by simpa using E) (by simpa using hlow) (fun c' act' k1 k2 k3 k4 k5=>⟨c',k1,k2,rfl,k3,k4,by rw[k5];exact M⟩) l.toArray.size (Array.replicate l.toArray.size false) act {c with w:={c.w with drawn:=c.w.drawn+1},A:=c.A,X:=[]} (ixs 0 τs) V Y rfl (h2.same rfl) (by show jKV T (ixs 0 τs) c.st stN;rw[h3];exact G) (by simp) (by rw[jTc];simpa using B) (fun p hp=>by
  obtain⟨q1,q2⟩:=jP6 τs 0 p hp;have J:p.1<l.length:=by rw[<-B];exact(List.getElem?_eq_some_iff.1 (by simpa using q2)).1
  exact⟨by simp[J],by simpa using q2⟩) (fun i hi=>by
  have J:i<l.length:=by
   rcases Nat.lt_or_ge i l.length with h|h
   .exact h
   .simp[Nat.not_lt.2 h]at hi
  have:=jTd τs 0 i (τs[i]'(by omega)) (List.getElem?_eq_getElem (by omega));rw[Nat.zero_add]at this
  exact⟨_,this⟩) (jTb τs 0) (fun j o hj=>by
  rw[Array.getD_eq_getD_getElem?,Array.getElem?_replicate]at hj
  split at hj <;> simp at hj)
 exact this
end
structure Ft where
 ft:List Nat
 fr:List Nat
 wt:List Nat
 wr:List Nat
def anm (x:Av):List Nat:=nms x ++sof x
def modN (T:Tb) (st:St):List Operand->List Nat->List Nat
 |[],_=>[]
 |x ::xs,ms=>(if ms.headD 0 == 1 || ms.headD 0 == 3 then anm (evo T st x) else[]) ++modN T st xs ms.tail
def fw (T:Tb) (st:St):Op->List Nat
 | .store _ a x=>anm (evo T st a) ++anm (evo T st x)
 | .box _ x=>anm (evo T st x)
 | .buildSlice _ _ ps=>ps.toList.flatMap fun q=>anm (evo T st q.2)
 | .build _ ps=>ps.toList.flatMap fun q=>anm (evo T st q.2)
 | .call ⟨.builtin .append,⟨[s,x]⟩,_⟩=>anm (evo T st s) ++anm (evo T st x)
 | .call ⟨.builtin .copy,⟨[x,y]⟩,_⟩=>anm (evo T st x)
 | .assign x=>match evo T st x with
   | .lo p=>if lone (lkr T st.rt) p then[p.r] else[]
   |_=>[]
 | .call ⟨.value (.func f),xs,_⟩=>modN T st xs.toList (T.md f)
 |_=>[]
def makes (T:Tb) (st:St):Op->Bool
 | .alloc _=>true
 | .box _ _=>true
 | .buildSlice _ _ _=>true
 | .makeSlice _ _ _=>true
 | .build _ ps=>ps.toList.any fun q=>!(anm (evo T st q.2)).isEmpty
 | .call ⟨.builtin .append,_,_⟩=>true
 | .assign x=>match evo T st x with
   | .lo p=>lone (lkr T st.rt) p
   |_=>false
 | .call ⟨.value (.func _),_,_⟩=>true
 |_=>false
def adrs:Op->Bool
 | .move _=>true
 | .assign _=>true
 | .nilCheck _=>true
 | .fieldAddr _ _ _=>true
 |_=>false
def isAt (r:Nat):Av->Bool
 | .pa p=>p.p.isEmpty && p.r == r
 |_=>false
def jLI (T:Tb) (ops:Array Oper) (st:St) (o:Oper):Ft:=
 let w0:=(fw T st o.op).filter fun r=>jNU T st r
 let cl:=(st.tm.filter fun q=>(nms q.2).any fun r=>w0.contains r).map (·.1)
 let wn:=w0.flatMap fun r=>((st.tm.find? fun q=>isAt r q.2).map (·.1)).toList
 let la:=o.looksAt ops
 ⟨la ++cl ++wn,(((la ++cl).flatMap fun t=>nms (lkt st.tm t)) ++(if adrs o.op then[] else la.flatMap fun t=>sof (lkt st.tm t)) ++w0).filter fun r=>Nat.blt r 1000000,o.dst.toList ++cl,w0 ++(if makes T st o.op then o.dst.toList else[])⟩
def jJ8 (F:Ft) (st:St):St:=⟨st.tm.filter fun q=>F.ft.contains q.1,(st.rt.filter fun q=>F.fr.contains q.1).map fun q=>(q.1,if F.wr.contains q.1 then q.2 else dem q.2)⟩
def sameAt (r:Nat):Av->Av->Bool
 | .pa p,.pa q=>p.p.isEmpty && q.p.isEmpty && p.r == r && q.r == r && p.o == q.o
 |_,_=>false
def jON (F:Ft) (s s':St):List Nat:=(s.tm.flatMap fun q=>sof q.2).filter fun r=>F.ft.any fun t=>!F.wt.contains t && sameAt r (lkt s.tm t) (lkt s'.tm t)
def jN (F:Ft) (s s':St):List Nat:=(s.tm.flatMap fun q=>sof q.2) ++F.wt.flatMap fun t=>sof (lkt s'.tm t)
def rdB (T:Tb) (s':St) (r:Nat):Bool:=match lkr T s'.rt r with
 |some R=>!own R && !(R.kd == 9)
 |none=>false
def jN2 (T:Tb) (o:Oper) (F:Ft) (s s' st:St):Bool:=
 jLb st && (F.fr.all fun r=>Nat.blt r 1000000) && (F.wr.all fun r=>Nat.blt r 1000000) && (s.tm.all fun q=>(nms q.2).all fun r=>(lkr T s.rt r).isSome) &&
 (F.wt.all fun t=>(nms (lkt s'.tm t)).all fun r=>F.wr.contains r || ((F.fr.contains r || Nat.ble 1000000 r) && rdB T s' r)) &&
 (F.wr.all fun k=>F.fr.contains k || match lkr T st.rt k with|none=>true|some R=>R.kd == 1 || R.kd == 2) &&
 (match o.dst with|some d=>F.wt.contains d|none=>true) &&
 (F.wt.all fun t=>(sof (lkt s'.tm t)).all fun r=>F.wr.contains r || (jON F s s').contains r || rdB T s' r)
def ltOf (F:Ft) (s s':St):Lt:=⟨F.ft,F.fr,F.wt,F.wr,jON F s s',jN F s s',s,s'⟩
inductive jLS (T:Tb) (n:Nat) (fz:List Nat) (ops:Array Oper):List Oper->St->List Lt->St->Prop where
 |nil {st:St}:jLS T n fz ops [] st [] st
 |cons {o:Oper}{rest:List Oper}{st s s' st1 stN:St}{F:Ft}{τs:List Lt}(hF:jLI T ops st o=F) (hs:jJ8 F st=s) (h:jLy T n fz ops o s s') (hL:jN2 T o F s s' st=true) (h1:mkM T (ltOf F s s') st=st1) (h':jLS T n fz ops rest st1 τs stN):jLS T n fz ops (o ::rest) st (ltOf F s s' ::τs) stN
section
variable {T:Tb}{c c' c'':Cf}{n:Nat}{fz:List Nat}{ops:Array Oper}
theorem jNc:∀{l:List (Nat × Av)}{t:Nat},lkt l t= .u\/(t,lkt l t) ∈ l
 |[],t=>.inl rfl
 |(k,x) ::l,t=>by
  simp only[lkt]
  by_cases e:k=t
  .subst e;rw[if_pos rfl];exact .inr (List.mem_cons_self ..)
  .rw[if_neg e]
   rcases jNc (l:=l) (t:=t)with h|h
   .exact .inl h
   .exact .inr (List.mem_cons_of_mem _ h)
theorem jPU (p:Nat->Bool):∀(l:List (Nat × Av)) (t:Nat),lkt (l.filter fun q=>p q.1) t=if p t=true then lkt l t else .u
 |[],t=>by simp[lkt]
 |(k,x) ::l,t=>by
  have ih:=jPU p l t
  by_cases hp:p k=true
  .rw[List.filter_cons_of_pos (by simpa using hp)]
   simp only[lkt,ih]
   by_cases e:k=t
   .subst e;simp[hp]
   .simp[e]
  .rw[List.filter_cons_of_neg (by simpa using hp),ih]
   by_cases e:k=t
   .subst e;simp[hp]
   .simp only[lkt];rw[if_neg e]
theorem jSV (p:Nat->Bool) (g:Nat->Rt->Rt):∀(l:List (Nat × Rt)) (k:Nat),k<1000000->lkr T ((l.filter fun q=>p q.1).map fun q=>(q.1,g q.1 q.2)) k=if p k=true then(lkr T l k).map (g k) else none
 |[],k,hk=>by simp[lkr,T.gl0 k hk]
 |(j,R) ::l,k,hk=>by
  have ih:=jSV p g l k hk
  by_cases hp:p j=true
  .rw[List.filter_cons_of_pos (by simpa using hp)]
   simp only[List.map_cons,lkr];rw[ih]
   by_cases e:j=k
   .subst e;simp[hp]
   .simp[e]
  .rw[List.filter_cons_of_neg (by simpa using hp),ih]
   by_cases e:j=k
   .subst e;simp[hp]
   .simp only[lkr];rw[if_neg e]
theorem jXi {o:Oper}{F:Ft}{G st:St}(M:jN2 T o F (jJ8 F st) G st=true):LOk T (ltOf F (jJ8 F st) G)/\jLA T (ltOf F (jJ8 F st) G) st/\∀d,o.dst=some d->d ∈ F.wt:=by
 unfold jN2 at M;simp only[Bool.and_eq_true]at M;obtain⟨⟨⟨⟨⟨⟨⟨h1,h2⟩,h3⟩,h4⟩,h5⟩,h6⟩,h7⟩,h8⟩:=M
 have rd:∀r,rdB T G r=true->∃R,lkr T G.rt r=some R/\own R=false/\R.kd≠9:=fun r h=>by
  unfold rdB at h
  split at h
  .rename_i R hR
   simp only[Bool.and_eq_true,Bool.not_eq_true']at h;exact⟨R,hR,h.1,by simpa using h.2⟩
  .cases h
 have k2:∀k ∈ F.fr,k<1000000:=fun k hk=>Nat.le_of_ble_eq_true (List.all_eq_true.1 h2 k hk);have k3:∀k ∈ F.wr,k<1000000:=fun k hk=>Nat.le_of_ble_eq_true (List.all_eq_true.1 h3 k hk);have kt:∀t,lkt (jJ8 F st).tm t=if F.ft.contains t=true then lkt st.tm t else .u:=fun t=>jPU (fun t=>F.ft.contains t) st.tm t;have O:∀k,k<1000000->lkr T (jJ8 F st).rt k=if F.fr.contains k=true then(lkr T st.rt k).map (fun R=>if F.wr.contains k then R else dem R) else none:=fun k hk=>jSV (fun k=>F.fr.contains k) (fun k R=>if F.wr.contains k then R else dem R) st.rt k hk
 have J:∀q ∈ (jJ8 F st).rt,q.1<1000000:=fun q hq=>by
  obtain⟨q0,k1,rfl⟩:=List.mem_map.1 hq;exact Nat.le_of_ble_eq_true (List.all_eq_true.1 h1 q0 (List.mem_filter.1 k1).1)
 have h9:jLb (jJ8 F st)=true:=List.all_eq_true.2 fun q hq=>Nat.ble_eq_true_of_le (J q hq);refine⟨⟨fun t B=>?_,fun k hk hf=>?_,fun t r hr=>?_,fun t B r hr=>?_,fun t r hr=>?_,fun t B r hr=>?_,fun r hr=>?_,k3,fun q hq h=>?_⟩,⟨fun t B=>.inr ?_,fun k hk E=>?_,fun k hk E=>?_,fun k hk=>?_,fun k hk hf R hR=>?_⟩,fun d hd=>?_⟩
 .show lkt (jJ8 F st).tm t=_
  rw[kt,if_neg (by have B:t ∉ F.ft:=B;simpa using B)]
 .show lkr T (jJ8 F st).rt k=_
  rw[O k hk,if_neg (by have hf:k ∉ F.fr:=hf;simpa using hf)]
 .have hr:r ∈ nms (lkt (jJ8 F st).tm t):=hr
  rcases jNc (l:=(jJ8 F st).tm) (t:=t)with h|h
  .rw[h]at hr;cases hr
  .exact List.all_eq_true.1 (List.all_eq_true.1 h4 _ h) r hr
 .have:=List.all_eq_true.1 (List.all_eq_true.1 h5 t B) r hr
  simp only[Bool.or_eq_true,Bool.and_eq_true]at this
  rcases this with h|⟨h,h'⟩
  .exact .inl (List.contains_iff_mem.1 h)
  .refine .inr ⟨?_,?_⟩
   .rcases h with h|h
    .exact .inl (List.contains_iff_mem.1 h)
    .exact .inr (Nat.le_of_ble_eq_true h)
   .exact rd r h'
 .have hr:r ∈ sof (lkt (jJ8 F st).tm t):=hr
  show r ∈ jN F (jJ8 F st) G;rcases jNc (l:=(jJ8 F st).tm) (t:=t)with h|h
  .rw[h]at hr;cases hr
  .exact List.mem_append_left _ (List.mem_flatMap.2 ⟨_,h,hr⟩)
 .have:=List.all_eq_true.1 (List.all_eq_true.1 h8 t B) r hr
  simp only[Bool.or_eq_true]at this;refine⟨List.mem_append_right _ (List.mem_flatMap.2 ⟨t,B,hr⟩),?_⟩;rcases this with(h|h)|h
  .exact .inl (List.contains_iff_mem.1 h)
  .exact .inr (.inl (List.contains_iff_mem.1 h))
  .exact .inr (.inr (rd r h))
 .have hr:r ∈ jON F (jJ8 F st) G:=hr
  obtain⟨_,h⟩:=List.mem_filter.1 hr;obtain⟨t,B,h⟩:=List.any_eq_true.1 h;simp only[Bool.and_eq_true,Bool.not_eq_true']at h;obtain⟨E,h⟩:=h;unfold sameAt at h
  split at h
  .rename_i p q hp hq
   simp only[Bool.and_eq_true,beq_iff_eq,List.isEmpty_iff]at h;obtain⟨⟨⟨⟨P,V⟩,Y⟩,Z⟩,e5⟩:=h;refine⟨t,p.o,B,(by show t ∉ F.wt;simpa using E),?_,?_⟩
   .show lkt (jJ8 F st).tm t=_
    rw[hp];cases p;simp only at P Y;subst P;subst Y;rfl
   .show lkt G.tm t=_
    rw[hq];cases q;simp only at V Z e5;subst V;subst Z;rw[e5]
  .cases h
 .have:=J q hq
  omega
 .show lkt (jJ8 F st).tm t=_
  have B:t ∈ F.ft:=B;rw[kt,if_pos (List.contains_iff_mem.2 B)]
 .show lkr T (jJ8 F st).rt k=_
  have E:k ∉ F.wr:=E;have hk:k ∈ F.fr:=hk;rw[O k (k2 k hk),if_pos (List.contains_iff_mem.2 hk)]
  congr 1
  funext R
  rw[if_neg (by simpa using E)]
 .show lkr T (jJ8 F st).rt k=_
  have hk:k ∈ F.fr:=hk;rw[O k (k2 k hk),if_pos (List.contains_iff_mem.2 hk)];have E:k ∈ F.wr:=E;have:(fun R=>if F.wr.contains k=true then R else dem R)=id:=by funext R;rw[if_pos (List.contains_iff_mem.2 E)];rfl
  rw[this,Option.map_id];rfl
 .show lkr T (jJ8 F st).rt k=_
  rw[jLG h9 k hk,jLG h1 k hk]
 .have:=List.all_eq_true.1 h6 k hk
  rw[hR,Bool.or_eq_true]at this;rcases this with h|h
  .exact absurd (List.contains_iff_mem.1 h) hf
  .simpa using h
 .rw[hd]at h7
  exact List.contains_iff_mem.1 h7
theorem jLS.ok:∀{l:List Oper}{st stN:St}{τs:List Lt}{k:Nat},jLS T n fz ops l st τs stN->τs.length=l.length/\(∀(i:Nat) (τ:Lt) (o:Oper),τs[i]? =some τ->l[i]? =some o->LOk T τ/\jLy T n fz ops o τ.s τ.s'/\∀d,o.dst=some d->d ∈ τ.wt)/\jKV T (ixs k τs) st stN
 |[],st,stN,τs,k,h=>by
  cases h;exact⟨rfl,fun i τ o h=>(by simp at h),.nil⟩
 |o ::l,st,stN,_,k,h=>by
  cases h with
  |cons hF hs h hL h1 h'=>
   subst hs;obtain⟨B,a2,a3⟩:=jXi hL;obtain⟨b1,b2,b3⟩:=jLS.ok (k:=k+1) h';refine⟨by simp[b1],fun i τ o' hi ho=>?_,.cons a2 (by rw[<-h1];exact jPM B.wk st) b3⟩
   cases i with
   |zero=>simp at hi ho;subst hi;subst ho;exact⟨B,h,a3⟩
   |succ i=>exact b2 i τ o' (by simpa using hi) (by simpa using ho)
theorem Vw.draw {Q:Exit->St->Prop}{G:Nat}{l:List Oper}{τs:List Lt}{st stN:St}(h:jLS T n fz l.toArray l st τs stN) (B:jL7 [] τs (jMz l [])=true) (hlow:jL0 l 0=true) (E:Q .normal stN):Vw T n (.region G l.toArray true) Q st:=by
 obtain⟨J,h2,M⟩:=h.ok (k:=0);exact Vw.any J h2 M B hlow E
end
section
variable {T:Tb}{n:Nat}{Q:Exit->St->Prop}{st st':St}
theorem Vw.rounds {x:Code}(S:Nat->St) (m:Nat) {e0:Exit}(hn:e0≠.normal) (E:∀i,i<m->Vw T n x (fun e s=>e= .normal/\s=S (i+1)) (S i)) (B:Vw T n x (fun e s=>e=e0/\s=st') (S m)):Vw T n (.loop x) (fun e s=>e=e0/\s=st') (S 0):=by
 refine Vw.loop (fun k s=>k<=m/\s=S (m-k)) m ⟨Nat.le_refl _,by rw[Nat.sub_self]⟩ fun k s ⟨hk,hs⟩=>?_;subst hs
 cases k with
 |zero=>
  rw[Nat.sub_zero];refine B.mono fun e s ⟨h1,h2⟩=>?_;subst h1
  cases e with
  |normal=>exact absurd rfl hn
  |_=>exact⟨rfl,h2⟩
 |succ k=>
  refine(E (m-(k+1)) (by omega)).mono fun e s ⟨h1,h2⟩=>?_;subst h1;exact⟨k,Nat.lt_succ_self k,by omega,by rw[h2,show m-(k+1)+1=m-k by omega]⟩
theorem Wk.drop (B:∀k R,lkr T st'.rt k=some R->lkr T st.rt k=some R) (h0:∀k R,lkr T st.rt k=some R->R.kd=0->lkr T st'.rt k=some R) (O:∀t,lkt st'.tm t= .u\/(lkt st'.tm t=lkt st.tm t/\∀r ∈ nms (lkt st'.tm t),(lkr T st'.rt r).isSome=true)):Wk T st st':=fun c hc hst hX=>by
 subst hst;have M:=hc.sx.sr;have G:∀k,(lkr T st'.rt k).isSome=true->(if(lkr T st'.rt k).isSome=true then c.fp k else[])=c.fp k:=fun k h=>if_pos h
 have E:∀k g,g ∈ (if(lkr T st'.rt k).isSome=true then c.fp k else[])->g ∈ c.fp k:=fun k g h=>by
  split at h
  .exact h
  .cases h
 refine⟨⟨c.w,c.A,st',c.mo,fun k=>if(lkr T st'.rt k).isSome=true then c.fp k else[],c.a,[]⟩,⟨⟨⟨fun k S hk=>?_,fun k S hk=>?_,fun k S hk ho g hg h=>?_,fun k k' S S' hne hk hk' ho g hg hg'=>?_,fun t=>?_,fun k hk=>?_,M.gl⟩,List.nodup_nil,fun g hg=>(by cases hg),fun g hg=>(by cases hg),fun g hg=>(by cases hg)⟩,hc.al⟩,⟨Below.refl _ _,fun _ _ _=>rfl,fun g hg=>.inl ?_,fun _ h=>h,fun _ h=>.inl h,fun r R J h2=>⟨R,h0 r R J h2,h2,rfl,rfl⟩,fun r R J h2 h3=>⟨B r R J,rfl,G r (by have J :lkr T st'.rt r=some R:=J;rw[J];rfl)⟩⟩,rfl,rfl,rfl,rfl⟩
 .have hk:lkr T st'.rt k=some S:=hk
  show jJM c.w c.A S (c.mo k) (if(lkr T st'.rt k).isSome=true then c.fp k else[]);rw[G k (by rw[hk];rfl)];exact M.rts k S (B k S hk)
 .have hk:lkr T st'.rt k=some S:=hk
  show(if(lkr T st'.rt k).isSome=true then c.fp k else[]).Nodup;rw[G k (by rw[hk];rfl)];exact M.nd k S (B k S hk)
 .exact M.fa k S (B k S hk) ho g (E k g hg) h
 .exact M.dj k k' S S' hne (B k S hk) (B k' S' hk') ho g (E k g hg) (E k' g hg')
 .show TV c.w c.A c.mo _ (lkt st'.tm t) (c.a t)
  rcases O t with e|⟨e,P⟩
  .rw[e];trivial
  .have:=M.tms t
   rw[<-e]at this;exact TV.nm (fun r B=>⟨rfl,G r (P r B)⟩) (fun r B=>⟨rfl,rfl⟩) this
 .have hk:lkr T st'.rt k=none:=hk
  show(if(lkr T st'.rt k).isSome=true then c.fp k else[])=[];rw[hk];rfl
 .rcases hg with⟨k,S,hk,ho,hg⟩|hg
  .exact .inl ⟨k,S,B k S hk,ho,E k g hg⟩
  .cases hg
theorem Vw.post {x:Code}{st1:St}{e0:Exit}(h:Vw T n x (fun e s=>e=e0/\s=st1) st) (B:Wk T st1 st'):Vw T n x (fun e s=>e=e0/\s=st') st:=fun c act h1 h2 h3 h4=>wp_mono (h c act h1 h2 h3 h4) fun e a w ⟨c',k1,k2,k3,k4,k5,k6,k7⟩=>by
 obtain⟨E,G,J,M,O,P,V⟩:=B c' k1 k7 k4;exact⟨E,G,k2.trans J,O.trans k3,V,k5.same P,k6,M⟩
def jMD (kt kr:List Nat) (st:St):St:=⟨st.tm.filter fun q=>kt.contains q.1,st.rt.filter fun q=>kr.contains q.1⟩
def jS8 (T:Tb) (kt kr:List Nat) (st:St):Bool:=jLb st && ((jMD kt kr st).tm.all fun q=>(nms q.2).all fun r=>(lkr T (jMD kt kr st).rt r).isSome) && st.rt.all fun q=>!(q.2.kd == 0) || kr.contains q.1
theorem Wk.keep {B E:List Nat}(h:jS8 T B E st=true):Wk T st (jMD B E st):=by
 unfold jS8 at h;simp only[Bool.and_eq_true]at h;obtain⟨⟨J,h2⟩,M⟩:=h;have lt:∀t,lkt (jMD B E st).tm t=if B.contains t=true then lkt st.tm t else .u:=fun t=>jPU (fun t=>B.contains t) st.tm t;have G:∀k,lkr T (jMD B E st).rt k=if E.contains k=true then lkr T st.rt k else lkr T [] k:=fun k=>jN6 (fun k=>E.contains k) st.rt k;refine Wk.drop (fun k R hk=>?_) (fun k R hk h0=>?_) fun t=>?_
 .rw[G]at hk
  split at hk
  .exact hk
  .have hge:1000000<=k:=by
    rcases Nat.lt_or_ge k 1000000 with h|h
    .simp only[lkr,T.gl0 k h]at hk;cases hk
    .exact h
   rw[jLG J k hge];exact hk
 .rw[G,if_pos]
  .exact hk
  .have:=List.all_eq_true.1 M _ (jN5 hk h0)
   simpa[h0] using this
 .rcases jNc (l:=(jMD B E st).tm) (t:=t)with h|h
  .exact .inl h
  .by_cases hc:B.contains t=true
   .refine .inr ⟨by rw[lt,if_pos hc],fun r hr=>List.all_eq_true.1 (List.all_eq_true.1 h2 _ h) r hr⟩
   .exact .inl (by rw[lt,if_neg hc])
end
structure El where
 α:Type
 cs:α->List C
def ask (E:El) (φ:List C->Prop) (K:List C->Prop):Prop:=(∃x,φ (E.cs x))/\∀x,φ (E.cs x)->K (E.cs x)
structure Hx where
 el:Nat->El
 sp:Bool
 bg:Nat->Option El
 bt:Bool
 dc:Bool
abbrev br (t:Bool) (P Q:Prop):Prop:=(t=true->P)/\(t=false->Q)
def bgK (H:Hx) (b:Bool) (n:Nat):Option El:=if b then H.bg n else none
def ek (H:Hx) (z o:Nat):Nat:=cond H.sp (z+1000*o) z
def gK (H:Hx):Bool->Ph->List C->Nat->Nat->(List C->Prop)->Prop
 |b,[],cs,o,n,K=>match bgK H b n with
  |some E=>ask E (fun l=>gts cs o n=some l) K
  |none=>match gts cs o n with
   |some l=>K l
   |none=>False
 |b,(z,j,q) ::pp,cs,o,n,K=>match cs[o]? with
  |some (.r true zz l)=>if zz=z then ask (H.el (ek H z o)) (fun e=>l[j]? =some e) fun e=>gK H b pp e q n K else False
  |some (.bx e)=>gK H true pp e q n K
  |_=>False
def rawE:El:=⟨List C,id⟩
def rawB (H:Hx) (pp:Ph) (q:Nat):Bool:=pp.isEmpty && Nat.beq q 0 && (H.bg 0).isSome
def sK (H:Hx):Bool->Ph->List C->Nat->List C->(List C->Prop)->Prop
 |b,[],cs,o,new,K=>match bgK H b 1 with
  |some _=>o+new.length<=cs.length/\K (ovl cs o new)
  |none=>if o+new.length<=cs.length then K (ovl cs o new) else False
 |b,(z,j,q) ::pp,cs,o,new,K=>match cs[o]? with
  |some (.r true zz l)=>if zz=z then(if rawB H pp q then ask rawE (fun e=>l[j]? =some e) fun e=>e.length=new.length/\K (cs.set o (.r true zz (l.set j new))) else ask (H.el (ek H z o)) (fun e=>l[j]? =some e) fun e=>sK H b pp e q new fun e'=>K (cs.set o (.r true zz (l.set j e')))) else False
  |some (.bx e)=>sK H true pp e q new fun e'=>K (cs.set o (.bx e'))
  |_=>False
def li {α:Type}(x:Option α) (K:α->Prop):Prop:=match x with
 |some a=>K a
 |none=>False
theorem jJ4 {α:Type}{x:Option α}{K:α->Prop}(h:li x K):∃a,x=some a/\K a:=by
 unfold li at h
 split at h
 .exact⟨_,rfl,h⟩
 .cases h
theorem jNx {E:El}{φ K:List C->Prop}(h:ask E φ K):∃l,φ l/\K l:=by
 obtain⟨⟨x,hx⟩,h2⟩:=h;exact⟨_,hx,h2 x hx⟩
variable {T:Tb}{H:Hx}
theorem jOk:∀{b:Bool}{pp:Ph}{cs:List C}{o n:Nat}{K:List C->Prop},gK H b pp cs o n K->∃l,gL pp cs o n=some l/\K l
 |b,[],cs,o,n,K,h=>by
  simp only[gK]at h
  split at h
  .exact jNx h
  .split at h
   .rename_i hl;exact⟨_,hl,h⟩
   .cases h
 |b,(z,j,q) ::pp,cs,o,n,K,h=>by
  simp only[gK]at h
  split at h
  .rename_i zz l hc
   split at h
   .rename_i hz
    obtain⟨e,G,h2⟩:=jNx h;obtain⟨r,E,B⟩:=jOk h2;refine⟨r,?_,B⟩;simp only[gL,hc,G];rw[if_pos hz,E]
   .cases h
  .rename_i e hc
   obtain⟨r,E,B⟩:=jOk h;exact⟨r,by simp only[gL,hc,E],B⟩
  .cases h
theorem jNO:∀{b:Bool}{pp:Ph}{cs:List C}{o:Nat}{new:List C}{K:List C->Prop},sK H b pp cs o new K->∃l,sL pp cs o new=some l/\K l
 |b,[],cs,o,new,K,h=>by
  simp only[sK]at h
  split at h
  .exact⟨_,by simp only[sL];rw[if_pos h.1],h.2⟩
  .split at h
   .rename_i hl;exact⟨_,by simp only[sL];rw[if_pos hl],h⟩
   .cases h
 |b,(z,j,q) ::pp,cs,o,new,K,h=>by
  simp only[sK]at h
  split at h
  .rename_i zz l hc
   split at h
   .rename_i hz
    split at h
    .rename_i hb
     unfold rawB at hb;rw[Bool.and_eq_true,Bool.and_eq_true,List.isEmpty_iff]at hb;obtain⟨⟨rfl,G⟩,_⟩:=hb;have G:=Nat.eq_of_beq_eq_true G;subst G;obtain⟨e,E,h2,B⟩:=jNx h;refine⟨_,?_,B⟩;simp only[sL,hc,E];rw[if_pos hz,if_pos (by omega)];simp only;rw[jLo new e 0 (by omega),List.drop_eq_nil_of_le (by omega)];simp
    .obtain⟨e,E,h2⟩:=jNx h
     obtain⟨r,J,B⟩:=jNO h2;refine⟨_,?_,B⟩;simp only[sL,hc,E];rw[if_pos hz,J]
   .cases h
  .rename_i e hc
   obtain⟨r,J,B⟩:=jNO h;exact⟨_,by simp only[sL,hc,J],B⟩
  .cases h
theorem jO2:∀{pp:Ph}{cs:List C}{o:Nat}{new l:List C},sL pp cs o new=some l->∃r,gL pp cs o new.length=some r
 |[],cs,o,new,l,h=>by
  simp only[sL]at h
  split at h
  .rename_i hl
   simp only[gL];clear h l;generalize hn:new.length=n at hl;clear hn new
   induction n generalizing o with
   |zero=>exact⟨[],by unfold gts;rw[if_pos (by omega)]⟩
   |succ n ih=>
    obtain⟨r,B⟩:=ih (o:=o+1) (by omega);refine⟨cs[o] ::r,?_⟩;unfold gts;rw[List.getElem?_eq_getElem (by omega:o<cs.length)];simp only;rw[B]
  .cases h
 |(z,j,q) ::pp,cs,o,new,l,h=>by
  simp only[sL]at h
  split at h
  .rename_i zz l1 hc
   split at h
   .rename_i e he
    split at h
    .rename_i hz
     split at h
     .rename_i e' h1
      obtain⟨r,B⟩:=jO2 h1;exact⟨r,by simp only[gL,hc,he];rw[if_pos hz,B]⟩
     .cases h
    .cases h
   .cases h
  .rename_i e hc
   split at h
   .rename_i e' h1
    obtain⟨r,B⟩:=jO2 h1;exact⟨r,by simp only[gL,hc,B]⟩
   .cases h
  .cases h
def gN (x:Av) (K:Nat->Prop):Prop:=match x with
 | .c (.i _ m)=>0<=m/\K m.toNat
 |_=>False
def spl (m:Int):Nat->(Nat->Prop)->Prop
 |0,_=>True
 |k+1,K=>spl m k K/\(m=(k:Int)->K k)
def gA (H:Hx) (ln:Nat) (x:Av) (K:Nat->Prop):Prop:=match x with
 | .c (.i _ m)=>if H.dc then(if 0<=m/\m<(ln:Int) then K m.toNat else False) else if H.sp then((0<=m/\m<(ln:Int))/\spl m ln K) else((0<=m/\m<(ln:Int))/\K m.toNat)
 |_=>False
theorem jNh {x:Av}{K:Nat->Prop}(h:gN x K):∃j,jKZ x=some j/\K j:=by
 unfold gN at h
 split at h
 .refine⟨_,?_,h.2⟩
  show(if(0:Int)<=_ then some _ else none)=some _;rw[if_pos h.1]
 .cases h
theorem jOY {m:Int}{K:Nat->Prop}:∀{k:Nat},spl m k K->0<=m->m<(k:Int)->K m.toNat
 |0,_,h1,h2=>by omega
 |k+1,h,h1,h2=>by
  by_cases e:m=(k:Int)
  .have:=h.2 e
   rw[e];exact this
  .exact jOY h.1 h1 (by omega)
theorem jTr {ln:Nat}{x:Av}{K:Nat->Prop}(h:gA H ln x K):∃j,jKZ x=some j/\j<ln/\K j:=by
 unfold gA at h
 split at h
 .rename_i k m
  have B:(0<=m/\m<(ln:Int))/\K m.toNat:=by
   split at h
   .split at h
    .rename_i hq;exact⟨hq,h⟩
    .cases h
   .split at h
    .exact⟨h.1,jOY h.2 h.1.1 h.1.2⟩
    .exact h
  refine⟨_,?_,?_,B.2⟩
  .show(if(0:Int)<=m then some m.toNat else none)=some _
   rw[if_pos B.1.1]
  .omega
 .cases h
def gB (H:Hx) (r:Nat):Bool:=H.bt || (Nat.ble 1000000 r && (H.bg 77).isSome)
def gPK (H:Hx) (rt:Nat->Option Rt) (p:Pth) (n:Nat) (K:List C->Prop):Prop:=match rt p.r with
 |some R=>if R.kd=9 then False else gK H (gB H p.r) p.p R.cs p.o n K
 |none=>False
theorem jL5 {rt:Nat->Option Rt}{p:Pth}{n:Nat}{K:List C->Prop}(h:gPK H rt p n K):∃l,gP rt p n=some l/\K l:=by
 unfold gPK at h;unfold gP
 split at h
 .rename_i R hR
  split at h
  .cases h
  .rename_i h9
   simp only[hR];rw[if_neg h9];exact jOk h
 .cases h
def rwK (H:Hx) (rt:Nat->Option Rt) (p:Pth) (K:Nat->List (List C)->Prop):Prop:=gPK H rt p 1 fun l=>match l with
 |[.r true zz l]=>K zz l
 |_=>False
theorem jMV {rt:Nat->Option Rt}{p:Pth}{K:Nat->List (List C)->Prop}(h:rwK H rt p K):∃zz l,gP rt p 1=some [.r true zz l]/\K zz l:=by
 obtain⟨l,B,h2⟩:=jL5 h
 split at h2
 .exact⟨_,_,B,h2⟩
 .cases h2
def jO7 (H:Hx) (i:TI) (a:Av) (rt:Nat->Option Rt) (K:Av->Prop):Prop:=match a with
 | .pa p=>if i.kd=0 then False else if inM rt p then(if i.ag then gPK H rt p i.sz (fun l=>K (rdA p i.sz l))
   else gPK H rt p 1 fun l=>match l with
    |[c]=>K (rd1 p c)
    |_=>False) else False
 |a=>li (jLY i a rt) K
def jPa (H:Hx) (T:Tb) (t:TypeId) (x ix:Av) (rt:Nat->Option Rt) (K:Av->Prop):Prop:=if(T.ti (T.ti t).el).sz=0\/(T.ti (T.ti t).el).kd=0 then False else if(T.ti t).kd=1 then gN ix fun j=>match x with
 | .lo p=>rwK H rt p fun zz l=>if zz=(T.ti (T.ti t).el).sz then j<l.length/\K (.pa (dn p (T.ti (T.ti t).el).sz j)) else False
 | .sb p z a b=>if z=(T.ti (T.ti t).el).sz then a+j<b/\K (.pa (dn p z (a+j))) else False
 | .c (.r false zz l)=>if zz=(T.ti (T.ti t).el).sz then ask (H.el zz) (fun e=>l[j]? =some e) fun e=>K (.ev e 0) else False
 |_=>False
    else if(T.ti t).kd=2 then gA H (T.ti t).ln ix fun j=>match x with
     | .pa p=>K (.pa (pad p (j*(T.ti (T.ti t).el).sz)))
     | .ev l o=>K (.ev l (o+j*(T.ti (T.ti t).el).sz))
     |_=>False
    else False
def jO9 (H:Hx) (T:Tb) (t:TypeId) (x ix:Av) (rt:Nat->Option Rt) (K:Av->Prop):Prop:=if(T.ti t).kd=4 then gN ix fun j=>match x with
 | .c (.s s)=>j<s.size/\∀u:UInt8,s[j]? =some u->K (.c (.i .u8 (u.toNat:Nat)))
 |_=>False
    else if(T.ti t).kd=2 then gA H (T.ti t).ln ix fun j=>li (jMp (T.ti (T.ti t).el) (j*(T.ti (T.ti t).el).sz) x rt) K
    else False
def jO8 (H:Hx) (T:Tb) (t:TypeId) (x:Av) (rt:Nat->Option Rt) (K:Av->Prop):Prop:=match x with
 | .lo p=>if(T.ti t).kd=1 then rwK H rt p fun _ l=>K (.c (.i .i64 (l.length:Nat))) else False
 |x=>li (jMq T t x rt) K
def jPe (i:TI) (op:BinOp) (x y:Av) (K:Av->Prop):Prop:=match x,y with
 | .c (.i k a),.c (.i k' b)=>if jTx op then(match op with
  | .shl=>¬b<0/\K (.c (.i k (k.wrap (a*2 ^ (min b.toNat k.bits)))))
  | .shr=>¬b<0/\K (.c (.i k (a.fdiv (2 ^ (min b.toNat k.bits)))))
  |_=>False) else if k=k' then(match op with
  | .quo=>b≠0/\K (.c (.i k (k.wrap (a.tdiv b))))
  | .rem=>b≠0/\K (.c (.i k (a.tmod b)))
  |op=>li (jKI i op (.c (.i k a)) (.c (.i k' b))) K) else li (jKI i op (.c (.i k a)) (.c (.i k' b))) K
 | .c (.s a),.c (.s b)=>(match op with
  | .add=>a.size+b.size<=1000000000000/\K (.c (.s (a ++b)))
  |op=>li (jKI i op (.c (.s a)) (.c (.s b))) K)
 |x,y=>li (jKI i op x y) K
section
variable {rt:Nat->Option Rt}{K:Av->Prop}
theorem jWg {i:TI}{a:Av}(h:jO7 H i a rt K):∃v,jLY i a rt=some v/\K v:=by
 unfold jO7 at h
 split at h
 .rename_i p
  unfold jLY
  split at h
  .cases h
  .rename_i hk
   rw[if_neg hk];simp only
   split at h
   .rename_i hin
    rw[if_pos hin]
    split at h
    .rename_i hag
     rw[if_pos hag];obtain⟨l,B,h2⟩:=jL5 h;rw[B];exact⟨_,rfl,h2⟩
    .rename_i hag
     rw[if_neg hag];obtain⟨l,B,h2⟩:=jL5 h;rw[B]
     split at h2
     .exact⟨_,rfl,h2⟩
     .cases h2
   .cases h
 .exact jJ4 h
theorem jWj {t:TypeId}{x E:Av}(h:jPa H T t x E rt K):∃v,jLZ T t x E rt=some v/\K v:=by
 unfold jPa at h;unfold jLZ
 split at h
 .cases h
 .rename_i hz
  split at h
  .rename_i hk
   obtain⟨j,B,h⟩:=jNh h;rw[B];simp only;rw[if_neg hz,if_pos hk]
   split at h
   .obtain⟨zz,l,h1,h2⟩:=jMV h
    split at h2
    .rename_i hzz
     simp only[h1];rw[if_pos ⟨h2.1,hzz⟩];exact⟨_,rfl,h2.2⟩
    .cases h2
   .split at h
    .rename_i hzz
     simp only;rw[if_pos ⟨hzz,h.1⟩];exact⟨_,rfl,h.2⟩
    .cases h
   .split at h
    .rename_i hzz
     obtain⟨e,G,h2⟩:=jNx h;simp only[G];rw[if_pos hzz];exact⟨_,rfl,h2⟩
    .cases h
   .cases h
  .rename_i hk
   split at h
   .rename_i hk2
    obtain⟨j,B,hl,h⟩:=jTr h;rw[B];simp only;rw[if_neg hz,if_neg hk,if_pos hk2,if_pos hl]
    split at h
    .exact⟨_,rfl,h⟩
    .exact⟨_,rfl,h⟩
    .cases h
   .cases h
theorem jWi {t:TypeId}{x E:Av}(h:jO9 H T t x E rt K):∃v,jMY T t x E rt=some v/\K v:=by
 unfold jO9 at h;unfold jMY
 split at h
 .rename_i hk
  obtain⟨j,B,h⟩:=jNh h;rw[B];simp only;rw[if_pos hk]
  split at h
  .rename_i s _
   obtain⟨G,h2⟩:=h;have e:=getElem?_pos s j G;simp only[e];exact⟨_,rfl,h2 _ e⟩
  .cases h
 .rename_i hk
  split at h
  .rename_i hk2
   obtain⟨j,B,hl,h⟩:=jTr h;obtain⟨v,J,h⟩:=jJ4 h;rw[B];simp only;rw[if_neg hk,if_pos hk2,if_pos hl];exact⟨v,J,h⟩
  .cases h
theorem jWh {t:TypeId}{x:Av}(h:jO8 H T t x rt K):∃v,jMq T t x rt=some v/\K v:=by
 unfold jO8 at h
 split at h
 .split at h
  .rename_i hk
   obtain⟨E,l,B,h2⟩:=jMV h;unfold jMq;rw[if_pos hk];simp only[B];exact⟨_,rfl,h2⟩
  .cases h
 .exact jJ4 h
theorem jWl {i:TI}{op:BinOp}{x y:Av}(h:jPe i op x y K):∃v,jKI i op x y=some v/\K v:=by
 unfold jPe at h
 split at h
 .split at h
  .rename_i hf
   split at h
   .refine⟨_,?_,h.2⟩
    simp only[jKI];rw[if_pos (.inr hf)];simp only[jLw];rw[if_neg h.1];rfl
   .refine⟨_,?_,h.2⟩
    simp only[jKI];rw[if_pos (.inr hf)];simp only[jLw];rw[if_neg h.1];rfl
   .cases h
  .split at h
   rotate_left
   .exact jJ4 h
   rename_i hk
   split at h
   .refine⟨_,?_,h.2⟩
    simp only[jKI];rw[if_pos (.inl hk)];simp only[jLw];rw[if_neg h.1];rfl
   .refine⟨_,?_,h.2⟩
    simp only[jKI];rw[if_pos (.inl hk)];simp only[jLw];rw[if_neg h.1];rfl
   .exact jJ4 h
 .split at h
  .refine⟨_,?_,h.2⟩
   simp only[jKI,jQW];rw[if_pos h.1];rfl
  .exact jJ4 h
 .exact jJ4 h
end
end V
end Go.Proofs.YtnhbcdnmfafbiaaGreatDoor
