import Derived.Test.YtnhbcdnmfafbiaaGreatDoorM13
set_option linter.unusedVariables false
set_option linter.unusedSimpArgs false
set_option maxHeartbeats 20000000
namespace Go.Proofs.YtnhbcdnmfafbiaaGreatDoor
namespace V
open Go.RowKit
section
variable {T:Tb}{g:Nat->Option (List C)}{h0:∀k,k<1000000->g k=none}
abbrev Tb.var (T:Tb) (g:Nat->Option (List C)) (h0:∀k,k<1000000->g k=none):Tb:={T with gl:=g,gl0:=h0}
theorem Jba (hT:∀k,T.gl k=none):∀(l:List (Nat × Rt)) (k:Nat),lkr (T.var g h0) l k=match lkr T l k with|some R=>some R|none=>(match g k with|some cs=>some ⟨3,cs⟩|none=>none)
 |[],k=>by
  simp only[lkr,hT];cases g k <;> rfl
 |(j,R) ::l,k=>by
  simp only[lkr]
  split
  .rfl
  .exact Jba hT l k
theorem JdG (hT:∀k,T.gl k=none):∀{l:List (Nat × Rt)}{k:Nat}{R:Rt},lkr T l k=some R->∃q ∈ l,q.1=k
 |[],k,R,h=>by simp only[lkr,hT]at h;cases h
 |(j,R') ::l,k,R,h=>by
  simp only[lkr]at h
  split at h
  .rename_i e;exact⟨_,List.mem_cons_self ..,e⟩
  .obtain⟨q,h1,h2⟩:=JdG hT h;exact⟨q,List.mem_cons_of_mem _ h1,h2⟩
theorem JaF (hT:∀k,T.gl k=none) {l:List (Nat × Rt)}(hl:∀q ∈ l,q.1<1000000) {k:Nat}{R:Rt}(h:lkr T l k=some R):k<1000000/\lkr (T.var g h0) l k=some R:=by
 obtain⟨q,B,h2⟩:=JdG hT h;exact⟨by rw[<-h2];exact hl q B,by rw[Jba hT,h]⟩
theorem JaB (hT:∀k,T.gl k=none) {l:List (Nat × Rt)}(hl:∀q ∈ l,q.1<1000000) {k:Nat}{R:Rt}(h:lkr (T.var g h0) l k=some R):(k<1000000/\lkr T l k=some R)\/(1000000<=k/\own R=false/\R.kd=3/\∀l':List (Nat × Rt),(∀q ∈ l',q.1<1000000)->lkr (T.var g h0) l' k=some R):=by
 rw[Jba hT]at h
 cases hR :lkr T l k with
 |some R'=>
  rw[hR]at h;cases h;exact .inl ⟨(JaF (g:=g) (h0:=h0) hT hl hR).1,rfl⟩
 |none=>
  rw[hR]at h;simp only at h
  split at h
  .rename_i cs hcs
   cases h
   have hk:1000000<=k:=by
    rcases Nat.lt_or_ge k 1000000 with q|q
    .rw[h0 k q]at hcs;cases hcs
    .exact q
   refine .inr ⟨hk,rfl,rfl,fun l' hl'=>?_⟩;rw[Jba hT]
   cases hq :lkr T l' k with
   |some _=>
    have:=(JaF (g:=g) (h0:=h0) hT hl' hq).1;omega
   |none=>simp only[hcs]
  .cases h
theorem Jd5:∀(as:List Arg) (i:Nat) (q:Nat × Rt),q ∈ jKb i as->q.1<i+as.length
 |[],i,q,h=>by cases h
 |x ::l,i,q,h=>by
  have ih:=Jd5 l (i+1) q;rw[List.length_cons];simp only[jKb]at h
  split at h
  .rcases List.mem_cons.1 h with rfl|h
   .simp only;omega
   .have:=ih h;omega
  .have:=ih h;omega
theorem Does.var (hT:∀k,T.gl k=none) {f:Nat}{as rs:List Arg}{bs:List (List C)}(h:Does T f as rs bs) (hn:as.length<=1000) (ha:∀y,.pl y ∈ as->jKg y=true) (hr:∀y,.pl y ∈ rs->jKg y=true):Does (T.var g h0) f as rs bs:=by
 refine⟨h.1,fun c hc hst hX hu=>?_⟩;have O:∀q ∈ (entry as).rt,q.1<1000000:=fun q G=>by have:=Jd5 as 0 q G;omega
 have kX:∀q ∈ (jKl as rs bs).rt,q.1<1000000:=fun q G=>by
  rcases List.mem_append.1 G with G|G
  .have:=jT8 as 0 bs q G;omega
  .split at G
   .rw[List.mem_singleton.1 G];unfold RK;omega
   .cases G
 let c0:Cf:={c with fp:=fun k=>if 1000000<=k then[] else c.fp k}
 have Z:∀{k},k<1000000->c0.fp k=c.fp k:=fun {k} hk=>if_neg (by omega);have S:=hc.sx.sr;rw[hst]at S
 have k7:Ok T c0:=by
  refine⟨⟨⟨fun k R hR=>?_,fun k R hR=>?_,fun k R hR ho=>?_,fun k k' R R' hne hR h4 ho=>?_,fun t=>?_,fun k hk=>?_,fun g cs e=>by rw[hT]at e;cases e⟩,hc.sx.nd,hc.sx.na,fun g hg k=>?_,hc.sx.lt⟩,hc.al⟩
  .replace hR:lkr T (entry as).rt k=some R:=by rw[<-hst];exact hR
   obtain⟨B,a2⟩:=JaF (g:=g) (h0:=h0) hT O hR;rw[Z B];exact S.rts k R a2
  .replace hR:lkr T (entry as).rt k=some R:=by rw[<-hst];exact hR
   obtain⟨B,a2⟩:=JaF (g:=g) (h0:=h0) hT O hR;rw[Z B];exact S.nd k R a2
  .replace hR:lkr T (entry as).rt k=some R:=by rw[<-hst];exact hR
   obtain⟨B,a2⟩:=JaF (g:=g) (h0:=h0) hT O hR;rw[Z B];exact S.fa k R a2 ho
  .replace hR:lkr T (entry as).rt k=some R:=by rw[<-hst];exact hR
   replace h4:lkr T (entry as).rt k'=some R':=by rw[<-hst];exact h4
   obtain⟨B,a2⟩:=JaF (g:=g) (h0:=h0) hT O hR;obtain⟨b1,b2⟩:=JaF (g:=g) (h0:=h0) hT O h4;rw[Z B,Z b1];exact S.dj k k' R R' hne a2 b2 ho
  .have ht:=S.tms t
   show TV c.w c.A c.mo c0.fp (lkt c.st.tm t) (c.a t);rw[hst];have e:=jNd as 0 t;simp only[Nat.zero_le,if_true,Nat.sub_zero]at e;have e:lkt (entry as).tm t=_:=e;rw[e]at ht ⊢
   cases hx :as[t]? with
   |none=>trivial
   |some x=>
    have q9:=(List.getElem?_eq_some_iff.1 hx).1;rw[hx]at ht;simp only at ht ⊢;have ef:c0.fp t=c.fp t:=Z (by omega)
    cases x with
    |pl y=>exact tv0 (jWy (ha y (List.mem_of_getElem? hx)) ht)
    |bp l=>
     obtain⟨g1,B,J,h2⟩:=ht;exact⟨g1,B,fun w' hw=>J w' (by rw[<-ef];exact hw),h2⟩
    |br l=>
     obtain⟨g1,B,J,h2⟩:=ht;exact⟨g1,B,fun w' hw=>J w' (by rw[<-ef];exact hw),h2⟩
    |ow l one=>
     simp only[jNy,loc]at ht ⊢
     cases one with
     |true=>exact fun w' hw=>ht w' (by rw[<-ef];exact hw)
     |false=>
      obtain⟨arr,J,h2,E⟩:=ht;exact⟨arr,J,h2,fun w' hw=>E w' (by rw[<-ef];exact hw)⟩
    |rv l one=>
     simp only[jNy,loc]at ht ⊢
     cases one with
     |true=>exact fun w' hw=>ht w' (by rw[<-ef];exact hw)
     |false=>
      obtain⟨arr,J,h2,E⟩:=ht;exact⟨arr,J,h2,fun w' hw=>E w' (by rw[<-ef];exact hw)⟩
  .by_cases h5:1000000<=k
   .exact if_pos h5
   .rw[Z (by omega)]
    refine S.nf k ?_;replace hk:lkr T (entry as).rt k=none:=by rw[<-hst];exact hk
    rw[Jba hT,hk];simp only[h0 k (by omega)]
  .show g ∉ c0.fp k
   by_cases h5:1000000<=k
   .rw[show c0.fp k=[] from if_pos h5];simp
   .rw[Z (by omega)];exact hc.sx.dj g hg k
 have P:∀{q},Ow T c0 q->Ow (T.var g h0) c q:=fun {q} ho=>by
  rcases ho with⟨r,R,J,h2,E⟩|E
  .replace J:lkr T (entry as).rt r=some R:=by rw[<-hst];exact J
   obtain⟨B,a2⟩:=JaF (g:=g) (h0:=h0) hT O J;rw[Z B]at E;exact .inl ⟨r,R,by rw[hst];exact a2,h2,E⟩
  .exact .inr E
 have k9:∀{q},Ow (T.var g h0) c q->Ow T c0 q:=fun {q} ho=>by
  rcases ho with⟨r,R,J,h2,E⟩|E
  .rw[hst]at J
   rcases JaB hT O J with⟨B,a2⟩|⟨_,b,_⟩
   .exact .inl ⟨r,R,by show lkr T c.st.rt r=some R;rw[hst];exact a2,h2,by rw[Z B];exact E⟩
   .rw[b]at h2;cases h2
  .exact .inr E
 refine(h.2 c0 k7 hst hX hu).mono ?_;rintro e w' ⟨V,v,rfl,rfl,k1,k2,M,k4,k5⟩
 let c':Cf:={V with mo:=fun k=>if 1000000<=k then c.mo k else V.mo k,fp:=fun k=>if 1000000<=k then c.fp k else V.fp k}
 have Y:∀{k},k<1000000->c'.mo k=V.mo k/\c'.fp k=V.fp k:=fun {k} hk=>⟨if_neg (by omega),if_neg (by omega)⟩
 have m2:∀{k},1000000<=k->c'.mo k=c.mo k/\c'.fp k=c.fp k:=fun {k} hk=>⟨if_pos hk,if_pos hk⟩
 have S1:=k1.sx.sr;rw[M]at S1
 have nA:∀{q},Ow (T.var g h0) c q->¬c.A q:=fun {q} ho=>by
  rcases ho with⟨r,R,J,h2,E⟩|E
  .exact hc.sx.sr.fa r R J h2 q E
  .exact hc.sx.na q E
 have stA:∀k,c.A k->c'.A k/\c'.w.heap[k]? =c.w.heap[k]?:=fun k hk=>⟨k2.fa k hk,k2.kp k (hc.al k hk) fun ho=>nA (P ho) hk⟩
 have h6:∀{k R},1000000<=k->lkr (T.var g h0) (entry as).rt k=some R->∀q ∈ c.fp k,¬Ow (T.var g h0) c q/\q<c.w.heap.size:=fun {k R} hk hR q G=>by
  refine⟨fun ho=>?_,jKa hc.sx.sr G⟩;rcases ho with⟨r,R',J,h2,E⟩|E
  .have h1':=J
   rw[hst]at h1'
   rcases JaB hT O h1' with⟨B,_⟩|⟨_,b,_⟩
   .exact jLd hc.sx.sr J h2 (by omega) G E
   .rw[b]at h2;cases h2
  .exact hc.sx.dj q E k G
 have k8:Ok (T.var g h0) c':=by
  refine⟨⟨⟨fun k R hR=>?_,fun k R hR=>?_,fun k R hR ho=>?_,fun k k' R R' hne hR h4 ho=>?_,fun t=>?_,fun k hk=>?_,fun g1 cs e=>?_⟩,k1.sx.nd,k1.sx.na,fun g1 hg1 k=>?_,k1.sx.lt⟩,k1.al⟩
  .replace hR:lkr (T.var g h0) (jKl as rs bs).rt k=some R:=by rw[<-M];exact hR
   rcases JaB hT kX hR with⟨B,a2⟩|⟨b1,b2,b3,b4⟩
   .rw[(Y B).1,(Y B).2];exact S1.rts k R a2
   .rw[(m2 b1).1,(m2 b1).2]
    have hE:=b4 _ O;exact(S.rts k R hE).stay stA fun q G=>k2.kp q (h6 b1 hE q G).2 fun ho=>(h6 b1 hE q G).1 (P ho)
  .replace hR:lkr (T.var g h0) (jKl as rs bs).rt k=some R:=by rw[<-M];exact hR
   rcases JaB hT kX hR with⟨B,a2⟩|⟨b1,b2,b3,b4⟩
   .rw[(Y B).2];exact S1.nd k R a2
   .rw[(m2 b1).2];exact S.nd k R (b4 _ O)
  .replace hR:lkr (T.var g h0) (jKl as rs bs).rt k=some R:=by rw[<-M];exact hR
   rcases JaB hT kX hR with⟨B,a2⟩|⟨b1,b2,b3,b4⟩
   .rw[(Y B).2];exact S1.fa k R a2 ho
   .rw[b2]at ho;cases ho
  .replace hR:lkr (T.var g h0) (jKl as rs bs).rt k=some R:=by rw[<-M];exact hR
   replace h4:lkr (T.var g h0) (jKl as rs bs).rt k'=some R':=by rw[<-M];exact h4
   rcases JaB hT kX hR with⟨B,a2⟩|⟨b1,b2,b3,b4⟩
   .rw[(Y B).2]
    rcases JaB hT kX h4 with⟨h8,k6⟩|⟨d1,d2,d3,d4⟩
    .rw[(Y h8).2];exact S1.dj k k' R R' hne a2 k6 ho
    .rw[(m2 d1).2]
     intro q G h7;have hE:=d4 _ O;rcases k2.ow q (.inl ⟨k,R,by rw[M];exact a2,ho,G⟩)with o|o
     .exact(h6 d1 hE q h7).1 (P o)
     .have:=(h6 d1 hE q h7).2
      have o:c.w.heap.size<=q:=o;omega
   .rw[b2]at ho;cases ho
  .have ht:=S1.tms t
   show TV V.w V.A c'.mo c'.fp (lkt V.st.tm t) (V.a t);rw[M];have e:lkt (jKl as rs bs).tm t=if RK=t then jKe RK rs else .u:=rfl;rw[e]at ht ⊢
   split
   .rename_i et
    rw[if_pos et]at ht;have hm:=Y (k:=RK) (by unfold RK;omega);exact jR1 (fun _ _ _=>hm.1) hr ht
   .trivial
  .by_cases h5:1000000<=k
   .rw[(m2 h5).2]
    replace hk:lkr (T.var g h0) (jKl as rs bs).rt k=none:=by rw[<-M];exact hk
    refine S.nf k ?_
    cases hE :lkr (T.var g h0) (entry as).rt k with
    |none=>rfl
    |some R=>
     rcases JaB hT O hE with⟨B,_⟩|⟨_,_,_,b4⟩
     .omega
     .rw[b4 _ kX]at hk;cases hk
   .rw[(Y (by omega)).2]
    refine S1.nf k ?_;replace hk:lkr (T.var g h0) (jKl as rs bs).rt k=none:=by rw[<-M];exact hk
    rw[Jba hT]at hk
    cases G :lkr T (jKl as rs bs).rt k with
    |none=>rfl
    |some R=>rw[G]at hk;cases hk
  .rw[(m2 (k:=1000000+g1) (by omega)).1]
   exact S.gl g1 cs e
  .replace hg1:g1 ∈ V.X:=hg1
   rw[k4]at hg1;cases hg1
 refine⟨c',v,rfl,rfl,k8,⟨k2.low,fun q G ho=>k2.kp q G fun o=>ho (P o),fun q ho=>?_,k2.fa,fun q G=>(k2.fb q G).imp_right fun o=>o.imp_left P,fun r R hR h0'=>?_,fun r R hR ho h9=>?_⟩,M,k4,k5⟩
 .have ho':Ow T V q:=by
   rcases ho with⟨r,R,J,h2,E⟩|E
   .replace J:lkr (T.var g h0) (jKl as rs bs).rt r=some R:=by rw[<-M];exact J
    rcases JaB hT kX J with⟨B,a2⟩|⟨_,b,_⟩
    .rw[(Y B).2]at E
     exact .inl ⟨r,R,by rw[M];exact a2,h2,E⟩
    .rw[b]at h2;cases h2
   .exact .inr E
  exact(k2.ow q ho').imp_left P
 .rw[hst]at hR
  rcases JaB hT O hR with⟨B,a2⟩|⟨_,_,b3,_⟩
  .obtain⟨R',r1,r2,r3,r4⟩:=k2.pr r R (by show lkr T c.st.rt r=some R;rw[hst];exact a2) h0'
   rw[M]at r1;exact⟨R',by show lkr (T.var g h0) V.st.rt r=_;rw[M];exact(JaF hT kX r1).2,r2,r3,by rw[(Y B).1];exact r4⟩
  .omega
 .replace hR:lkr (T.var g h0) (jKl as rs bs).rt r=some R:=by rw[<-M];exact hR
  rcases JaB hT kX hR with⟨B,a2⟩|⟨b1,b2,b3,b4⟩
  .obtain⟨r1,r2,r3⟩:=k2.ro r R (by rw[M];exact a2) ho h9
   rw[Z B]at r3;rw[(Y B).1,(Y B).2];replace r1:lkr T (entry as).rt r=some R:=by rw[<-hst];exact r1
   exact⟨by rw[hst];exact(JaF hT O r1).2,r2,r3⟩
  .rw[(m2 b1).1,(m2 b1).2]
   exact⟨by rw[hst];exact b4 _ O,rfl,rfl⟩
end
end V
end Go.Proofs.YtnhbcdnmfafbiaaGreatDoor
