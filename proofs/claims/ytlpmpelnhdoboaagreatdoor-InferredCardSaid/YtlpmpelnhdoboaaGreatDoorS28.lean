import Derived.Test.YtlpmpelnhdoboaaGreatDoorS16
import Derived.Test.YtlpmpelnhdoboaaGreatDoorS19
import Derived.Test.YtlpmpelnhdoboaaGreatDoorS27
set_option linter.unusedVariables false
set_option linter.unusedSimpArgs false
set_option maxHeartbeats 20000000
namespace Go.Proofs.YtlpmpelnhdoboaaGreatDoor
section
open Go.RowKit Sl
section
variable {L:List Tok}{M:Nat}{s s':Sg}{v:V}{q:Q}{oi:Int}
theorem jq4 {t:Tok}{l:List Tok}{o:Nat}(h:Sim L q oi (.ok (t ::l) o)) (hk:t.k=2):jm9 (jm8 L 2 q.S)=t.t:=by
 have B:=h.word;unfold Q.word at B;unfold jm8 jm9 jpH;rw[B,if_pos hk,if_pos hk]
theorem jyj:∀(m:Nat) (xs pre:List ByteArray) {s s':Sg}{v:V}{q:Q}{oi:Int},Jx (.params m xs) s s' v->Sim L q oi s->∃S' ys,jnI L m q.S (pre ++xs)=(S',pre ++ys)/\Sim L ⟨S',q.ps⟩ oi s'/\s'.g<=s.g/\s'.pot<=s.pot/\(s'.g=1->v= .nm ys):=by
 intro m
 induction m with
 |zero=>
  intro xs pre s s' v q oi K B;refine⟨q.S,xs,rfl,?_⟩
  cases s with
  |bad e p=>have h:s'= .bad e p:=K;subst h;exact⟨B.ps,jN,jN,fun h=>by cases h⟩
  |ok l o=>
   obtain⟨t,r,rfl⟩:=B.st.2.2.2.1.ne
   rcases jnU K with⟨h,_⟩|⟨ss,fin,r0,F,hs,H⟩
   .simp[jm0]at h
   .simp only[jm0,Nat.lt_irrefl,and_false,if_false]at F
    cases F;have I:=jnx hs;subst I;rw[jnT]at H;obtain⟨rfl,C⟩:=jn6 (s:=.ok (t ::r) o) (fin:=fun _=>.out (.nm xs)) (vs:=[]) H (fun j' h=>by cases h);exact⟨B.ps,jN,jN,fun h=>by have:=C rfl;injection this with this;exact this.symm⟩
 |succ m ih=>
  intro xs pre s s' v q oi K B
  cases s with
  |bad e p=>
   have h:s'= .bad e p:=K;subst h;have h0:=B.kind0;unfold Q.kind at h0;refine⟨q.S,xs,?_,B.ps,jN,jN,fun h=>by cases h⟩;rw[jnI,if_neg (by omega)]
  |ok l o=>
   obtain⟨t,r,rfl⟩:=B.st.2.2.2.1.ne;have R:=B.word;unfold Q.word at R
   rcases jnU K with⟨h,_⟩|⟨ss,fin,r0,F,hs,H⟩
   .simp only[jm0]at h;split at h <;> cases h
   .by_cases h2:t.k=2
    .simp only[jm0,h2,Nat.zero_lt_succ,and_self,if_true]at F
     cases F;obtain⟨v0,r1,O,rfl,U⟩:=jnS hs;rw[joA,if_pos h2]at O;have I:=jnx O;subst I;have Z:=U t r o rfl h2;subst Z
     rcases jpA (s:=Sg.ok r o) (vs:=[.tk t]) H (fun _ v h=>by cases h)with⟨h,_⟩|⟨_,j',h,hJ'⟩
     .cases h
     .cases h
      obtain⟨S',ys,P,Y,m1,l1,W⟩:=ih _ pre hJ' (B.take (by omega));refine⟨S',ys,?_,Y,m1,?_,W⟩
      .rw[jnI,R,if_pos h2,Yu]
       have:jm9 t=t.t:=by unfold jm9 jpH;rw[if_pos h2]
       rw[this];exact P
      .rw[jm2];rw[jo2]at l1;omega
    .simp only[jm0,h2,false_and,if_false]at F
     cases F;have I:=jnx hs;subst I;rw[jnT]at H;obtain⟨rfl,C⟩:=jn6 (s:=.ok (t ::r) o) (fin:=fun _=>.out (.nm xs)) (vs:=[]) H (fun j' h=>by cases h);refine⟨q.S,xs,?_,B.ps,jN,jN,fun h=>by have:=C rfl;injection this with this;exact this.symm⟩;rw[jnI,R,if_neg h2]
theorem jxl {m:Nat}{ns:List ByteArray}{e p:Nat}(h:Sim L q oi (.bad e p)):tupL L m q.S ns=(q.S,ns):=by
 have B:=h.kind0;unfold Q.kind at B
 cases m with
 |zero=>rfl
 |succ m=>rw[tupL,if_neg (by omega)]
theorem jEG:∀(m:Nat) (xs pre:List ByteArray) {s s':Sg}{v:V}{q:Q}{oi:Int},Jx (.names m xs) s s' v->Sim L q oi s->∃S' ys,tupL L m q.S (pre ++xs)=(S',pre ++ys)/\Sim L ⟨S',q.ps⟩ oi s'/\s'.g<=s.g/\s'.pot<=s.pot/\(s'.g=1->v= .nm ys):=by
 intro m
 induction m with
 |zero=>
  intro xs pre s s' v q oi O B;refine⟨q.S,xs,rfl,?_⟩
  cases s with
  |bad e p=>have h:s'= .bad e p:=O;subst h;exact⟨B.ps,jN,jN,fun h=>by cases h⟩
  |ok l o=>
   obtain⟨t,r,rfl⟩:=B.st.2.2.2.1.ne
   rcases jnU O with⟨h,_⟩|⟨ss,fin,r0,F,hs,H⟩
   .simp[jm0]at h
   .simp only[jm0,Nat.lt_irrefl,and_false,if_false]at F
    cases F;have K:=jnx hs;subst K;rw[jnT]at H;obtain⟨rfl,C⟩:=jn6 (s:=.ok (t ::r) o) (fin:=fun _=>.out (.nm xs)) (vs:=[]) H (fun j' h=>by cases h);exact⟨B.ps,jN,jN,fun h=>by have:=C rfl;injection this with this;exact this.symm⟩
 |succ m ih=>
  intro xs pre s s' v q oi O B
  cases s with
  |bad e p=>
   have h:s'= .bad e p:=O;subst h;exact⟨q.S,xs,jxl B,B.ps,jN,jN,fun h=>by cases h⟩
  |ok l o=>
   obtain⟨t,r,rfl⟩:=B.st.2.2.2.1.ne;have hw:=B.word;unfold Q.word at hw
   rcases jnU O with⟨h,_⟩|⟨ss,fin,r0,F,hs,H⟩
   .simp only[jm0]at h;split at h <;> cases h
   .by_cases h2:t.k=25
    .simp only[jm0,h2,Nat.zero_lt_succ,and_self,if_true]at F
     cases F;obtain⟨v0,r1,Z,rfl,h7⟩:=jnS hs;rw[joA,if_pos h2]at Z;have S0:=B.take (by omega);obtain⟨v1,r2,h4,rfl,h0⟩:=jnS Z;have U:=S0.want (k:=2) (by omega);obtain⟨c1,d1,-⟩:=jo0 2 (.ok r o);rw[jo2]at c1;have K:=jnx h4;subst K;simp only[jnT,jn3]at H;have eT:∀ns,tupL L (m+1) q.S ns=tupL L m (q.S.take.want L 2) (ns ++[jm9 (jm8 L 2 q.S.take)]):=fun ns=>by rw[tupL,hw,if_pos h2]
     rcases jpA H (fun hg v h=>by
      obtain⟨W,l1,o1,R,Y,e3⟩:=jqq hg;have e0:=h0 W l1 o1 R Y;subst e0
      cases h)with⟨h,e⟩|⟨hg,j',h,hJ'⟩
     .subst e
      have I:(Sg.tm 2 (Sg.ok r o)).g=0:=by
       have h1:=jnq (Sg.tm 2 (Sg.ok r o))
       by_cases h3:(Sg.tm 2 (Sg.ok r o)).g=1
       .rw[jnk.2 h3]at h;cases h
       .omega
      have h6:=jGd I;refine⟨q.S.take.want L 2,xs ++[jm9 (jm8 L 2 q.S.take)],?_,U,by rw[I];exact Yi _,by omega,fun h=>by omega⟩;rw[eT]
      cases hst :Sg.tm 2 (Sg.ok r o) with
      |ok _ _=>rw[hst]at I;cases I
      |bad e p=>
       rw[hst]at U;have:=jxl (m:=m) (ns:=pre ++xs ++[jm9 (jm8 L 2 q.S.take)]) U;rw[<-Yu];exact this
     .obtain⟨W,l1,o1,R,Y,e3⟩:=jqq hg
      have e0:=h0 W l1 o1 R Y;subst e0;cases h;obtain⟨S',ys,P,S2,m2,l2,w2⟩:=ih _ pre hJ' U
      have h5:jm9 (jm8 L 2 q.S.take)=W.t:=by
       rw[R]at S0;exact jq4 S0 Y
      refine⟨S',ys,?_,S2,by rw[jmB];have:=jnq (Sg.tm 2 (Sg.ok r o));omega,by rw[jm2];omega,w2⟩;rw[eT,h5,Yu];exact P
    .simp only[jm0,h2,false_and,if_false]at F
     cases F;have K:=jnx hs;subst K;rw[jnT]at H;obtain⟨rfl,C⟩:=jn6 (s:=.ok (t ::r) o) (fin:=fun _=>.out (.nm xs)) (vs:=[]) H (fun j' h=>by cases h);refine⟨q.S,xs,?_,B.ps,jN,jN,fun h=>by have:=C rfl;injection this with this;exact this.symm⟩;rw[tupL,hw,if_neg h2]
theorem jHA (Z:L.length<=1000) (A:Al L M) {t:Tok}{r:List Tok}{o:Nat}(hJ:Jx .expr (.ok (t ::r) o) s' v) (C:t.k=9) (K:Sim L q oi (.ok (t ::r) o)) (hP:q.ps.length+(Sg.ok (t ::r) o).pot+5000*(Sg.ok (t ::r) o).g<=85000) (hM:(Sg.ok (t ::r) o).pot+20<M+1):Does L q .expr (.ok (t ::r) o) s' v oi oi 20 40 0:=by
 have hk:=K.kind;have hw:=K.word;rw[jm2,jmB]at hP;rw[jm2]at hM
 rcases jnU hJ with⟨h,_⟩|⟨ss,fin,r0,hx,hs,hf⟩
 .rw[C]at h;cases h
 rw[C]at hx;cases hx;obtain⟨v0,r0,I,rfl,h3⟩:=jnS hs;rw[joA,if_pos C]at I;have S0:=K.take (by omega);have z0:q.take.ps.length=q.ps.length:=rfl;have k7:=h3 t r o rfl C
 obtain⟨B,F⟩:∃B,B=Sg.ok r o:=⟨_,rfl⟩
 have k8:B.pot=100*r.length:=by rw[F];rfl
 have q5:B.g=1:=by rw[F];rfl
 rw[<-F]at I S0;obtain⟨v1,r1,h8,rfl,k1⟩:=jnS I;have S1:=S0.want (k:=2) (by omega);obtain⟨c1,d1,-⟩:=jo0 2 B;have z1:((q.take).want L 2).ps.length=(q.take).ps.length:=rfl;obtain⟨v2,r2,W,j2,h2,rfl⟩:=jnH h8;obtain⟨S',ys,P2,S2,m2,l2,w2⟩:=jyj 3 [] [jm9 (jm8 L 2 q.take.S)] j2 S1;have S2:Sim L ⟨S',q.ps⟩ oi W:=S2;have zz:(⟨S',q.ps⟩:Q).ps.length=q.ps.length:=rfl;have y2:=jnq W;obtain⟨v3,r3,h7,rfl,k9⟩:=jnS h2;have S3:=S2.want (k:=22) (by omega);obtain⟨c3,d3,-⟩:=jo0 22 W;have z3:(((⟨S',q.ps⟩:Q)).want L 22).ps.length=((⟨S',q.ps⟩:Q)).ps.length:=rfl;obtain⟨v4,r4,s4,j4,k2,rfl⟩:=jnH h7;obtain⟨Y,x4,q4,O,H⟩:=A.tr .expr rfl j4 S3 (by omega) (by simp only[jlv];omega);have m4:=H.mon;have l4:=H.len;have b4:=H.bnd;simp only[jlv,jdn,jm9d]at b4 O;have y4:=jnq s4;have hr:=jnx k2;subst hr;simp only[jnT,jn3]at hf;have O:=jnj (show Y<=Y by omega) O;obtain⟨rfl,R⟩:=jn6 hf (fun j' h=>by split at h <;> simp[nop]at h);have f0:=K.fine Z (by omega);have f4:=H.sim.fine Z (by omega)
 have U:q.take.par L=(⟨S',q.ps⟩,[jm9 (jm8 L 2 q.take.S)] ++ys):=by
  unfold Q.par;have h5:jnI L 3 (q.take.S.want L 2) [jm9 (jm8 L 2 q.take.S)]=(S',[jm9 (jm8 L 2 q.take.S)] ++ys):=P2;rw[h5];rfl
 refine⟨Y+2,q4.ps.length,q4.add ⟨12,t.p,t.k,0,[jm9 (jm8 L 2 q.take.S)] ++ys,[x4]⟩,?_,?_⟩
 .rw[pr,if_pos f0,jm1,hk,C]
  simp only[show(9:Nat)=3↔False from by decide,show(9:Nat)=6↔False from by decide,if_true,if_false];rw[pr,if_pos f0,jm1,U];simp only[O,bnd,if_pos f4,jnu,hw,C]
 .refine jox H.sim H.ext (fun hg=>?_) (by rw[jmB];omega) (by rw[jm2,jmB];omega)
  obtain⟨a1,rfl,h0,k5⟩:=H.rep hg;have h1:=w2 (by omega);subst h1;obtain⟨t1,h4,h9,e1,e2,e3⟩:=jqq (s:=B) (k:=2) (jnk.2 (by omega));have hv:=k1 t1 h4 h9 e1 e2;subst hv;have ho:=R (jnk.2 hg);injection ho with ho
  have k4:jm9 (jm8 L 2 q.take.S)=t1.t:=by
   rw[e1]at S0;exact jq4 S0 e2
  rw[k4];exact⟨_,ho.symm,joo rfl (by omega) (by rw[C];rfl) (fun h=>by omega) rfl (jqO h0 k5),by show(12:Nat)≠25;omega⟩
theorem jHu (Y:L.length<=1000) (A:Al L M) {t C:Tok}{r:List Tok}{o:Nat}(hJ:Jx .lett (.ok (C ::r) o) s' v) (h3:t.k=3) (U:C.k≠4) (O:C.k≠23) (R:Sim L q oi (.ok (t ::C ::r) o)) (hP:q.ps.length+(Sg.ok (t ::C ::r) o).pot+5000*(Sg.ok (t ::C ::r) o).g<=85000) (hM:(Sg.ok (t ::C ::r) o).pot+20<M+1):Does L q .expr (.ok (t ::C ::r) o) s' v oi oi 20 40 0:=by
 have hk:=R.kind;have hw:=R.word;have H:=R.take (by omega);have h5:=H.kind;have q4:q.take.ps.length=q.ps.length:=rfl
 obtain⟨B,F⟩:∃B,B=Sg.ok (C ::r) o:=⟨_,rfl⟩
 have q7:B.pot=100*r.length+100:=by rw[F,jm2]
 have q9:B.g=1:=by rw[F];rfl
 rw[jm2,jmB]at hP;rw[jm2]at hM;simp only[Yk]at hP hM
 rcases jnU hJ with⟨h,_⟩|⟨ss,fin,r0,hx,hs,hf⟩
 .simp only[jm0,if_neg U,if_neg O]at h;cases h
 simp only[jm0,if_neg U,if_neg O]at hx;cases hx;rw[<-F]at hs;rw[<-F]at H;obtain⟨v1,r1,k1,rfl,k4⟩:=jnS hs;have S1:=H.want (k:=2) (by omega);obtain⟨c1,d1,-⟩:=jo0 2 B;have z1:((q.take).want L 2).ps.length=(q.take).ps.length:=rfl;obtain⟨v2,r2,h2,rfl,q8⟩:=jnS k1;have S2:=S1.want (k:=27) (by omega);obtain⟨c2,d2,-⟩:=jo0 27 (B.tm 2);have z2:((((q.take).want L 2)).want L 27).ps.length=(((q.take).want L 2)).ps.length:=rfl;obtain⟨v3,r3,s3,j3,h9,rfl⟩:=jnH h2;obtain⟨n3,x3,q3,Z,K⟩:=A.tr .expr rfl j3 S2 (by omega) (by simp only[jlv];omega);have m3:=K.mon;have l3:=K.len;have b3:=K.bnd;simp only[jlv,jdn,jm9d]at b3 Z;have y3:=jnq s3;obtain⟨v4,r4,k5,rfl,q6⟩:=jnS h9;have S4:=K.sim.want (k:=5) (by omega);obtain⟨c4,d4,-⟩:=jo0 5 s3;have z4:((q3).want L 5).ps.length=(q3).ps.length:=rfl;obtain⟨v5,r5,s5,j5,h6,rfl⟩:=jnH k5;obtain⟨n5,x5,q5,W,I⟩:=A.tr .expr rfl j5 S4 (by omega) (by simp only[jlv];omega);have m5:=I.mon;have l5:=I.len;have b5:=I.bnd;simp only[jlv,jdn,jm9d]at b5 W;have y5:=jnq s5;have hr:=jnx h6;subst hr;simp only[jnT,jn3]at hf;have Z:=jnj (show n3<=n3+n5 by omega) Z;have W:=jnj (show n5<=n3+n5 by omega) W;obtain⟨rfl,h0⟩:=jn6 hf (fun j' h=>by split at h <;> simp[nop]at h);have f0:=R.fine Y (by omega);have f3:=K.sim.fine Y (by omega);have f5:=I.sim.fine Y (by omega)
 have hz:jov L 12 q.take=(8,q.take.want L 2,[jm9 (jm8 L 2 q.take.S)]):=by
  unfold jov;rw[h5,if_neg U,if_neg O]
 refine⟨n3+n5+2,q5.ps.length,q5.add ⟨8,t.p,t.k,0,[jm9 (jm8 L 2 q.take.S)],[x3,x5]⟩,?_,?_⟩
 .rw[pr,if_pos f0,jm1,hk,if_pos h3]
  rw[pr,if_pos f0,jm1,hz];simp only[Z,W,bnd,if_pos f3,if_pos f5,jnu,hw]
 .have x12:∃z,q5.ps=q3.ps ++z:=I.ext
  refine jox I.sim (jof K.ext x12) (fun hg=>?_) (by rw[jmB];omega) (by rw[jm2,jmB];simp only[Yk];omega);obtain⟨a1,rfl,h1,k9⟩:=K.rep (by omega);obtain⟨a2,rfl,k7,h8⟩:=I.rep hg;obtain⟨t1,h7,k2,e1,e2,e3⟩:=jqq (s:=B) (k:=2) (jnk.2 (by omega));have hv:=k4 t1 h7 k2 e1 e2;subst hv;have ho:=h0 (jnk.2 hg);injection ho with ho
  have k8:jm9 (jm8 L 2 q.take.S)=t1.t:=by
   rw[e1]at H;exact jq4 H e2
  rw[k8];exact⟨_,ho.symm,joo rfl (by omega) (by rw[h3];rfl) (fun h=>by omega) rfl (jqe (h1.up x12) k9 k7 h8),by show(8:Nat)≠25;omega⟩
theorem jHk (hL:L.length<=1000) (A:Al L M) {t F:Tok}{r:List Tok}{o:Nat}(hJ:Jx .lett (.ok (F ::r) o) s' v) (h3:t.k=3) (U:F.k=4) (W:Sim L q oi (.ok (t ::F ::r) o)) (hP:q.ps.length+(Sg.ok (t ::F ::r) o).pot+5000*(Sg.ok (t ::F ::r) o).g<=85000) (hM:(Sg.ok (t ::F ::r) o).pot+20<M+1):Does L q .expr (.ok (t ::F ::r) o) s' v oi oi 20 40 0:=by
 have hk:=W.kind;have hw:=W.word;have R:=W.take (by omega);have k7:=R.kind;have x9:q.take.ps.length=q.ps.length:=rfl
 obtain⟨O,B⟩:∃O,O=Sg.ok (F ::r) o:=⟨_,rfl⟩
 have x2:O.pot=100*r.length+100:=by rw[B,jm2]
 have x7:O.g=1:=by rw[B];rfl
 rw[jm2,jmB]at hP;rw[jm2]at hM;simp only[Yk]at hP hM
 rcases jnU hJ with⟨h,_⟩|⟨ss,fin,r0,hx,hs,hf⟩
 .rw[U]at h;cases h
 rw[U]at hx;cases hx;rw[<-B]at hs;rw[<-B]at R;obtain⟨v1,r1,Y,rfl,x5⟩:=jnS hs;rw[B,joA,if_pos U]at Y;rw[B]at R;have Z:=R.take (by omega);have z1:q.take.take.ps.length=q.ps.length:=rfl
 obtain⟨C,K⟩:∃C,C=Sg.ok r o:=⟨_,rfl⟩
 have y0:C.pot=100*r.length:=by rw[K];rfl
 have x3:C.g=1:=by rw[K];rfl
 rw[<-K]at Y Z;obtain⟨v2,r2,k5,rfl,h6⟩:=jnS Y;have S2:=Z.want (k:=2) (by omega);obtain⟨c2,d2,-⟩:=jo0 2 C;have z2:((q.take.take).want L 2).ps.length=(q.take.take).ps.length:=rfl;obtain⟨v3,r3,r9,rfl,k8⟩:=jnS k5;have S3:=S2.want (k:=2) (by omega);obtain⟨c3,d3,-⟩:=jo0 2 (C.tm 2);have z3:((((q.take.take).want L 2)).want L 2).ps.length=(((q.take.take).want L 2)).ps.length:=rfl;obtain⟨v4,r4,s4,j4,h9,rfl⟩:=jnH r9;obtain⟨S',ys,P4,S4,m4,l4,w4⟩:=jyj 3 [] [jm9 (jm8 L 2 (q.take.take.want L 2).S)] j4 S3;have S4:Sim L ⟨S',q.ps⟩ oi s4:=S4;have zz:(⟨S',q.ps⟩:Q).ps.length=q.ps.length:=rfl;have y4:=jnq s4;obtain⟨v5,r5,h7,rfl,y1⟩:=jnS h9;have S5:=S4.want (k:=27) (by omega);obtain⟨c5,d5,-⟩:=jo0 27 s4;have z5:(((⟨S',q.ps⟩:Q)).want L 27).ps.length=((⟨S',q.ps⟩:Q)).ps.length:=rfl;obtain⟨v6,r6,s6,j6,q7,rfl⟩:=jnH h7;obtain⟨n6,x6,q6,p6,H⟩:=A.tr .expr rfl j6 S5 (by omega) (by simp only[jlv];omega);have m6:=H.mon;have l6:=H.len;have b6:=H.bnd;simp only[jlv,jdn,jm9d]at b6 p6;have y6:=jnq s6;obtain⟨v7,r7,q9,rfl,x4⟩:=jnS q7;have S7:=H.sim.want (k:=5) (by omega);obtain⟨c7,d7,-⟩:=jo0 5 s6;have z7:((q6).want L 5).ps.length=(q6).ps.length:=rfl;obtain⟨v8,r8,s8,j8,q5,rfl⟩:=jnH q9;obtain⟨n8,x8,q8,p8,I⟩:=A.tr .expr rfl j8 S7 (by omega) (by simp only[jlv];omega);have m8:=I.mon;have l8:=I.len;have b8:=I.bnd;simp only[jlv,jdn,jm9d]at b8 p8;have y8:=jnq s8;have hr:=jnx q5;subst hr;simp only[jnT,jn3]at hf;have p6:=jnj (show n6<=n6+n8 by omega) p6;have p8:=jnj (show n8<=n6+n8 by omega) p8;obtain⟨rfl,h1⟩:=jn6 hf (fun j' h=>by split at h <;> simp[nop]at h);have f0:=W.fine hL (by omega);have f6:=H.sim.fine hL (by omega);have f8:=I.sim.fine hL (by omega)
 have hz:jov L 12 q.take=(9,⟨S',q.ps⟩,jm9 (jm8 L 2 q.take.take.S) ::([jm9 (jm8 L 2 (q.take.take.want L 2).S)] ++ys)):=by
  unfold jov;rw[k7,if_pos U];unfold Q.fnm fnN;have k2:jnI L 3 ((q.take.take.S.want L 2).want L 2) [jm9 (jm8 L 2 (q.take.take.S.want L 2))]=(S',[jm9 (jm8 L 2 (q.take.take.S.want L 2))] ++ys):=P4;rw[k2];rfl
 refine⟨n6+n8+2,q8.ps.length,q8.add ⟨9,t.p,t.k,0,jm9 (jm8 L 2 q.take.take.S) ::([jm9 (jm8 L 2 (q.take.take.want L 2).S)] ++ys),[x6,x8]⟩,?_,?_⟩
 .rw[pr,if_pos f0,jm1,hk,if_pos h3]
  rw[pr,if_pos f0,jm1,hz];simp only[p6,p8,bnd,if_pos f6,if_pos f8,jnu,hw]
 .have x12:∃z,q8.ps=q6.ps ++z:=I.ext
  refine jox I.sim (jof H.ext x12) (fun hg=>?_) (by rw[jmB];omega) (by rw[jm2,jmB];simp only[Yk];omega);obtain⟨a1,rfl,h2,x1⟩:=H.rep (by omega);obtain⟨a2,rfl,k4,q4⟩:=I.rep hg;have v9:=w4 (by omega);subst v9;obtain⟨t1,h8,v0,e1,e2,e3⟩:=jqq (s:=C) (k:=2) (jnk.2 (by omega));have hv:=h6 t1 h8 v0 e1 e2;subst hv;obtain⟨t3,k1,k9,i1,i2,i3⟩:=jqq (s:=C.tm 2) (k:=2) (jnk.2 (by omega));have h5:=k8 t3 k1 k9 i1 i2;subst h5;have ho:=h1 (jnk.2 hg);injection ho with ho
  have x0:jm9 (jm8 L 2 q.take.take.S)=t1.t:=by
   rw[e1]at Z;exact jq4 Z e2
  have h0:jm9 (jm8 L 2 (q.take.take.want L 2).S)=t3.t:=by
   rw[i1]at S2;exact jq4 S2 i2
  rw[x0,h0];exact⟨_,ho.symm,joo rfl (by omega) (by rw[h3];rfl) (fun h=>by omega) rfl (jqe (h2.up x12) x1 k4 q4),by show(9:Nat)≠25;omega⟩
theorem jHo (hL:L.length<=1000) (A:Al L M) {t H:Tok}{r:List Tok}{o:Nat}(hJ:Jx .lett (.ok (H ::r) o) s' v) (h3:t.k=3) (I:H.k=23) (Y:Sim L q oi (.ok (t ::H ::r) o)) (hP:q.ps.length+(Sg.ok (t ::H ::r) o).pot+5000*(Sg.ok (t ::H ::r) o).g<=85000) (hM:(Sg.ok (t ::H ::r) o).pot+20<M+1):Does L q .expr (.ok (t ::H ::r) o) s' v oi oi 20 40 0:=by
 have hk:=Y.kind;have hw:=Y.word;have W:=Y.take (by omega);have v1:=W.kind;have z8:q.take.ps.length=q.ps.length:=rfl
 obtain⟨U,B⟩:∃U,U=Sg.ok (H ::r) o:=⟨_,rfl⟩
 have y4:U.pot=100*r.length+100:=by rw[B,jm2]
 have z6:U.g=1:=by rw[B];rfl
 rw[jm2,jmB]at hP;rw[jm2]at hM;simp only[Yk]at hP hM
 rcases jnU hJ with⟨h,_⟩|⟨ss,fin,r0,hx,hs,hf⟩
 .rw[I]at h;cases h
 rw[I]at hx;cases hx;rw[<-B]at hs;rw[<-B]at W;rw[B]at hs;obtain⟨r1,h1,rfl⟩:=juQ hs I;rw[B]at W;have S1:=W.beg I (by omega);have h0:=jvv H r o;have z1:(q.take.beg L 12 23).ps.length=q.ps.length:=rfl
 obtain⟨C,h6⟩:∃C,C=opS H r o:=⟨_,rfl⟩
 rw[<-h6]at h1 S1 h0;have y3:=h0.1;have y7:=h0.2.1;obtain⟨v2,r2,v0,rfl,h9⟩:=jnS h1;have S2:=S1.want (k:=2) (by omega);obtain⟨c2,d2,-⟩:=jo0 2 C;have z2:(((q.take.beg L 12 23)).want L 2).ps.length=((q.take.beg L 12 23)).ps.length:=rfl;obtain⟨v3,r3,x7,rfl,H0⟩:=jnS v0;have S3:=S2.want (k:=25) (by omega);obtain⟨c3,d3,-⟩:=jo0 25 (C.tm 2);have z3:(((((q.take.beg L 12 23)).want L 2)).want L 25).ps.length=((((q.take.beg L 12 23)).want L 2)).ps.length:=rfl;obtain⟨v4,r4,k7,rfl,q7⟩:=jnS x7;have S4:=S3.want (k:=2) (by omega);obtain⟨c4,d4,-⟩:=jo0 2 ((C.tm 2).tm 25);have z4:(((((((q.take.beg L 12 23)).want L 2)).want L 25)).want L 2).ps.length=((((((q.take.beg L 12 23)).want L 2)).want L 25)).ps.length:=rfl;obtain⟨v5,r5,s5,j5,k1,rfl⟩:=jnH k7;obtain⟨S',ys,P5,S5,m5,l5,w5⟩:=jEG 4 [] [jm9 (jm8 L 2 (q.take.beg L 12 23).S),jm9 (jm8 L 2 (((q.take.beg L 12 23).want L 2).want L 25).S)] j5 S4;have S5:Sim L ⟨S',q.ps⟩ (oi+1) s5:=S5;have y5:=jnq s5;obtain⟨v6,r6,x5,rfl⟩:=js3 k1;have H2:=Y.lo;have S6:=S5.finish (by omega);obtain⟨c6,d6⟩:=jwA s5;have x3:oi+1-1=oi:=by omega
 rw[x3]at S6;have S6:Sim L ⟨S'.finish L,q.ps⟩ oi s5.cl:=S6;have zz:(⟨S'.finish L,q.ps⟩:Q).ps.length=q.ps.length:=rfl;obtain⟨v7,r7,x6,rfl,y9⟩:=jnS x5;have S7:=S6.want (k:=27) (by omega);obtain⟨c7,d7,-⟩:=jo0 27 s5.cl;have z7:(((⟨S'.finish L,q.ps⟩:Q)).want L 27).ps.length=((⟨S'.finish L,q.ps⟩:Q)).ps.length:=rfl;obtain⟨v8,r8,s8,j8,x2,rfl⟩:=jnH x6;obtain⟨n8,x8,q8,p8,K⟩:=A.tr .expr rfl j8 S7 (by omega) (by simp only[jlv];omega);have m8:=K.mon;have l8:=K.len;have b8:=K.bnd;simp only[jlv,jdn,jm9d]at b8 p8;have y8:=jnq s8;obtain⟨v9,r9,q6,rfl,H1⟩:=jnS x2;have S9:=K.sim.want (k:=5) (by omega);obtain⟨c9,d9,-⟩:=jo0 5 s8;have z9:((q8).want L 5).ps.length=(q8).ps.length:=rfl;obtain⟨z5,z0,x4,y0,h5,rfl⟩:=jnH q6;obtain⟨O,k5,Z,R,F⟩:=A.tr .expr rfl y0 S9 (by omega) (by simp only[jlv];omega);have H4:=F.mon;have H3:=F.len;have q5:=F.bnd;simp only[jlv,jdn,jm9d]at q5 R;have y6:=jnq x4;have hr:=jnx h5;subst hr;simp only[jnT,jn3]at hf;have p8:=jnj (show n8<=n8+O by omega) p8;have R:=jnj (show O<=n8+O by omega) R;obtain⟨rfl,h4⟩:=jn6 hf (fun j' h=>by split at h <;> simp[nop]at h);have f0:=Y.fine hL (by omega);have f8:=K.sim.fine hL (by omega);have q9:=F.sim.fine hL (by omega)
 have hz:jov L 12 q.take=(10,⟨S'.finish L,q.ps⟩,[jm9 (jm8 L 2 (q.take.beg L 12 23).S),jm9 (jm8 L 2 (((q.take.beg L 12 23).want L 2).want L 25).S)] ++ys):=by
  unfold jov;rw[v1,if_neg (by omega),if_pos I];have k2:tpB L 12 q.take.S=(S',[jm9 (jm8 L 2 (q.take.beg L 12 23).S),jm9 (jm8 L 2 (((q.take.beg L 12 23).want L 2).want L 25).S)] ++ys):=P5;unfold Q.tpm tpN;rw[k2];rfl
 refine⟨n8+O+2,Z.ps.length,Z.add ⟨10,t.p,t.k,0,[jm9 (jm8 L 2 (q.take.beg L 12 23).S),jm9 (jm8 L 2 (((q.take.beg L 12 23).want L 2).want L 25).S)] ++ys,[x8,k5]⟩,?_,?_⟩
 .rw[pr,if_pos f0,jm1,hk,if_pos h3]
  rw[pr,if_pos f0,jm1,hz];simp only[p8,R,bnd,if_pos f8,if_pos q9,jnu,hw]
 .have x12:∃z,Z.ps=q8.ps ++z:=F.ext
  refine jox F.sim (jof K.ext x12) (fun hg=>?_) (by rw[jmB];omega) (by rw[jm2,jmB];simp only[Yk];omega);obtain⟨a1,rfl,h7,y2⟩:=K.rep (by omega);obtain⟨a2,rfl,k9,x1⟩:=F.rep hg;have k8:=w5 (by omega);subst k8;obtain⟨t1,k4,x9,e1,e2,e3⟩:=jqq (s:=C) (k:=2) (jnk.2 (by omega));have hv:=h9 t1 k4 x9 e1 e2;subst hv;obtain⟨t3,q4,x0,i1,i2,i3⟩:=jqq (s:=(C.tm 2).tm 25) (k:=2) (jnk.2 (by omega));have h8:=q7 t3 q4 x0 i1 i2;subst h8;have ho:=h4 (jnk.2 hg);injection ho with ho
  have y1:jm9 (jm8 L 2 (q.take.beg L 12 23).S)=t1.t:=by
   rw[e1]at S1;exact jq4 S1 e2
  have h2:jm9 (jm8 L 2 (((q.take.beg L 12 23).want L 2).want L 25).S)=t3.t:=by
   rw[i1]at S3;exact jq4 S3 i2
  rw[y1,h2];exact⟨_,ho.symm,joo rfl (by omega) (by rw[h3];rfl) (fun h=>by omega) rfl ⟨by omega,rfl,jqe (h7.up x12) y2 k9 x1⟩,by show(10:Nat)≠25;omega⟩
end
section
variable {L:List Tok}{M:Nat}{s s':Sg}{v:V}{q:Q}{oi:Int}
theorem jHh (U:L.length<=1000) (A:Al L M) {t:Tok}{r:List Tok}{o:Nat}(hJ:Jx .sum (.ok (t ::r) o) s' v)  (I:Sim L q oi (.ok (t ::r) o)) (hP:q.ps.length+(Sg.ok (t ::r) o).pot+5000*(Sg.ok (t ::r) o).g<=85000) (hM:(Sg.ok (t ::r) o).pot+14<M+1):Does L q .sum (.ok (t ::r) o) s' v oi oi 14 40 0:=by
 have hk:=I.kind;have hw:=I.word;rw[jm2,jmB]at hP;rw[jm2]at hM
 rcases jnU hJ with⟨h,_⟩|⟨ss,fin,r0,hx,hs,hf⟩
 .cases h
 cases hx;obtain⟨v1,r1,H,j1,Z,rfl⟩:=jnH hs;obtain⟨n1,x1,q1,C,B⟩:=A.tr .prod rfl j1 I (by rw[jm2,jmB];omega) (by rw[jm2];simp only[jlv];omega);have m1:=B.mon;have l1:=B.len;have b1:=B.bnd;rw[jm2,jmB]at b1;simp only[jlv,jdn,jm9d]at b1 C;have y1:=jnq H;have hr:=jnx Z;subst hr;simp only[jnT,jn3]at hf;have f0:=I.fine U (by omega);have K:=B.sim.fine U (by omega)
 rcases jpA hf (fun hg v h=>by
  obtain⟨c1,rfl,_⟩:=B.rep (jnk.1 hg)
  cases h)with⟨hb,e⟩|⟨hg,j',h,hJ'⟩
 .have g0:H.g=0:=by
   by_cases h3:H.g=1
   .rw[jnk.2 h3]at hb;cases hb
   .omega
  rw[e]
  obtain⟨R,O,h0⟩:∃R O,H= .bad R O:=by
   cases H with
   |ok _ _=>cases g0
   |bad R O=>exact⟨R,O,rfl⟩
  have k1:=(h0 ▸ B.sim).kind0;refine⟨n1+2,x1,q1,?_,B.sim,B.ext,fun h=>by omega,by rw[jmB];omega,by rw[jm2,jmB];omega⟩;have C:=jnj (show n1<=n1+1 by omega) C;rw[pr,if_pos f0,jm1,C];simp only[bnd,if_pos K];rw[pr,if_pos K,jm1,k1];simp[out,K,cOp]
 .have hg1:=jnk.1 hg
  obtain⟨c1,rfl,h1,Y⟩:=B.rep hg1;cases h;obtain⟨n2,x2,q2,W,F⟩:=A.terms hJ' B.sim h1 Y hg1 (by omega) (by omega);have m2:=F.mon;have b2:=F.bnd;have C:=jnj (show n1<=n1+n2 by omega) C;have W:=jnj (show n2<=n1+n2 by omega) W;refine⟨n1+n2+1,x2,q2,?_,F.sim,jof B.ext F.ext,F.rep,by rw[jmB];omega,by rw[jm2,jmB];omega⟩;rw[pr,if_pos f0,jm1,C];simp only[bnd,if_pos K,W]
theorem jHm (U:L.length<=1000) (A:Al L M) {t:Tok}{r:List Tok}{o:Nat}(hJ:Jx .prod (.ok (t ::r) o) s' v)  (I:Sim L q oi (.ok (t ::r) o)) (hP:q.ps.length+(Sg.ok (t ::r) o).pot+5000*(Sg.ok (t ::r) o).g<=85000) (hM:(Sg.ok (t ::r) o).pot+12<M+1):Does L q .prod (.ok (t ::r) o) s' v oi oi 12 40 0:=by
 have hk:=I.kind;have hw:=I.word;rw[jm2,jmB]at hP;rw[jm2]at hM
 rcases jnU hJ with⟨h,_⟩|⟨ss,fin,r0,hx,hs,hf⟩
 .cases h
 cases hx;obtain⟨v1,r1,H,j1,Z,rfl⟩:=jnH hs;obtain⟨n1,x1,q1,C,B⟩:=A.tr .sign rfl j1 I (by rw[jm2,jmB];omega) (by rw[jm2];simp only[jlv];omega);have m1:=B.mon;have l1:=B.len;have b1:=B.bnd;rw[jm2,jmB]at b1;simp only[jlv,jdn,jm9d]at b1 C;have y1:=jnq H;have hr:=jnx Z;subst hr;simp only[jnT,jn3]at hf;have f0:=I.fine U (by omega);have K:=B.sim.fine U (by omega)
 rcases jpA hf (fun hg v h=>by
  obtain⟨c1,rfl,_⟩:=B.rep (jnk.1 hg)
  cases h)with⟨hb,e⟩|⟨hg,j',h,hJ'⟩
 .have g0:H.g=0:=by
   by_cases h3:H.g=1
   .rw[jnk.2 h3]at hb;cases hb
   .omega
  rw[e]
  obtain⟨R,O,h0⟩:∃R O,H= .bad R O:=by
   cases H with
   |ok _ _=>cases g0
   |bad R O=>exact⟨R,O,rfl⟩
  have k1:=(h0 ▸ B.sim).kind0;refine⟨n1+2,x1,q1,?_,B.sim,B.ext,fun h=>by omega,by rw[jmB];omega,by rw[jm2,jmB];omega⟩;have C:=jnj (show n1<=n1+1 by omega) C;rw[pr,if_pos f0,jm1,C];simp only[bnd,if_pos K];rw[pr,if_pos K,jm1,k1];simp[out,K,cOp]
 .have hg1:=jnk.1 hg
  obtain⟨c1,rfl,h1,Y⟩:=B.rep hg1;cases h;obtain⟨n2,x2,q2,W,F⟩:=A.facs hJ' B.sim h1 Y hg1 (by omega) (by omega);have m2:=F.mon;have b2:=F.bnd;have C:=jnj (show n1<=n1+n2 by omega) C;have W:=jnj (show n2<=n1+n2 by omega) W;refine⟨n1+n2+1,x2,q2,?_,F.sim,jof B.ext F.ext,F.rep,by rw[jmB];omega,by rw[jm2,jmB];omega⟩;rw[pr,if_pos f0,jm1,C];simp only[bnd,if_pos K,W]
theorem jHp (U:L.length<=1000) (A:Al L M) {t:Tok}{r:List Tok}{o:Nat}(hJ:Jx .operand (.ok (t ::r) o) s' v)  (I:Sim L q oi (.ok (t ::r) o)) (hP:q.ps.length+(Sg.ok (t ::r) o).pot+5000*(Sg.ok (t ::r) o).g<=85000) (hM:(Sg.ok (t ::r) o).pot+4<M+1):Does L q .operand (.ok (t ::r) o) s' v oi oi 4 50 0:=by
 have hk:=I.kind;have hw:=I.word;rw[jm2,jmB]at hP;rw[jm2]at hM
 rcases jnU hJ with⟨h,_⟩|⟨ss,fin,r0,hx,hs,hf⟩
 .cases h
 cases hx;obtain⟨v1,r1,H,j1,Z,rfl⟩:=jnH hs;obtain⟨n1,x1,q1,C,B⟩:=A.tr .atom rfl j1 I (by rw[jm2,jmB];omega) (by rw[jm2];simp only[jlv];omega);have m1:=B.mon;have l1:=B.len;have b1:=B.bnd;rw[jm2,jmB]at b1;simp only[jlv,jdn,jm9d]at b1 C;have y1:=jnq H;have hr:=jnx Z;subst hr;simp only[jnT,jn3]at hf;have f0:=I.fine U (by omega);have K:=B.sim.fine U (by omega)
 rcases jpA hf (fun hg v h=>by
  obtain⟨c1,rfl,_⟩:=B.rep (jnk.1 hg)
  cases h)with⟨hb,e⟩|⟨hg,j',h,hJ'⟩
 .have g0:H.g=0:=by
   by_cases h3:H.g=1
   .rw[jnk.2 h3]at hb;cases hb
   .omega
  rw[e]
  obtain⟨R,O,h0⟩:∃R O,H= .bad R O:=by
   cases H with
   |ok _ _=>cases g0
   |bad R O=>exact⟨R,O,rfl⟩
  have k1:=(h0 ▸ B.sim).kind0;refine⟨n1+2,x1,q1,?_,B.sim,B.ext,fun h=>by omega,by rw[jmB];omega,by rw[jm2,jmB];omega⟩;have C:=jnj (show n1<=n1+1 by omega) C;rw[pr,if_pos f0,jm1,C];simp only[bnd,if_pos K];rw[pr,if_pos K,jm1,k1];simp[out,K]
 .have hg1:=jnk.1 hg
  obtain⟨c1,rfl,h1,Y⟩:=B.rep hg1;cases h;obtain⟨n2,x2,q2,W,F⟩:=A.index hJ' B.sim h1 Y hg1 (by omega) (by omega);have m2:=F.mon;have b2:=F.bnd;have C:=jnj (show n1<=n1+n2 by omega) C;have W:=jnj (show n2<=n1+n2 by omega) W;refine⟨n1+n2+1,x2,q2,?_,F.sim,jof B.ext F.ext,F.rep,by rw[jmB];omega,by rw[jm2,jmB];omega⟩;rw[pr,if_pos f0,jm1,C];simp only[bnd,if_pos K,W]
theorem jHD (hL:L.length<=1000) (A:Al L M) {t:Tok}{r:List Tok}{o:Nat}(hJ:Jx .call (.ok (t ::r) o) s' v) (F:t.k≠14) (I:t.k≠15) (H:t.k≠16) (C:t.k≠17) (U:Sim L q oi (.ok (t ::r) o)) (hP:q.ps.length+(Sg.ok (t ::r) o).pot+5000*(Sg.ok (t ::r) o).g<=85000) (hM:(Sg.ok (t ::r) o).pot+8<M+1):Does L q .call (.ok (t ::r) o) s' v oi oi 8 40 0:=by
 have hk:=U.kind;have hw:=U.word;rw[jm2,jmB]at hP;rw[jm2]at hM
 rcases jnU hJ with⟨h,_⟩|⟨ss,fin,r0,hx,hs,hf⟩
 .simp only[jm0,if_neg F,if_neg I,if_neg H,if_neg C]at h;cases h
 simp only[jm0,if_neg F,if_neg I,if_neg H,if_neg C]at hx;cases hx;obtain⟨v1,r1,R,j1,h1,rfl⟩:=jnH hs;obtain⟨n1,x1,q1,K,B⟩:=A.tr .operand rfl j1 U (by rw[jm2,jmB];omega) (by rw[jm2];simp only[jlv];omega);have m1:=B.mon;have l1:=B.len;have b1:=B.bnd;rw[jm2,jmB]at b1;simp only[jlv,jdn,jm9d]at b1 K;have y1:=jnq R;have hr:=jnx h1;subst hr;simp only[jnT,jn3]at hf;have f0:=U.fine hL (by omega);have W:=B.sim.fine hL (by omega)
 rcases jpA hf (fun hg v h=>by
  obtain⟨c1,rfl,_⟩:=B.rep (jnk.1 hg)
  cases h)with⟨hb,e⟩|⟨hg,j',h,hJ'⟩
 .have g0:R.g=0:=by
   by_cases h3:R.g=1
   .rw[jnk.2 h3]at hb;cases hb
   .omega
  rw[e]
  obtain⟨Z,Y,h2⟩:∃Z Y,R= .bad Z Y:=by
   cases R with
   |ok _ _=>cases g0
   |bad Z Y=>exact⟨Z,Y,rfl⟩
  have k1:=(h2 ▸ B.sim).kind0;refine⟨n1+2,x1,q1,?_,B.sim,B.ext,fun h=>by omega,by rw[jmB];omega,by rw[jm2,jmB];omega⟩;have K:=jnj (show n1<=n1+1 by omega) K;rw[pr,if_pos f0,jm1,hk,if_neg F,if_neg I,if_neg H,if_neg C,K];simp only[bnd,if_pos W];rw[pr,if_pos W,jm1,k1];simp[out,W,job]
 .have hg1:=jnk.1 hg
  obtain⟨c1,rfl,h4,h0⟩:=B.rep hg1;cases h;obtain⟨n2,x2,q2,p2,O⟩:=A.args hJ' B.sim (jqO h4 h0) (fun c hc=>by simp at hc;rw[hc];exact h0) rfl (by simp) hg1 (by omega) (by omega);have m2:=O.mon;have b2:=O.bnd;have K:=jnj (show n1<=n1+n2 by omega) K;have p2:=jnj (show n2<=n1+n2 by omega) p2;refine⟨n1+n2+1,x2,q2,?_,O.sim,jof B.ext O.ext,O.rep,by rw[jmB];omega,by rw[jm2,jmB];omega⟩;rw[pr,if_pos f0,jm1,hk,if_neg F,if_neg I,if_neg H,if_neg C,K];simp only[bnd,if_pos W,p2]
theorem jHg (hL:L.length<=1000) (A:Al L M) {a:T}{i:Int}(hJ:Jx (.terms a) s s' v) (F:Sim L q oi s) (hR:Rep q.ps i a) (Z:a.k≠25) (h2:s.g=1) (hP:q.ps.length+s.pot+5000*s.g<=85000) (hM:s.pot<M+1):Does L q (.sumL i) s s' v oi oi 5 0 0:=by
 cases s with
 |bad e p=>cases h2
 |ok l o=>
 obtain⟨t,r,rfl⟩:=F.st.2.2.2.1.ne;have hk:=F.kind;have hw:=F.word;rw[jm2,jmB]at hP;rw[jm2]at hM;have f0:=F.fine hL (by omega)
 rcases jnU hJ with⟨h,_⟩|⟨ss,fin,r0,hx,hs,hf⟩
 .simp only[jm0]at h;split at h <;> cases h
 by_cases O:jm6 t.k=true
 .simp only[jm0,if_pos O]at hx
  cases hx;have hc:cOp t.k=16:=by unfold jm6 at O;simp at O;unfold cOp;rw[if_neg (by omega),if_pos (by omega)]
  obtain⟨v0,r0,h0,rfl,h6⟩:=jnS hs;rw[joA,if_pos rfl]at h0;have S0:=F.take (by intro h;rw[h]at O;simp[jm6]at O);have z0:q.take.ps.length=q.ps.length:=rfl;have k4:=h6 t r o rfl rfl
  obtain⟨H,C⟩:∃H,H=Sg.ok r o:=⟨_,rfl⟩
  have k5:H.pot=100*r.length:=by rw[C];rfl
  have k7:H.g=1:=by rw[C];rfl
  rw[<-C]at h0 S0;obtain⟨v1,r1,R,j1,h9,rfl⟩:=jnH h0;obtain⟨n1,U,q1,p1,B⟩:=A.tr .prod rfl j1 S0 (by omega) (by simp only[jlv];omega);have m1:=B.mon;have l1:=B.len;have b1:=B.bnd;simp only[jlv,jdn,jm9d]at b1 p1;have y1:=jnq R;have hr:=jnx h9;subst hr;simp only[jnT,jn3]at hf;have p1:=jnj (show n1<=n1 by omega) p1;have f1:=B.sim.fine hL (by omega);have I:Sim L (q1.add ⟨16,t.p,t.k,0,[],[i,U]⟩) oi R:=B.sim.add;have za:(q1.add ⟨16,t.p,t.k,0,[],[i,U]⟩).ps.length=q1.ps.length+1:=by simp[Q.add]
  have fa:=I.fine hL (by omega);have Y:∃z,(q1.add ⟨16,t.p,t.k,0,[],[i,U]⟩).ps=q.ps ++z:=jof B.ext ⟨[_],rfl⟩
  have K:∀n,n1<=n->pr L 12 (n+1) (.sumL i) q=pr L 12 n (.sumL q1.ps.length) (q1.add ⟨16,t.p,t.k,0,[],[i,U]⟩):=fun n hn=>by
   rw[pr,if_pos f0,jm1,hk,if_neg (by omega),jnj hn p1];simp only[bnd,if_pos f1,jnu,if_pos fa,hw]
  rcases jpA hf (fun hg v h=>by
   obtain⟨c1,rfl,_⟩:=B.rep (jnk.1 hg)
   cases h)with⟨hb,e⟩|⟨hg,j',h,hJ'⟩
  .have g00:R.g=0:=by
    by_cases h3:R.g=1
    .rw[jnk.2 h3]at hb;cases hb
    .omega
   rw[e]
   obtain⟨e',p',k2⟩:∃e' p',R= .bad e' p':=by
    cases R with
    |ok _ _=>cases g00
    |bad e' p'=>exact⟨e',p',rfl⟩
   have k1:=(k2 ▸ I).kind0;refine⟨n1+2,(q1.ps.length:Int),_,?_,I,Y,fun h=>by omega,by rw[jmB];omega,by rw[jm2,jmB];omega⟩;rw[K _ (by omega),pr,if_pos fa,jm1,k1];simp[out,fa,cOp]
  .have hg1:=jnk.1 hg
   obtain⟨c1,rfl,h8,h5⟩:=B.rep hg1;cases h;have h7:Rep (q1.add ⟨16,t.p,t.k,0,[],[i,U]⟩).ps q1.ps.length (.nd 0 16 t.k 0 [] [a,c1]):=joo rfl (by omega) rfl (fun h=>by omega) rfl (jqe (hR.up B.ext) Z h8 h5);obtain⟨n9,x9,q9,p9,W⟩:=A.terms hJ' I h7 (by show(16:Nat)≠25;omega) hg1 (by omega) (by omega);have m9:=W.mon;have b9:=W.bnd;refine⟨n1+n9+1,x9,q9,?_,W.sim,jof Y W.ext,W.rep,by rw[jmB];omega,by rw[jm2,jmB];omega⟩;rw[K _ (by omega)];exact jnj (by omega) p9
 .have h1':jm6 t.k=false:=by simpa using O
  simp only[jm0,h1',Kr,if_false]at hx;cases hx;have hc:cOp t.k≠16:=by unfold jm6 at h1';simp at h1';unfold cOp;split <;> (try split) <;> (try split) <;> omega
  have hr:=jnx hs;subst hr;obtain⟨rfl,h4⟩:=jn6 (s:=.ok (t ::r) o) (fin:=fun _=>.out (.tr a)) (vs:=[]) hf (fun j' h=>by cases h);have ho:=h4 rfl;injection ho with ho
  refine⟨1,i,q,?_,F,⟨[],by simp⟩,fun _=>⟨a,ho.symm,hR,Z⟩,jN,by rw[jm2,jmB];omega⟩;rw[pr,if_pos f0,jm1,hk,if_pos hc];simp only[out,if_pos f0]
theorem jHB (hL:L.length<=1000) (A:Al L M) {a:T}{i:Int}(hJ:Jx (.facs a) s s' v) (F:Sim L q oi s) (hR:Rep q.ps i a) (Z:a.k≠25) (h2:s.g=1) (hP:q.ps.length+s.pot+5000*s.g<=85000) (hM:s.pot<M+1):Does L q (.prodL i) s s' v oi oi 5 0 0:=by
 cases s with
 |bad e p=>cases h2
 |ok l o=>
 obtain⟨t,r,rfl⟩:=F.st.2.2.2.1.ne;have hk:=F.kind;have hw:=F.word;rw[jm2,jmB]at hP;rw[jm2]at hM;have f0:=F.fine hL (by omega)
 rcases jnU hJ with⟨h,_⟩|⟨ss,fin,r0,hx,hs,hf⟩
 .simp only[jm0]at h;split at h <;> cases h
 by_cases O:jm5 t.k=true
 .simp only[jm0,if_pos O]at hx
  cases hx;have hc:cOp t.k=15:=by unfold jm5 at O;simp at O;unfold cOp;rw[if_neg (by omega),if_neg (by omega),if_pos (by omega)]
  obtain⟨v0,r0,h0,rfl,h6⟩:=jnS hs;rw[joA,if_pos rfl]at h0;have S0:=F.take (by intro h;rw[h]at O;simp[jm5]at O);have z0:q.take.ps.length=q.ps.length:=rfl;have k4:=h6 t r o rfl rfl
  obtain⟨H,C⟩:∃H,H=Sg.ok r o:=⟨_,rfl⟩
  have k5:H.pot=100*r.length:=by rw[C];rfl
  have k7:H.g=1:=by rw[C];rfl
  rw[<-C]at h0 S0;obtain⟨v1,r1,R,j1,h9,rfl⟩:=jnH h0;obtain⟨n1,U,q1,p1,B⟩:=A.tr .sign rfl j1 S0 (by omega) (by simp only[jlv];omega);have m1:=B.mon;have l1:=B.len;have b1:=B.bnd;simp only[jlv,jdn,jm9d]at b1 p1;have y1:=jnq R;have hr:=jnx h9;subst hr;simp only[jnT,jn3]at hf;have p1:=jnj (show n1<=n1 by omega) p1;have f1:=B.sim.fine hL (by omega);have I:Sim L (q1.add ⟨15,t.p,t.k,0,[],[i,U]⟩) oi R:=B.sim.add;have za:(q1.add ⟨15,t.p,t.k,0,[],[i,U]⟩).ps.length=q1.ps.length+1:=by simp[Q.add]
  have fa:=I.fine hL (by omega);have Y:∃z,(q1.add ⟨15,t.p,t.k,0,[],[i,U]⟩).ps=q.ps ++z:=jof B.ext ⟨[_],rfl⟩
  have K:∀n,n1<=n->pr L 12 (n+1) (.prodL i) q=pr L 12 n (.prodL q1.ps.length) (q1.add ⟨15,t.p,t.k,0,[],[i,U]⟩):=fun n hn=>by
   rw[pr,if_pos f0,jm1,hk,if_neg (by omega),jnj hn p1];simp only[bnd,if_pos f1,jnu,if_pos fa,hw]
  rcases jpA hf (fun hg v h=>by
   obtain⟨c1,rfl,_⟩:=B.rep (jnk.1 hg)
   cases h)with⟨hb,e⟩|⟨hg,j',h,hJ'⟩
  .have g00:R.g=0:=by
    by_cases h3:R.g=1
    .rw[jnk.2 h3]at hb;cases hb
    .omega
   rw[e]
   obtain⟨e',p',k2⟩:∃e' p',R= .bad e' p':=by
    cases R with
    |ok _ _=>cases g00
    |bad e' p'=>exact⟨e',p',rfl⟩
   have k1:=(k2 ▸ I).kind0;refine⟨n1+2,(q1.ps.length:Int),_,?_,I,Y,fun h=>by omega,by rw[jmB];omega,by rw[jm2,jmB];omega⟩;rw[K _ (by omega),pr,if_pos fa,jm1,k1];simp[out,fa,cOp]
  .have hg1:=jnk.1 hg
   obtain⟨c1,rfl,h8,h5⟩:=B.rep hg1;cases h;have h7:Rep (q1.add ⟨15,t.p,t.k,0,[],[i,U]⟩).ps q1.ps.length (.nd 0 15 t.k 0 [] [a,c1]):=joo rfl (by omega) rfl (fun h=>by omega) rfl (jqe (hR.up B.ext) Z h8 h5);obtain⟨n9,x9,q9,p9,W⟩:=A.facs hJ' I h7 (by show(15:Nat)≠25;omega) hg1 (by omega) (by omega);have m9:=W.mon;have b9:=W.bnd;refine⟨n1+n9+1,x9,q9,?_,W.sim,jof Y W.ext,W.rep,by rw[jmB];omega,by rw[jm2,jmB];omega⟩;rw[K _ (by omega)];exact jnj (by omega) p9
 .have h1':jm5 t.k=false:=by simpa using O
  simp only[jm0,h1',Kr,if_false]at hx;cases hx;have hc:cOp t.k≠15:=by unfold jm5 at h1';simp at h1';unfold cOp;split <;> (try split) <;> (try split) <;> omega
  have hr:=jnx hs;subst hr;obtain⟨rfl,h4⟩:=jn6 (s:=.ok (t ::r) o) (fin:=fun _=>.out (.tr a)) (vs:=[]) hf (fun j' h=>by cases h);have ho:=h4 rfl;injection ho with ho
  refine⟨1,i,q,?_,F,⟨[],by simp⟩,fun _=>⟨a,ho.symm,hR,Z⟩,jN,by rw[jm2,jmB];omega⟩;rw[pr,if_pos f0,jm1,hk,if_pos hc];simp only[out,if_pos f0]
theorem jHj (hL:L.length<=1000) (A:Al L M) {t:Tok}{r:List Tok}{o:Nat}(hJ:Jx .expr (.ok (t ::r) o) s' v) (C:t.k≠3) (O:t.k≠6) (R:t.k≠9) (hS:Sim L q oi (.ok (t ::r) o)) (hP:q.ps.length+(Sg.ok (t ::r) o).pot+5000*(Sg.ok (t ::r) o).g<=85000) (hM:(Sg.ok (t ::r) o).pot+20<M+1):Does L q .expr (.ok (t ::r) o) s' v oi oi 20 40 0:=by
 have hk:=hS.kind;have hw:=hS.word;rw[jm2,jmB]at hP;rw[jm2]at hM
 rcases jnU hJ with⟨h,_⟩|⟨ss,fin,r0,H,hs,U⟩
 .simp only[jm0,if_neg C,if_neg O,if_neg R]at h;cases h
 simp only[jm0,if_neg C,if_neg O,if_neg R]at H;cases H;obtain⟨v1,r1,Y,j1,k2,rfl⟩:=jnH hs;obtain⟨n1,x1,q1,p1,B⟩:=A.tr .cmp rfl j1 hS (by rw[jm2,jmB];omega) (by rw[jm2];simp only[jlv];omega);have m1:=B.mon;have l1:=B.len;have b1:=B.bnd;rw[jm2,jmB]at b1;simp only[jlv,jdn,jm9d]at b1 p1;have y1:=jnq Y;have hr:=jnx k2;subst hr;simp only[jnT,jn3]at U;have f0:=hS.fine hL (by omega);have f1:=B.sim.fine hL (by omega)
 rcases jpA U (fun hg v h=>by
  obtain⟨c1,rfl,_⟩:=B.rep (jnk.1 hg)
  cases h)with⟨hb,e⟩|⟨hg,j',h,hJ'⟩
 .have g0:Y.g=0:=by
   by_cases C:Y.g=1
   .rw[jnk.2 C]at hb;cases hb
   .omega
  rw[e]
  obtain⟨e',p',k5⟩:∃e' p',Y= .bad e' p':=by
   cases Y with
   |ok _ _=>cases g0
   |bad e' p'=>exact⟨e',p',rfl⟩
  have k1:=(k5 ▸ B.sim).kind0;refine⟨n1+3,x1,q1,?_,B.sim,B.ext,fun h=>by omega,by rw[jmB];omega,by rw[jm2,jmB];omega⟩;rw[pr,if_pos f0,jm1,hk,if_neg C,if_neg O,if_neg R,pr,if_pos f0,jm1,jnj (by omega) p1];simp only[bnd,if_pos f1,k1];simp[out,f1,cOp]
 .have hg1:=jnk.1 hg
  obtain⟨c1,rfl,h4,h0⟩:=B.rep hg1;cases h;have Z:=B.sim
  cases Y with
  |bad _ _=>cases hg1
  |ok l1' o1=>
  obtain⟨t2,r2,rfl⟩:=Z.st.2.2.2.1.ne;have h5:=Z.kind;have k7:=Z.word;rw[jm2,jmB]at b1
  rcases jnU hJ' with⟨h,_⟩|⟨ss,fin,r0,H,hs,U⟩
  .simp only[jm0]at h;split at h <;> cases h
  by_cases W:t2.k=26
  .simp only[jm0,if_pos W]at H
   cases H;have hc:=True.intro;obtain⟨v2,k9,h2,rfl,k8⟩:=jnS hs;rw[joA,if_pos W]at h2;have S2:=Z.take (by intro h;rw[h]at W;omega);have z2:q1.take.ps.length=q1.ps.length:=rfl;obtain⟨v3,r3,s3,j3,h8,rfl⟩:=jnH h2;obtain⟨n3,x3,q3,p3,K⟩:=A.tr .expr rfl j3 S2 (by rw[jo2,jmB];omega) (by rw[jo2];simp only[jlv];omega);have m3:=K.mon;have l3:=K.len;have b3:=K.bnd;rw[jo2,jmB]at b3;simp only[jlv,jdn,jm9d]at b3 p3;have y3:=jnq s3;have hr:=jnx h8;subst hr;simp only[jnT,jn3]at U;obtain⟨rfl,F⟩:=jn6 U (fun j' h=>by split at h <;> simp[nop]at h);have f3:=K.sim.fine hL (by omega);refine⟨n1+n3+3,q3.ps.length,q3.add ⟨18,t2.p,t2.k,0,[],[x1,x3]⟩,?_,?_⟩
   .rw[pr,if_pos f0,jm1,hk,if_neg C,if_neg O,if_neg R,pr,if_pos f0,jm1,jnj (by omega) p1]
    simp only[bnd,if_pos f1,h5];rw[if_neg (by omega)];rw[jnj (show n3<=n1+n3+1 by omega) p3];simp only[bnd,if_pos f3,jnu,k7]
   .have x12:∃z,q3.ps=q1.ps ++z:=K.ext
    refine jox K.sim (jof B.ext x12) (fun hg=>?_) (by rw[jmB];omega) (by rw[jm2,jmB];omega);obtain⟨a3,rfl,h7,k4⟩:=K.rep hg;have I:=F (jnk.2 hg);injection I with I
    exact⟨_,I.symm,joo rfl (by omega) (by rw[W];rfl) (fun h=>by omega) rfl (jqe (h4.up x12) h0 h7 k4),by show(18:Nat)≠25;omega⟩
  .simp only[jm0,if_neg W]at H
   cases H;have hr:=jnx hs;subst hr;obtain⟨rfl,F⟩:=jn6 (s:=.ok (t2 ::r2) o1) (fin:=fun _=>.out (.tr c1)) (vs:=[]) U (fun j' h=>by cases h);have I:=F rfl;injection I with I
   refine⟨n1+3,x1,q1,?_,Z,B.ext,fun _=>⟨c1,I.symm,h4,h0⟩,by rw[jmB];omega,by rw[jm2,jm2,jmB,jmB];omega⟩;rw[pr,if_pos f0,jm1,hk,if_neg C,if_neg O,if_neg R,pr,if_pos f0,jm1,jnj (by omega) p1];simp only[bnd,if_pos f1,h5];rw[if_pos W];simp only[out,if_pos f1]
theorem jHC (hL:L.length<=1000) (A:Al L M) {t:Tok}{r:List Tok}{o:Nat}(hJ:Jx .cmp (.ok (t ::r) o) s' v)  (hS:Sim L q oi (.ok (t ::r) o)) (hP:q.ps.length+(Sg.ok (t ::r) o).pot+5000*(Sg.ok (t ::r) o).g<=85000) (hM:(Sg.ok (t ::r) o).pot+16<M+1):Does L q .cmp (.ok (t ::r) o) s' v oi oi 16 40 0:=by
 have hk:=hS.kind;have hw:=hS.word;rw[jm2,jmB]at hP;rw[jm2]at hM
 rcases jnU hJ with⟨h,_⟩|⟨ss,fin,r0,O,hs,K⟩
 .cases h
 cases O;obtain⟨v1,r1,R,j1,h8,rfl⟩:=jnH hs;obtain⟨n1,x1,q1,p1,B⟩:=A.tr .sum rfl j1 hS (by rw[jm2,jmB];omega) (by rw[jm2];simp only[jlv];omega);have m1:=B.mon;have l1:=B.len;have b1:=B.bnd;rw[jm2,jmB]at b1;simp only[jlv,jdn,jm9d]at b1 p1;have y1:=jnq R;have Z:=jnx h8;subst Z;simp only[jnT,jn3]at K;have f0:=hS.fine hL (by omega);have Y:=B.sim.fine hL (by omega)
 rcases jpA K (fun hg v h=>by
  obtain⟨c1,rfl,_⟩:=B.rep (jnk.1 hg)
  cases h)with⟨hb,e⟩|⟨hg,j',h,hJ'⟩
 .have g0:R.g=0:=by
   by_cases h3:R.g=1
   .rw[jnk.2 h3]at hb;cases hb
   .omega
  rw[e]
  obtain⟨e',p',k2⟩:∃e' p',R= .bad e' p':=by
   cases R with
   |ok _ _=>cases g0
   |bad e' p'=>exact⟨e',p',rfl⟩
  have k1:=(k2 ▸ B.sim).kind0;refine⟨n1+3,x1,q1,?_,B.sim,B.ext,fun h=>by omega,by rw[jmB];omega,by rw[jm2,jmB];omega⟩;rw[pr,if_pos f0,jm1,jnj (by omega) p1];simp only[bnd,if_pos Y,k1];simp[out,Y,cOp]
 .have hg1:=jnk.1 hg
  obtain⟨c1,rfl,h4,h0⟩:=B.rep hg1;cases h;have W:=B.sim
  cases R with
  |bad _ _=>cases hg1
  |ok l1' o1=>
  obtain⟨U,r2,rfl⟩:=W.st.2.2.2.1.ne;have h5:=W.kind;have k4:=W.word;rw[jm2,jmB]at b1
  rcases jnU hJ' with⟨h,_⟩|⟨ss,fin,r0,O,hs,K⟩
  .simp only[jm0]at h;split at h <;> cases h
  by_cases C:jnJ U.k=true
  .simp only[jm0,if_pos C]at O
   cases O;have hc:cOp U.k=17:=by unfold jnJ at C;simp at C;unfold cOp;rw[if_pos (by omega)]
   obtain⟨v2,k7,h2,rfl,k5⟩:=jnS hs;rw[joA,if_pos rfl]at h2;have S2:=W.take (by intro h;rw[h]at C;simp[jnJ]at C);have z2:q1.take.ps.length=q1.ps.length:=rfl;obtain⟨v3,r3,s3,j3,h7,rfl⟩:=jnH h2;obtain⟨n3,x3,q3,p3,I⟩:=A.tr .sum rfl j3 S2 (by rw[jo2,jmB];omega) (by rw[jo2];simp only[jlv];omega);have m3:=I.mon;have l3:=I.len;have b3:=I.bnd;rw[jo2,jmB]at b3;simp only[jlv,jdn,jm9d]at b3 p3;have y3:=jnq s3;have Z:=jnx h7;subst Z;simp only[jnT,jn3]at K;obtain⟨rfl,F⟩:=jn6 K (fun j' h=>by split at h <;> simp[nop]at h);have f3:=I.sim.fine hL (by omega);refine⟨n1+n3+3,q3.ps.length,q3.add ⟨17,U.p,U.k,0,[],[x1,x3]⟩,?_,?_⟩
   .rw[pr,if_pos f0,jm1,jnj (by omega) p1]
    simp only[bnd,if_pos Y,h5];rw[if_neg (by rw[hc];simp)];rw[jnj (show n3<=n1+n3+2 by omega) p3];simp only[bnd,if_pos f3,jnu,k4]
   .have x12:∃z,q3.ps=q1.ps ++z:=I.ext
    refine jox I.sim (jof B.ext x12) (fun hg=>?_) (by rw[jmB];omega) (by rw[jm2,jmB];omega);obtain⟨a3,rfl,h6,h9⟩:=I.rep hg;have H:=F (jnk.2 hg);injection H with H
    exact⟨_,H.symm,joo rfl (by omega) (rfl) (fun h=>by omega) rfl (jqe (h4.up x12) h0 h6 h9),by show(17:Nat)≠25;omega⟩
  .simp only[jm0,C,Kr,if_false]at O
   cases O;have Z:=jnx hs;subst Z;obtain⟨rfl,F⟩:=jn6 (s:=.ok (U ::r2) o1) (fin:=fun _=>.out (.tr c1)) (vs:=[]) K (fun j' h=>by cases h);have H:=F rfl;injection H with H
   refine⟨n1+3,x1,q1,?_,W,B.ext,fun _=>⟨c1,H.symm,h4,h0⟩,by rw[jmB];omega,by rw[jm2,jm2,jmB,jmB];omega⟩;rw[pr,if_pos f0,jm1,jnj (by omega) p1];simp only[bnd,if_pos Y,h5];rw[if_pos (by unfold jnJ at C;simp at C;unfold cOp;split <;> (try split) <;> (try split) <;> omega)];simp only[out,if_pos Y]
end
section
variable {L:List Tok}{M:Nat}{s s':Sg}{v:V}{q:Q}{oi:Int}
theorem jt8 {s:Sg}(h:s.g=0):∃e p,s= .bad e p:=by
 cases s with
 |ok _ _=>cases h
 |bad e p=>exact⟨e,p,rfl⟩
theorem jtJ {s:Sg}(h:s.good=false):s.g=0:=by
 cases s with
 |ok _ _=>cases h
 |bad e p=>rfl
theorem jHi (O:L.length<=1000) (A:Al L M) {t:Tok}{r:List Tok}{o:Nat}(hJ:Jx .sign (.ok (t ::r) o) s' v) (B:t.k≠31) (C:t.k≠10) (H:Sim L q oi (.ok (t ::r) o)) (U:q.ps.length+(Sg.ok (t ::r) o).pot+5000*(Sg.ok (t ::r) o).g<=85000) (hM:(Sg.ok (t ::r) o).pot+10<M+1):Does L q .un (.ok (t ::r) o) s' v oi oi 10 40 0:=by
 have hk:=H.kind;rw[jm2,jmB]at U;rw[jm2]at hM
 rcases jnU hJ with⟨h,_⟩|⟨ss,fin,r0,W,hs,Z⟩
 .simp only[jm0,if_neg B,if_neg C]at h;cases h
 simp only[jm0,if_neg B,if_neg C]at W;cases W;obtain⟨v1,r1,s1,j1,R,rfl⟩:=jnH hs;obtain⟨n1,x1,q1,Y,F⟩:=A.tr .call rfl j1 H (by rw[jm2,jmB];omega) (by rw[jm2];simp only[jlv];omega);have m1:=F.mon;have b1:=F.bnd;rw[jm2,jmB]at b1;simp only[jlv,jdn,jm9d]at b1 Y;have y1:=jnq s1;have hr:=jnx R;subst hr;simp only[jnT,jn3]at Z;have f0:=H.fine O (by omega);obtain⟨rfl,I⟩:=jn6 Z (fun j' h=>by cases h);refine⟨n1+1,x1,q1,?_,F.sim,F.ext,fun hg=>?_,by rw[jmB];omega,by rw[jm2,jmB];omega⟩
 .rw[pr,if_pos f0,jm1,hk,if_neg B,if_neg C]
  exact Y
 .obtain⟨c,rfl,h1,h2⟩:=F.rep hg
  have K:=I (jnk.2 hg);injection K with K
  exact⟨c,K.symm,h1,h2⟩
theorem jHy (Y:L.length<=1000) (A:Al L M) {a:T}{i:Int}(hJ:Jx (.index a) s s' v) (B:Sim L q oi s) (hR:Rep q.ps i a) (W:a.k≠25) (h3:s.g=1) (hP:q.ps.length+s.pot+5000*s.g<=85000) (hM:s.pot<M+1):Does L q (.operL i) s s' v oi oi 5 0 0:=by
 cases s with
 |bad e p=>cases h3
 |ok l o=>
 obtain⟨t,r,rfl⟩:=B.st.2.2.2.1.ne;have hk:=B.kind;have hw:=B.word;have q5:=B.lo;rw[jm2,jmB]at hP;rw[jm2]at hM;have f0:=B.fine Y (by omega)
 rcases jnU hJ with⟨h,_⟩|⟨ss,fin,r0,hx,hs,hf⟩
 .simp only[jm0]at h;split at h <;> cases h
 by_cases H:t.k=18
 .simp only[jm0,if_pos H]at hx
  cases hx;obtain⟨r1,h4,rfl⟩:=juQ hs H;have S1:=B.beg H (by omega);obtain⟨h7,k2,q4⟩:=jvv t r o
  obtain⟨h0,R⟩:∃h0,h0=opS t r o:=⟨_,rfl⟩
  rw[<-R]at h4 S1 h7 k2;have z1:(q.beg L 12 18).ps.length=q.ps.length:=rfl;obtain⟨v2,r2,Z,j2,h9,rfl⟩:=jnH h4;obtain⟨n2,x2,q2,p2,C⟩:=A.tr .expr rfl j2 S1 (by omega) (by simp only[jlv];omega);have m2:=C.mon;have l2:=C.len;have b2:=C.bnd;simp only[jlv,jdn,jm9d]at b2 p2;have y2:=jnq Z;obtain⟨v3,r3,k8,rfl⟩:=js3 h9;have S3:=C.sim.finish (by omega);rw[show oi+1-1=oi by omega]at S3;obtain⟨c3,d3⟩:=jwA Z;have y3:=jnq Z.cl;have z3:(q2.finish L).ps.length=q2.ps.length:=rfl;have hr:=jnx k8;subst hr;simp only[jnT,jn3]at hf;have f2:=C.sim.fine Y (by omega);have f3:=S3.fine Y (by omega)
  obtain⟨F,h5⟩:∃c:CP,c=⟨20,(q.begW L 12 18).p,(q.begW L 12 18).k,0,[],[i,x2]⟩:=⟨_,rfl⟩
  have I:Sim L ((q2.finish L).add F) oi Z.cl:=S3.add;have za:((q2.finish L).add F).ps.length=q2.ps.length+1:=by simp[Q.add,Q.finish]
  have fa:=I.fine Y (by omega);have h2:∃z,q2.ps=q.ps ++z:=C.ext;have U:∃z,((q2.finish L).add F).ps=q.ps ++z:=jof h2 ⟨[_],rfl⟩
  have K:∀n,n2<=n->pr L 12 (n+1) (.operL i) q=pr L 12 n (.operL q2.ps.length) ((q2.finish L).add F):=fun n hn=>by
   rw[pr,if_pos f0,jm1,hk,if_neg (by omega),jnj hn p2];simp only[bnd,if_pos f2,jnu,if_pos f3];rw[<-h5,if_pos fa];rfl
  rcases jpA hf (fun hg v h=>by
   obtain⟨c1,rfl,_⟩:=C.rep (by have:=jnk.1 hg;omega)
   cases h)with⟨hb,e⟩|⟨hg,j',h,hJ'⟩
  .have g00:=jtJ hb
   rw[e];obtain⟨e',p',k9⟩:=jt8 g00;have k1:=(k9 ▸ I).kind0;refine⟨n2+2,(q2.ps.length:Int),_,?_,I,U,fun h=>by omega,by rw[jmB];omega,by rw[jm2,jmB];omega⟩;rw[K _ (by omega),pr,if_pos fa,jm1,k1];simp[out,fa]
  .have hg1:=jnk.1 hg
   obtain⟨c1,rfl,k7,h8⟩:=C.rep (by omega);cases h;have k4:q.begW L 12 18=t:=B.begW H (jnk.2 (by rw[<-R];omega))
   have k5:Rep ((q2.finish L).add F).ps q2.ps.length (.nd 0 20 0 0 [] [a,c1]):=by
    subst h5;exact joo rfl (by omega) (by show(q.begW L 12 18).k=18;rw[k4];exact H) (fun h=>by omega) rfl (jqe (hR.up h2) W k7 h8)
   obtain⟨n9,x9,q9,p9,O⟩:=A.index hJ' I k5 (by show(20:Nat)≠25;omega) hg1 (by omega) (by omega);have m9:=O.mon;have b9:=O.bnd;refine⟨n2+n9+1,x9,q9,?_,O.sim,jof U O.ext,O.rep,by rw[jmB];omega,by rw[jm2,jmB];omega⟩;rw[K _ (by omega)];exact jnj (by omega) p9
 .simp only[jm0,if_neg H]at hx
  cases hx;have hr:=jnx hs;subst hr;obtain⟨rfl,h6⟩:=jn6 (s:=.ok (t ::r) o) (fin:=fun _=>.out (.tr a)) (vs:=[]) hf (fun j' h=>by cases h);have ho:=h6 rfl;injection ho with ho
  refine⟨1,i,q,?_,B,⟨[],by simp⟩,fun _=>⟨a,ho.symm,hR,W⟩,jN,by rw[jm2,jmB];omega⟩;rw[pr,if_pos f0,jm1,hk,if_pos H];simp only[out,if_pos f0]
theorem js5 {N:Int}{B:Md->Q->Rt}{ks:List Int}(h:ks.length<=4/\job (q.kind L)=true):jm1 L N B (.callL ks) q=bnd (B .operand q) (fun b q1=>B (.callL (ks ++[b])) q1):=if_pos h
theorem jxM {N:Int}{B:Md->Q->Rt}{a:Int}(h:¬([a].length<=4/\job (q.kind L)=true)):jm1 L N B (.callL [a]) q=out a q:=if_neg h
theorem juU {N:Int}{B:Md->Q->Rt}{a b:Int}{kt:List Int}(h:¬((a ::b ::kt).length<=4/\job (q.kind L)=true)) (C: -1<=a/\a<=100000):jm1 L N B (.callL (a ::b ::kt)) q=jnu q ⟨19,joO q.ps a,0,0,[],a ::b ::kt⟩:=(if_neg h).trans (if_pos C)
theorem js4 {N:Int}{B:Md->Q->Rt}{t:Tok}{ks:List Int}(h:ks.length<6/\q.kind L=25):jm1 L N B (.tupL t ks) q=bnd (B .expr q.take) (fun b q1=>B (.tupL t (ks ++[b])) q1):=if_pos h
theorem juT {N:Int}{B:Md->Q->Rt}{t:Tok}{a:Int}(h:¬([a].length<6/\q.kind L=25)):jm1 L N B (.tupL t [a]) q=out a (q.finish L):=if_neg h
theorem juS {N:Int}{B:Md->Q->Rt}{t:Tok}{a b:Int}{kt:List Int}(h:¬((a ::b ::kt).length<6/\q.kind L=25)):jm1 L N B (.tupL t (a ::b ::kt)) q=jnu (q.finish L) ⟨7,t.p,0,0,[],a ::b ::kt⟩:=if_neg h
theorem jAj (k:Nat):job k=jnc k:=by
 rw[Bool.eq_iff_iff];simp[job,jnc,jot];omega
theorem jHF (hL:L.length<=1000) (A:Al L M) {R:List T}{ks:List Int}{m:Nat}(hJ:Jx (.args m R) s s' v) (F:Sim L q oi s) (O:jnr q.ps q.ps.length ks R) (K:∀c ∈ R,c.k≠25) (hm:m+ks.length=5) (h3:ks≠[]) (h0:s.g=1) (hP:q.ps.length+s.pot+5000*s.g<=85000) (hM:s.pot+6<M+1):Does L q (.callL ks) s s' v oi oi 6 0 1:=by
 cases s with
 |bad e p=>cases h0
 |ok l o=>
 obtain⟨t,r,rfl⟩:=F.st.2.2.2.1.ne;have hk:=F.kind;rw[jm2,jmB]at hP;rw[jm2]at hM;have f0:=F.fine hL (by omega);have H:=O.len
 obtain⟨a,kt,rfl⟩:∃a kt,ks=a ::kt:=by
  cases ks with
  |nil=>exact absurd rfl h3
  |cons a kt=>exact⟨a,kt,rfl⟩
 obtain⟨c0,C,rfl⟩:∃c C,R=c ::C:=by
  cases R with
  |nil=>simp at H
  |cons c C=>exact⟨c,C,rfl⟩
 have ha:=(show Rep q.ps a c0 from O.2.1).lt (K c0 (by simp))
 rcases jnU hJ with⟨h,_⟩|⟨ss,fin,r0,hx,hs,hf⟩
 .simp only[jm0]at h;split at h <;> cases h
 by_cases Z:(jnc t.k && decide (0<m))=true
 .simp only[jm0,if_pos Z]at hx
  cases hx;simp only[Yc,Yd]at Z;obtain⟨v1,r1,s1,j1,h7,rfl⟩:=jnH hs;obtain⟨n1,W,q1,p1,B⟩:=A.tr .operand rfl j1 F (by rw[jm2,jmB];omega) (by rw[jm2];simp only[jlv];omega);have m1:=B.mon;have l1:=B.len;have b1:=B.bnd;rw[jm2,jmB]at b1;simp only[jlv,jdn,jm9d]at b1 p1;have y1:=jnq s1;have hr:=jnx h7;subst hr;simp only[jnT,jn3]at hf;have f1:=B.sim.fine hL (by omega)
  have I:∀n,n1<=n->pr L 12 (n+1) (.callL (a ::kt)) q=pr L 12 n (.callL (a ::kt ++[W])) q1:=fun n hn=>by
   rw[pr,if_pos f0,js5 ⟨by omega,by rw[hk,jAj];exact Z.1⟩,jnj hn p1];simp only[bnd,if_pos f1]
  rcases jpA hf (fun hg v h=>by
   obtain⟨c1,rfl,_⟩:=B.rep (jnk.1 hg)
   cases h)with⟨hb,e⟩|⟨hg,j',h,hJ'⟩
  .have g00:=jtJ hb
   rw[e];obtain⟨e',p',h9⟩:=jt8 g00;have k1:=(h9 ▸ B.sim).kind0;refine⟨n1+2,(q1.ps.length:Int),q1.add ⟨19,joO q1.ps a,0,0,[],a ::kt ++[W]⟩,?_,jox B.sim B.ext (fun h=>by omega) (by rw[jmB];omega) (by rw[jm2,jmB];omega)⟩;have hd:∀ks:List Int,¬(ks.length<=4/\job (q1.kind L)=true):=fun ks=>by rw[k1];simp[job]
   rw[I _ (by omega),pr,if_pos f1]
   cases kt with
   |nil=>exact(juU (b:=W) (kt:=[]) (hd _) (by omega)).trans (if_pos f1)
   |cons b kt=>exact(juU (b:=b) (kt:=kt ++[W]) (hd _) (by omega)).trans (if_pos f1)
  .have hg1:=jnk.1 hg
   obtain⟨c1,rfl,h5,h2⟩:=B.rep hg1;cases h
   obtain⟨n9,x9,q9,p9,Y⟩:=A.args (ks:=a ::kt ++[W]) hJ' B.sim (jnr.snoc (h5.lt h2).2 h5 _ _ (O.up B.ext)) (fun c U=>by
    rcases Yq.1 U with U|U
    .exact K c U
    .simp at U;rw[U];exact h2) (by simp at hm ⊢;omega) (by simp) hg1 (by omega) (by omega)
   have m9:=Y.mon;have b9:=Y.bnd;refine⟨n1+n9+1,x9,q9,?_,Y.sim,jof B.ext Y.ext,Y.rep,by rw[jmB];omega,by rw[jm2,jmB];omega⟩;rw[I _ (by omega)];exact jnj (by omega) p9
 .simp only[jm0,if_neg Z]at hx
  cases hx;have hr:=jnx hs;subst hr;obtain⟨rfl,h6⟩:=jn6 (s:=.ok (t ::r) o) (fin:=fun _=>.out (.tr (jrx (c0 ::C)))) (vs:=[]) hf (fun j' h=>by cases h);have ho:=h6 rfl;injection ho with ho
  have h4:¬((a ::kt).length<=4/\job (q.kind L)=true):=fun h=>Z (by
   rw[hk,jAj]at h;simp only[Yc,Yd]
   exact⟨h.2,by have:=h.1;omega⟩)
  cases kt with
  |nil=>
   have h8:C=[]:=by cases C with
    |nil=>rfl
    |cons _ _=>simp at H
   subst h8;refine⟨1,a,q,?_,F,⟨[],by simp⟩,fun _=>⟨c0,ho.symm,O.2.1,K c0 (by simp)⟩,jN,by rw[jm2,jmB];omega⟩;rw[pr,if_pos f0,jxM h4];simp only[out,if_pos f0]
  |cons b kt=>
   obtain⟨c2,C,rfl⟩:∃c2 ct',C=c2 ::ct':=by
    cases C with
    |nil=>simp at H
    |cons c2 ct'=>exact⟨c2,ct',rfl⟩
   refine⟨1,(q.ps.length:Int),q.add ⟨19,joO q.ps a,0,0,[],a ::b ::kt⟩,?_,jox F ⟨[],by simp⟩ (fun _=>⟨_,ho.symm,joo rfl (by omega) rfl (fun h=>by omega) rfl O,by show(19:Nat)≠25;omega⟩) jN (by rw[jm2,jmB];omega)⟩;rw[pr,if_pos f0,juU h4 (by omega)];simp only[jnu,if_pos f0]
theorem jBs {t:Tok}{a:Int}{kt:List Int}{x:Int}{n e p:Nat}(h:Sim L q oi (.bad e p)) (f0:q.fine) (B:(q.finish L).fine):pr L 12 (n+1) (.tupL t (a ::kt ++[x])) q=some ((q.ps.length:Int),(q.finish L).add ⟨7,t.p,0,0,[],a ::kt ++[x]⟩):=by
 have C:=h.kind0;have hd:∀ks:List Int,¬(ks.length<6/\q.kind L=25):=fun ks=>by rw[C];omega
 rw[pr,if_pos f0]
 cases kt with
 |nil=>exact(juS (b:=x) (kt:=[]) (hd _)).trans (if_pos B)
 |cons b kt=>exact(juS (b:=b) (kt:=kt ++[x]) (hd _)).trans (if_pos B)
theorem jHx (hL:L.length<=1000) (A:Al L M) {U:List T}{ks:List Int}{m:Nat}{I:Tok}(hJ:Jx (.items m U) s s' v) (W:Sim L q oi s) (hR:jnr q.ps q.ps.length ks U) (h2:∀c ∈ U,c.k≠25) (hm:m+ks.length=6) (h9:ks≠[]) (h7:s.g=1) (K:1<=oi) (hP:q.ps.length+s.pot+5000*s.g<=85000) (hM:s.pot<M+1):Does L q (.tupL I ks) s s' v oi (oi-1) 5 0 0:=by
 cases s with
 |bad e p=>cases h7
 |ok l o=>
 obtain⟨t,r,rfl⟩:=W.st.2.2.2.1.ne;have hk:=W.kind;rw[jm2,jmB]at hP;rw[jm2]at hM;have f0:=W.fine hL (by omega);have F:=hR.len
 obtain⟨a,kt,rfl⟩:∃a kt,ks=a ::kt:=by
  cases ks with
  |nil=>exact absurd rfl h9
  |cons a kt=>exact⟨a,kt,rfl⟩
 obtain⟨c0,B,rfl⟩:∃c B,U=c ::B:=by
  cases U with
  |nil=>simp at F
  |cons c B=>exact⟨c,B,rfl⟩
 rcases jnU hJ with⟨h,_⟩|⟨ss,fin,r0,hx,hs,hf⟩
 .simp only[jm0]at h;split at h <;> cases h
 by_cases h1:t.k=25/\0<m
 .simp only[jm0,if_pos h1]at hx
  cases hx;obtain⟨v0,r1,h8,rfl,-⟩:=jnS hs;rw[joA,if_pos h1.1]at h8;have S0:=W.take (by omega);have z0:q.take.ps.length=q.ps.length:=rfl;obtain⟨v1,r2,s1,j1,O,rfl⟩:=jnH h8;obtain⟨n1,x1,q1,p1,C⟩:=A.tr .expr rfl j1 S0 (by rw[jo2,jmB];omega) (by rw[jo2];simp only[jlv];omega);have m1:=C.mon;have l1:=C.len;have b1:=C.bnd;rw[jo2,jmB]at b1;simp only[jlv,jdn,jm9d]at b1 p1;have y1:=jnq s1;have hr:=jnx O;subst hr;simp only[jnT,jn3]at hf;have f1:=C.sim.fine hL (by omega);have h3:∃z,q1.ps=q.ps ++z:=C.ext
  have R:∀n,n1<=n->pr L 12 (n+1) (.tupL I (a ::kt)) q=pr L 12 n (.tupL I (a ::kt ++[x1])) q1:=fun n hn=>by
   rw[pr,if_pos f0,js4 ⟨by omega,by rw[hk];exact h1.1⟩,jnj hn p1];simp only[bnd,if_pos f1]
  rcases jpA hf (fun hg v h=>by
   obtain⟨c1,rfl,_⟩:=C.rep (jnk.1 hg)
   cases h)with⟨hb,e⟩|⟨hg,j',h,hJ'⟩
  .have g00:=jtJ hb
   rw[e];obtain⟨e',p',k5⟩:=jt8 g00;subst k5;have S1:=C.sim;have H:=S1.finish K;have z2:(q1.finish L).ps.length=q1.ps.length:=rfl;have f2:=H.fine hL (by omega);refine⟨n1+2,(q1.ps.length:Int),(q1.finish L).add ⟨7,I.p,0,0,[],a ::kt ++[x1]⟩,?_,jox H h3 (fun h=>by cases h) (by rw[jmB];exact Yi _) (by rw[jm2,jmB];simp only[Sg.cl,Sg.pot,Sg.g]at *;omega)⟩;rw[R _ (by omega)];exact jBs S1 f1 f2
  .have hg1:=jnk.1 hg
   obtain⟨c1,rfl,h6,h4⟩:=C.rep hg1;cases h
   obtain⟨n9,x9,q9,p9,g9⟩:=A.items (ks:=a ::kt ++[x1]) (t:=I) hJ' C.sim (jnr.snoc (h6.lt h4).2 h6 _ _ (hR.up h3)) (fun c Z=>by
    rcases Yq.1 Z with Z|Z
    .exact h2 c Z
    .simp at Z;rw[Z];exact h4) (by simp at hm ⊢;omega) (by simp) hg1 K (by omega) (by omega)
   have m9:=g9.mon;have b9:=g9.bnd;refine⟨n1+n9+1,x9,q9,?_,g9.sim,jof h3 g9.ext,g9.rep,by rw[jmB];omega,by rw[jm2,jmB];omega⟩;rw[R _ (by omega)];exact jnj (by omega) p9
 .simp only[jm0,if_neg h1]at hx
  cases hx;obtain⟨v1,r1,O,rfl⟩:=js3 hs;have H:=W.finish K;obtain⟨Y,d2⟩:=jwA (.ok (t ::r) o);rw[jm2]at Y;have y2:=jnq (Sg.cl (.ok (t ::r) o))
  obtain⟨s2,k1⟩:∃s2,s2=Sg.cl (.ok (t ::r) o):=⟨_,rfl⟩
  rw[<-k1]at O H Y d2 y2;have hr:=jnx O;subst hr;simp only[jnT,jn3]at hf;obtain⟨rfl,h0⟩:=jn6 (fin:=fun _=>.out (.tr (jrY (c0 ::B)))) hf (fun j' h=>by cases h);have z2:(q.finish L).ps.length=q.ps.length:=rfl;have f2:=H.fine hL (by omega);have h5:¬((a ::kt).length<6/\q.kind L=25):=fun h=>h1 ⟨by rw[<-hk];exact h.2,by have:=h.1;omega⟩
  cases kt with
  |nil=>
   have k2:B=[]:=by cases B with
    |nil=>rfl
    |cons _ _=>simp at F
   subst k2;refine⟨1,a,q.finish L,?_,H,⟨[],by simp[Q.finish]⟩,fun hg=>?_,d2,by rw[jm2,jmB];omega⟩
   .rw[pr,if_pos f0,juT h5]
    simp only[out,if_pos f2]
   .have ho:=h0 (jnk.2 hg)
    injection ho with ho
    have k4:=h2 c0 (by simp);exact⟨brk c0,ho.symm,jDA.2 hR.2.1,by cases c0;exact k4⟩
  |cons b kt=>
   obtain⟨k7,B,rfl⟩:∃Y ct',B=Y ::ct':=by
    cases B with
    |nil=>simp at F
    |cons Y ct'=>exact⟨Y,ct',rfl⟩
   refine⟨1,(q.ps.length:Int),(q.finish L).add ⟨7,I.p,0,0,[],a ::b ::kt⟩,?_,jox H ⟨[],by simp[Q.finish]⟩ (fun hg=>?_) d2 (by rw[jm2,jmB];omega)⟩
   .rw[pr,if_pos f0,juS h5]
    simp only[jnu,if_pos f2];rfl
   .have ho:=h0 (jnk.2 hg)
    injection ho with ho
    exact⟨_,ho.symm,joo rfl (by omega) rfl (fun h=>by omega) rfl hR,by show(7:Nat)≠25;omega⟩
end
section
variable {L:List Tok}{M:Nat}{s s':Sg}{v:V}{q:Q}{oi:Int}
theorem jHw (W:L.length<=1000) {t:Tok}{r:List Tok}{o:Nat}(hJ:Jx .atom (.ok (t ::r) o) s' v) (K:jot t.k=true) (H:Sim L q oi (.ok (t ::r) o)) (Z:q.ps.length+(Sg.ok (t ::r) o).pot+5000*(Sg.ok (t ::r) o).g<=85000):Does L q .atom (.ok (t ::r) o) s' v oi oi 2 50 0:=by
 have hk:=H.kind;have I:=H.word;rw[jm2,jmB]at Z;have h0:t.k=1\/t.k=2\/t.k=11\/t.k=12\/t.k=13:=by unfold jot at K;simp at K;omega
 have R:t.k≠23:=by omega
 rcases jnU hJ with⟨h,_⟩|⟨ss,fin,r0,hx,hs,hf⟩
 .simp only[jm0,if_neg R,if_pos K]at h;cases h
 simp only[jm0,if_neg R,if_pos K]at hx;cases hx;obtain⟨v0,r1,O,rfl,Y⟩:=jnS hs;rw[joA,if_pos rfl]at O;have e0:=Y t r o rfl rfl;subst e0;have C:=H.take (by omega);have hr:=jnx O;subst hr;obtain⟨rfl,U⟩:=jn6 (s:=.ok r o) (vs:=[.tk t]) hf (fun j' h=>by cases h);have B:=U rfl;injection B with B
 have f0:=H.fine W (by omega);have z1:q.take.ps.length=q.ps.length:=rfl;have F:=C.fine W (by omega);rcases h0 with h|h|h|h|h
 .refine⟨1,(q.ps.length:Int),q.take.add ⟨1,t.p,0,t.n,[],[]⟩,?_,jox C ⟨[],by simp[Q.take]⟩ (fun _=>⟨_,B.symm,?_,by unfold leaf;rw[if_pos h];show(1:Nat)≠25;omega⟩) (by rw[jmB,jmB];exact jN) (by rw[jm2,jo2,jmB,jmB];omega)⟩
  .rw[pr,if_pos f0,jm1,hk,if_pos h]
   simp only[jnu,if_pos F,I];rfl
  .unfold leaf;rw[if_pos h]
   exact joo rfl (by omega) rfl (fun _=>rfl) rfl trivial
 .refine⟨1,(q.ps.length:Int),q.take.add ⟨5,t.p,0,0,[jm9 t],[]⟩,?_,jox C ⟨[],by simp[Q.take]⟩ (fun _=>⟨_,B.symm,?_,by unfold leaf;rw[if_neg (by omega),if_pos h];show(5:Nat)≠25;omega⟩) (by rw[jmB,jmB];exact jN) (by rw[jm2,jo2,jmB,jmB];omega)⟩
  .rw[pr,if_pos f0,jm1,hk,if_neg (by omega),if_pos h]
   simp only[jnu,if_pos F,I];rfl
  .have hn:jm9 t=t.t:=by unfold jm9 jpH;rw[if_pos h]
   unfold leaf;rw[if_neg (by omega),if_pos h,hn];exact joo rfl (by omega) rfl (fun h=>by omega) rfl trivial
 .refine⟨3,(q.ps.length:Int),q.take.add ⟨2,t.p,t.k,0,[],[]⟩,?_,jox C ⟨[],by simp[Q.take]⟩ (fun _=>⟨_,B.symm,?_,by unfold leaf;rw[if_neg (by omega),if_neg (by omega),if_pos h];show(2:Nat)≠25;omega⟩) (by rw[jmB,jmB];exact jN) (by rw[jm2,jo2,jmB,jmB];omega)⟩
  .rw[pr,if_pos f0,jm1,hk,if_neg (by omega),if_neg (by omega),if_pos h,jrc f0,jrf F (by simp),I]
   rfl
  .unfold leaf;rw[if_neg (by omega),if_neg (by omega),if_pos h]
   exact joo rfl (by omega) h (fun h=>by omega) rfl trivial
 .refine⟨3,(q.ps.length:Int),q.take.add ⟨3,t.p,t.k,0,[],[]⟩,?_,jox C ⟨[],by simp[Q.take]⟩ (fun _=>⟨_,B.symm,?_,by unfold leaf;rw[if_neg (by omega),if_neg (by omega),if_neg (by omega),if_pos h];show(3:Nat)≠25;omega⟩) (by rw[jmB,jmB];exact jN) (by rw[jm2,jo2,jmB,jmB];omega)⟩
  .rw[pr,if_pos f0,jm1,hk,if_neg (by omega),if_neg (by omega),if_neg (by omega),if_pos h,jrc f0,jrf F (by simp),I]
   rfl
  .unfold leaf;rw[if_neg (by omega),if_neg (by omega),if_neg (by omega),if_pos h]
   exact joo rfl (by omega) h (fun h=>by omega) rfl trivial
 .refine⟨3,(q.ps.length:Int),q.take.add ⟨4,t.p,t.k,0,[],[]⟩,?_,jox C ⟨[],by simp[Q.take]⟩ (fun _=>⟨_,B.symm,?_,by unfold leaf;rw[if_neg (by omega),if_neg (by omega),if_neg (by omega),if_neg (by omega)];show(4:Nat)≠25;omega⟩) (by rw[jmB,jmB];exact jN) (by rw[jm2,jo2,jmB,jmB];omega)⟩
  .rw[pr,if_pos f0,jm1,hk,if_neg (by omega),if_neg (by omega),if_neg (by omega),if_neg (by omega),if_pos h,jrc f0,jrf F (by simp),I]
   rfl
  .unfold leaf;rw[if_neg (by omega),if_neg (by omega),if_neg (by omega),if_neg (by omega)]
   exact joo rfl (by omega) h (fun h=>by omega) rfl trivial
theorem jHs (I:L.length<=1000) {t:Tok}{r:List Tok}{o:Nat}(R:Jx .atom (.ok (t ::r) o) s' v) (H:¬jot t.k=true) (C:t.k≠23) (F:Sim L q oi (.ok (t ::r) o)) (K:q.ps.length+(Sg.ok (t ::r) o).pot+5000*(Sg.ok (t ::r) o).g<=85000):Does L q .atom (.ok (t ::r) o) s' v oi oi 2 50 0:=by
 have hk:=F.kind;rw[jm2,jmB]at K
 have B:t.k≠1/\t.k≠2/\t.k≠11/\t.k≠12/\t.k≠13:=by
  refine⟨?_,?_,?_,?_,?_⟩ <;> (intro h;rw[h]at H;exact H rfl)
 rcases jnU R with⟨_,rfl⟩|⟨Z,fin,r0,U,hs,Y⟩
 .have f0:=F.fine I (by omega)
  have O:=F.failT 4 (by omega);have W:=O.fine I (show q.ps.length<=90000 by omega);refine⟨1,-1,q.fail L 4,?_,O,⟨[],by simp[Q.fail]⟩,fun h=>(by cases h),(by rw[jmB];exact Yi _),by rw[jm2,jmB];show q.ps.length+0+_*0<=_;omega⟩;rw[pr,if_pos f0,jm1,hk,if_neg B.1,if_neg B.2.1,if_neg B.2.2.1,if_neg B.2.2.2.1,if_neg B.2.2.2.2,if_neg C];exact if_pos W
 .simp only[jm0,if_neg C,if_neg H]at U;cases U
theorem jHq (I:L.length<=1000) (A:Al L M) {t:Tok}{r:List Tok}{o:Nat}(hJ:Jx .atom (.ok (t ::r) o) s' v) (F:t.k=23) (hS:Sim L q oi (.ok (t ::r) o)) (hP:q.ps.length+(Sg.ok (t ::r) o).pot+5000*(Sg.ok (t ::r) o).g<=85000) (hM:(Sg.ok (t ::r) o).pot+2<M+1):Does L q .atom (.ok (t ::r) o) s' v oi oi 2 50 0:=by
 have hk:=hS.kind;have q7:=hS.lo;rw[jm2,jmB]at hP;rw[jm2]at hM
 rcases jnU hJ with⟨h,_⟩|⟨ss,fin,r0,O,hs,hf⟩
 .rw[F]at h;cases h
 rw[F]at O;cases O;obtain⟨r1,k8,rfl⟩:=juQ hs F;have B:=hS.beg F (by omega);obtain⟨h6,q4,q5⟩:=jvv t r o;obtain⟨v2,r2,s2,j2,k4,rfl⟩:=jnH k8;have hr:=jnx k4;subst hr;simp only[jnT,jn3]at hf;obtain⟨rfl,k2⟩:=jn6 hf (fun j' h=>by cases h);have f0:=hS.fine I (by omega);have z1:(q.beg L 12 23).ps.length=q.ps.length:=rfl;have f1:=B.fine I (by omega)
 have H:∀n,pr L 12 (n+2) .atom q=jm1 L 12 (pr L 12 n) .brk q:=fun n=>by
  rw[pr,if_pos f0,jm1,hk,if_neg (by omega),if_neg (by omega),if_neg (by omega),if_neg (by omega),if_neg (by omega),if_pos F,pr,if_pos f0]
 have Z:∀{x:Int}{q':Q},(s'.g=1->∃c,v2= .tr c/\Rep q'.ps x c/\c.k≠25)->(s'.g=1->∃c,v= .tr c/\Rep q'.ps x c/\c.k≠25):=fun h hg=>by
  obtain⟨c,rfl,h1,h2⟩:=h hg;have ho:=k2 (jnk.2 hg);injection ho with ho
  exact⟨c,ho.symm,h1,h2⟩
 obtain⟨tt,h4⟩:∃tt,tt=q.begW L 12 23:=⟨_,rfl⟩
 have U:∀{q1:Q}{x1:Int}{n e p:Nat},Sim L q1 (oi+1) (.bad e p)->q1.ps.length<=90000->pr L 12 (n+1) (.tupL tt [x1]) q1=some (x1,q1.finish L):=fun hd hl=>by
  have Y:=hd.kind0;have g1:=hd.fine I hl;have g2:=(hd.finish (by omega)).fine I (show _<=_ from hl);rw[pr,if_pos g1,juT (by rw[Y];omega)];exact if_pos g2
 cases hos :opS t r o with
 |bad e p=>
  rw[hos]at B j2;have k7:s'= .bad e p:=j2;subst k7;have Y:=B.kind0;have p2:=jya B I (by omega) .expr (.inl rfl);have S2:=B.failB 4;have f2:=S2.fine I (show q.ps.length<=90000 by omega);have S3:=S2.finish (by omega);rw[show oi+1-1=oi by omega]at S3;refine⟨11,-1,((q.beg L 12 23).fail L 4).finish L,?_,S3,⟨[],by simp[Q.finish,Q.fail,Q.beg]⟩,fun h=>(by cases h),(by rw[jmB];exact Yi _),by rw[jm2,jmB];show q.ps.length+0+_*0<=_;omega⟩;rw[H 9,jm1];simp only[Y];rw[if_neg (by omega),p2];simp only[bnd,if_pos f2];rw[<-h4];exact U S2 (show q.ps.length<=90000 by omega)
 |ok lx ox=>
  rw[hos]at B j2 h6;obtain⟨t2,rr,rfl⟩:=B.st.2.2.2.1.ne;have Y:=B.kind;rw[jm2]at h6
  rcases jnU j2 with⟨h,_⟩|⟨ss,fin,r0,O,h9,h0⟩
  .simp only[jm0]at h;split at h <;> cases h
  by_cases K:t2.k=24
  .simp only[jm0,if_pos K]at O
   cases O;obtain⟨v6,r6,R,rfl⟩:=js3 h9;have S6:=B.finish (by omega);rw[show oi+1-1=oi by omega]at S6;rw[jtY,if_pos K]at R S6;have hr:=jnx R;subst hr;obtain⟨rfl,h5⟩:=jn6 (s:=.ok rr (ox-1)) (fin:=fun _=>.out (.tr (.nd 0 6 0 0 [] []))) (vs:=[v6]) h0 (fun j' h=>by cases h);have h3:=h5 rfl;injection h3 with h3
   have z6:((q.beg L 12 23).finish L).ps.length=q.ps.length:=rfl;have f6:=S6.fine I (by omega);refine⟨2,(q.ps.length:Int),((q.beg L 12 23).finish L).add ⟨6,tt.p,0,0,[],[]⟩,?_,jox S6 ⟨[],by simp[Q.finish,Q.beg]⟩ (Z (q':=((q.beg L 12 23).finish L).add ⟨6,tt.p,0,0,[],[]⟩) (fun _=>⟨_,h3.symm,joo rfl (by omega) rfl (fun h=>by omega) rfl trivial,by show(6:Nat)≠25;omega⟩)) (by rw[jmB,jmB];exact jN) (by rw[jm2,jo2,jmB,jmB];omega)⟩;rw[H 0,jm1];simp only[Y];rw[if_pos K,<-h4];exact if_pos f6
  .simp only[jm0,if_neg K]at O
   cases O;obtain⟨v6,r6,s6,j6,R,rfl⟩:=jnH h9;obtain⟨n6,x6,q6,p6,C⟩:=A.tr .expr rfl j6 B (by rw[jm2,jmB];omega) (by rw[jm2];simp only[jlv];omega);have m6:=C.mon;have l6:=C.len;have b6:=C.bnd;rw[jm2,jmB]at b6;simp only[jlv,jdn,jm9d]at b6 p6;have y6:=jnq s6;have hr:=jnx R;subst hr;simp only[jnT,jn3]at h0;have f6:=C.sim.fine I (by omega);have h8:∃z,q6.ps=q.ps ++z:=C.ext
   have W:∀n,n6<=n->pr L 12 (n+2) .atom q=pr L 12 n (.tupL tt [x6]) q6:=fun n hn=>by
    rw[H n,jm1];simp only[Y];rw[if_neg K,jnj hn p6];simp only[bnd,if_pos f6];rw[<-h4]
   rcases jpA h0 (fun hg v h=>by
    obtain⟨c1,rfl,_⟩:=C.rep (jnk.1 hg)
    cases h)with⟨hb,e⟩|⟨hg,j',h,hJ'⟩
   .have g00:=jtJ hb
    obtain⟨e',p',k9⟩:=jt8 g00;subst e;subst k9;have S7:=C.sim.finish (by omega);rw[show oi+1-1=oi by omega]at S7;refine⟨n6+1+2,x6,q6.finish L,?_,S7,h8,fun h=>(by cases h),(by rw[jmB];exact Yi _),?_⟩
    .rw[W _ (by omega)]
     exact U C.sim (by omega)
    .rw[jm2,jmB]
     show q6.ps.length+0+_*0<=_;simp only[Sg.pot,Sg.g]at b6;omega
   .have hg1:=jnk.1 hg
    obtain⟨c1,rfl,k5,h7⟩:=C.rep hg1;cases h;obtain⟨n9,x9,q9,p9,g9⟩:=A.items (t:=tt) hJ' C.sim (jqO k5 h7) (fun c hc=>by simp at hc;rw[hc];exact h7) rfl (by simp) hg1 (by omega) (by omega) (by omega);have S9:=g9.sim;rw[show oi+1-1=oi by omega]at S9;have m9:=g9.mon;have b9:=g9.bnd;refine⟨n6+n9+2,x9,q9,?_,S9,jof h8 g9.ext,Z g9.rep,by rw[jmB];omega,by rw[jm2,jmB];omega⟩;rw[W _ (by omega)];exact jnj (by omega) p9
theorem jHf (C:L.length<=1000) (A:Al L M) (j:J) (hj:tj j=true) (H:Jx j s s' v) (B:Sim L q oi s) (F:q.ps.length+s.pot+5000*s.g<=85000) (I:s.pot+jlv j<M+1):Does L q (jm9d j) s s' v oi oi (jlv j) (jdn j) 0:=by
 cases s with
 |bad e p=>
  refine jHe C ?_ rfl H B F;cases j <;> simp[tj]at hj <;> simp[jm9d]
 |ok l o=>
  obtain⟨t,r,rfl⟩:=B.st.2.2.2.1.ne;cases j <;> simp[tj]at hj
  case expr=>
   by_cases O:t.k=3
   .have hS1:=B.take (by omega)
    rcases jnU H with⟨h,_⟩|⟨ss,fin,r0,hx,hs,hf⟩
    .rw[O]at h;cases h
    rw[O]at hx;cases hx;obtain⟨v0,r1,R,rfl,-⟩:=jnS hs;rw[joA,if_pos O]at R;obtain⟨v1,r2,s1,j1,h0,rfl⟩:=jnH R;have hr:=jnx h0;subst hr;simp only[jnT,jn3]at hf;obtain⟨rfl,Z⟩:=jn6 hf (fun j' h=>by cases h);obtain⟨Y,r3,rfl⟩:=hS1.st.2.2.2.1.ne
    have h5:Does L q .expr (.ok (t ::Y ::r3) o) s' v1 oi oi 20 40 0:=by
     by_cases h4:Y.k=4
     .exact jHk C A j1 O h4 B F I
     .by_cases K:Y.k=23
      .exact jHo C A j1 O K B F I
      .exact jHu C A j1 O h4 K B F I
    obtain⟨n,x,q',p,g⟩:=h5;refine⟨n,x,q',p,g.sim,g.ext,fun hg=>?_,g.mon,g.bnd⟩;obtain⟨c,rfl,h1,h2⟩:=g.rep hg;have ho:=Z (jnk.2 hg);injection ho with ho
    exact⟨c,ho.symm,h1,h2⟩
   .by_cases h6:t.k=6
    .exact jHz C A H h6 B F I
    .by_cases h9:t.k=9
     .exact jHA C A H h9 B F I
     .exact jHj C A H O h6 h9 B F I
  case cmp=>exact jHC C A H B F I
  case sum=>exact jHh C A H B F I
  case prod=>exact jHm C A H B F I
  case sign=>
   by_cases U:t.k=31
   .exact jHt C A H U B F I
   .by_cases h10:t.k=10
    .exact jHr C A H h10 B F I
    .exact jHi C A H U h10 B F I
  case call=>
   by_cases W:t.k=14
   .exact jHn C A H W B F I
   .by_cases h15:t.k=15
    .exact jHv C A H h15 B F I
    .by_cases h16:t.k=16
     .exact jHE C A H h16 B F I
     .by_cases h17:t.k=17
      .exact jHl C A H h17 B F I
      .exact jHD C A H W h15 h16 h17 B F I
  case operand=>exact jHp C A H B F I
  case atom=>
   by_cases K:t.k=23
   .exact jHq C A H K B F I
   .by_cases hl:jot t.k=true
    .exact jHw C H hl B F
    .exact jHs C H hl K B F
theorem jI9 (B:L.length<=1000):∀M,Al L M:=by
 intro M
 induction M with
 |zero=>exact⟨fun _ _ _ _ _ _ _ _ _ _ h=>by omega,fun _ _ _ _ _ _ h=>by omega,fun _ _ _ _ _ _ h=>by omega,fun _ _ _ _ _ _ h=>by omega,fun _ _ _ _ _ _ _ _ h=>by omega,fun _ _ _ _ _ _ _ _ _ h=>by omega⟩
 |succ M A=>exact⟨fun j hj _ _ _ _ _ hJ hS hP hM=>jHf B A j hj hJ hS hP hM,jHg B A,jHB B A,jHy B A,jHF B A,jHx B A⟩
end
structure Aw (p lb cap base:Nat) (N:Int) (L:List Tok) (n:Nat):Prop where
 expr:WkM p lb cap base N L n 31 .expr
 lett:WkM p lb cap base N L n 62 .lett
 choice:WkM p lb cap base N L n 63 .choice
 func:WkM p lb cap base N L n 64 .func
 seq:WkM p lb cap base N L n 65 .seq
 cmp:WkM p lb cap base N L n 87 .cmp
 sum:WkM p lb cap base N L n 99 .sum
 prod:WkM p lb cap base N L n 112 .prod
 un:WkM p lb cap base N L n 124 .un
 call:WkM p lb cap base N L n 127 .call
 operand:WkM p lb cap base N L n 129 .operand
 atom:WkM p lb cap base N L n 132 .atom
 brk:WkM p lb cap base N L n 133 .brk
 pref:∀(kk c:Nat),c<=3->Wk p lb cap base N L n 128 #[.pointer (some ⟨p,0,none⟩),.int .i64 (kk:Nat),.int .i64 (c:Nat)] (.pref kk c)
variable {cap:Nat}{N:Int}{L:List Tok}
theorem jI1 {p lb base:Nat}(E:PE p lb cap base L):∀n,Aw p lb cap base N L n:=by
 intro n
 induction n with
 |zero=>
  have h:∀F args m,Wk p lb cap base N L 0 F args m:=fun F args m w q pv x q' D hpr=>by cases hpr
  exact⟨h _ _ _,h _ _ _,h _ _ _,h _ _ _,h _ _ _,h _ _ _,h _ _ _,h _ _ _,h _ _ _,h _ _ _,h _ _ _,h _ _ _,h _ _ _,fun _ _ _=>h _ _ _⟩
 |succ n A=>exact⟨jGJ E A.lett A.choice A.func A.seq,jE7 E A.expr,jIq E A.expr,jGj E A.expr,jCt E A.cmp A.expr,jIi E A.sum,jBW E A.prod,jDJ E A.un,jBi E A.un A.call,jIy E A.operand A.pref,jEd E A.atom A.expr,jI2 E A.brk A.pref,jIJ E A.expr,fun kk c hc=>jDK E A.operand kk c hc⟩
def Lst (x:Int) (q:Q):Prop:=q.S.err=0->x=(q.ps.length:Int)-1
def Pm:Md->Q->Prop
 | .sumL l,q=>Lst l q
 | .prodL l,q=>Lst l q
 | .operL l,q=>Lst l q
 | .callL [a],q=>Lst a q
 | .tupL _ [a],q=>Lst a q
 |_,_=>True
variable {q q':Q}{x:Int}
theorem jo6 {c:CP}(h:jnu q c=some (x,q')):Lst x q':=by
 obtain⟨_,rfl,rfl⟩:=jnR h;intro _;show(q.ps.length:Int)=((q.ps ++[c]).length:Int)-1;simp
theorem jGE (h:(q.finish L).S.err=0):q.S.err=0:=by
 have B:(q.S.want L 24).err=0:=h;unfold PF.want at B
 split at B
 .exact B
 .have h3:(if q.S.err=0 then(4:Int) else q.S.err)=0:=B
  split at h3
  .assumption
  .exact h3
theorem jwb :(q.fail L 4).S.err≠0:=by
 intro h;have B:(if q.S.err=0 then(4:Int) else q.S.err)=0:=h
 split at B
 .cases B
 .rename_i h4;exact h4 B
theorem jIB {B:Md->Q->Rt}{a b:Int}{kt:List Int}{y:Int × Q}(h:jm1 L N B (.callL (a ::b ::kt)) q=some y) (H:∀ks q1 y,2<=ks.length->B (.callL ks) q1=some y->Lst y.1 y.2):Lst y.1 y.2:=by
 by_cases F:(a ::b ::kt).length<=4/\job (q.kind L)=true
 .rw[js5 F]at h
  obtain⟨K,q1,O,C,I⟩:=jnd h;exact H _ _ _ (by simp) I
 .have C:(if -1<=a/\a<=100000 then jnu q ⟨19,joO q.ps a,0,0,[],a ::b ::kt⟩ else none)=some y:=(if_neg F).symm.trans h
  split at C
  .exact jo6 C
  .cases C
theorem jBq {B:Md->Q->Rt}{t:Tok}{a b:Int}{kt:List Int}{y:Int × Q}(h:jm1 L N B (.tupL t (a ::b ::kt)) q=some y) (F:∀ks q1 y,2<=ks.length->B (.tupL t ks) q1=some y->Lst y.1 y.2):Lst y.1 y.2:=by
 by_cases C:(a ::b ::kt).length<6/\q.kind L=25
 .rw[js4 C]at h
  obtain⟨K,q1,O,H,I⟩:=jnd h;exact F _ _ _ (by simp) I
 .have H:jnu (q.finish L) ⟨7,t.p,0,0,[],a ::b ::kt⟩=some y:=(if_neg C).symm.trans h
  exact jo6 H
theorem jyd {ks:List Int}(h:2<=ks.length):Pm (.callL ks) q:=by
 match ks,h with
 |a ::b ::kt,_=>trivial
theorem jyc {t:Tok}{ks:List Int}(h:2<=ks.length):Pm (.tupL t ks) q:=by
 match ks,h with
 |a ::b ::kt,_=>trivial
theorem jDN (L:List Tok) (N:Int):∀(n:Nat) (m:Md) (q:Q) (y:Int × Q),pr L N n m q=some y->Pm m q->Lst y.1 y.2:=by
 intro n
 induction n with
 |zero=>intro m q y h;cases h
 |succ n ih=>
  intro m q y h F;obtain⟨R,k,hk,hs⟩:=jop h;cases hk;obtain⟨x,q'⟩:=y
  cases m with
  |expr=>
   simp only[jm1]at hs
   split at hs
   .exact ih _ _ _ hs trivial
   .split at hs
    .exact ih _ _ _ hs trivial
    .split at hs
     .exact ih _ _ _ hs trivial
     .exact ih _ _ _ hs trivial
  |lett=>
   simp only[jm1]at hs;obtain⟨a,q1,_,_,hs⟩:=jnd hs;obtain⟨b,q2,_,_,hs⟩:=jnd hs;exact jo6 hs
  |choice=>
   simp only[jm1]at hs;obtain⟨a,q1,_,_,hs⟩:=jnd hs;obtain⟨b,q2,_,_,hs⟩:=jnd hs;obtain⟨c,q3,_,_,hs⟩:=jnd hs;exact jo6 hs
  |func=>
   simp only[jm1]at hs;obtain⟨a,q1,_,_,hs⟩:=jnd hs;exact jo6 hs
  |seq=>
   simp only[jm1]at hs;obtain⟨a,q1,B,_,hs⟩:=jnd hs
   split at hs
   .obtain⟨_,rfl,rfl⟩:=joi hs
    exact ih _ _ _ B trivial
   .obtain⟨b,q2,_,_,hs⟩:=jnd hs
    exact jo6 hs
  |cmp=>
   simp only[jm1]at hs;obtain⟨a,q1,B,_,hs⟩:=jnd hs
   split at hs
   .obtain⟨_,rfl,rfl⟩:=joi hs
    exact ih _ _ _ B trivial
   .obtain⟨b,q2,_,_,hs⟩:=jnd hs
    exact jo6 hs
  |sum=>
   simp only[jm1]at hs;obtain⟨a,q1,B,_,hs⟩:=jnd hs;exact ih _ _ _ hs (ih _ _ _ B trivial)
  |prod=>
   simp only[jm1]at hs;obtain⟨a,q1,B,_,hs⟩:=jnd hs;exact ih _ _ _ hs (ih _ _ _ B trivial)
  |operand=>
   simp only[jm1]at hs;obtain⟨a,q1,B,_,hs⟩:=jnd hs;exact ih _ _ _ hs (ih _ _ _ B trivial)
  |sumL l=>
   simp only[jm1]at hs
   split at hs
   .obtain⟨_,rfl,rfl⟩:=joi hs
    exact F
   .obtain⟨b,q2,_,_,hs⟩:=jnd hs
    obtain⟨O,q3,C,_,hs⟩:=jnd hs;exact ih _ _ _ hs (jo6 C)
  |prodL l=>
   simp only[jm1]at hs
   split at hs
   .obtain⟨_,rfl,rfl⟩:=joi hs
    exact F
   .obtain⟨b,q2,_,_,hs⟩:=jnd hs
    obtain⟨O,q3,C,_,hs⟩:=jnd hs;exact ih _ _ _ hs (jo6 C)
  |operL l=>
   simp only[jm1]at hs
   split at hs
   .obtain⟨_,rfl,rfl⟩:=joi hs
    exact F
   .obtain⟨b,q2,_,_,hs⟩:=jnd hs
    obtain⟨O,q3,C,_,hs⟩:=jnd hs;exact ih _ _ _ hs (jo6 C)
  |un=>
   simp only[jm1]at hs
   split at hs
   .obtain⟨b,q2,_,_,hs⟩:=jnd hs
    exact jo6 hs
   .split at hs
    .obtain⟨b,q2,_,_,hs⟩:=jnd hs
     exact jo6 hs
    .exact ih _ _ _ hs trivial
  |call=>
   simp only[jm1]at hs
   split at hs
   .exact ih _ _ _ hs trivial
   .split at hs
    .exact ih _ _ _ hs trivial
    .split at hs
     .exact ih _ _ _ hs trivial
     .split at hs
      .exact ih _ _ _ hs trivial
      .obtain⟨a,q1,B,_,hs⟩:=jnd hs
       exact ih _ _ _ hs (ih _ _ _ B trivial)
  |callL ks=>
   match ks,hs,F with
   |[],hs,F=>
    by_cases H:([]:List Int).length<=4/\job (q.kind L)=true
    .rw[js5 H]at hs
     obtain⟨K,q1,B,I,C⟩:=jnd hs;exact ih _ _ _ C (ih _ _ _ B trivial)
    .have I:(none:Rt)=some (x,q'):=(if_neg H).symm.trans hs
     cases I
   |[a],hs,F=>
    by_cases H:[a].length<=4/\job (q.kind L)=true
    .rw[js5 H]at hs
     obtain⟨K,q1,B,I,C⟩:=jnd hs;exact ih _ _ _ C (jyd (by simp))
    .rw[jxM H]at hs
     obtain⟨_,rfl,rfl⟩:=joi hs;exact F
   |a ::b ::kt,hs,F=>exact jIB hs (fun ks q1 y hl hy=>ih _ _ _ hy (jyd hl))
  |pref k c=>
   simp only[jm1]at hs;exact ih _ _ _ hs trivial
  |prefL k c t ks=>
   simp only[jm1]at hs
   split at hs
   .obtain⟨b,q2,_,_,hs⟩:=jnd hs
    exact ih _ _ _ hs trivial
   .exact jo6 hs
  |atom=>
   simp only[jm1]at hs
   repeat' split at hs
   .exact jo6 hs
   .exact jo6 hs
   .exact ih _ _ _ hs trivial
   .exact ih _ _ _ hs trivial
   .exact ih _ _ _ hs trivial
   .exact ih _ _ _ hs trivial
   .obtain⟨_,rfl,rfl⟩:=joi hs
    exact fun h=>absurd h jwb
  |brk=>
   simp only[jm1]at hs
   split at hs
   .exact jo6 hs
   .obtain⟨a,q1,B,_,hs⟩:=jnd hs
    exact ih _ _ _ hs (ih _ _ _ B trivial)
  |tupL t ks=>
   match ks,hs,F with
   |[],hs,F=>
    by_cases H:([]:List Int).length<6/\q.kind L=25
    .rw[js4 H]at hs
     obtain⟨K,q1,B,I,C⟩:=jnd hs;exact ih _ _ _ C (ih _ _ _ B trivial)
    .have I:jnu (q.finish L) ⟨7,t.p,0,0,[],[]⟩=some (x,q'):=(if_neg H).symm.trans hs
     exact jo6 I
   |[a],hs,F=>
    by_cases H:[a].length<6/\q.kind L=25
    .rw[js4 H]at hs
     obtain⟨K,q1,B,I,C⟩:=jnd hs;exact ih _ _ _ C (jyc (by simp))
    .rw[juT H]at hs
     obtain⟨_,rfl,rfl⟩:=joi hs;exact fun h=>F (jGE h)
   |a ::b ::kt,hs,F=>exact jBq hs (fun ks q1 y hl hy=>ih _ _ _ hy (jyc hl))
def q0:Q:=⟨⟨0,0,.slice none 0 0,0,0⟩,[]⟩
theorem jxd (h:q.kind L=0):q.want L 0=q.take:=by
 unfold Q.kind at h;unfold Q.want Q.take PF.want;rw[if_pos h]
theorem jD3 {res:Sl.Res V}(hL:L.length<=402) (W:Sl.Ends L) (I:Jb 12 .expr L 0 res):∃n x q',pr L 12 n .expr q0=some (x,q')/\q'.fine/\
 (∀e p,res= .bad e p->e≠0/\(q'.want L 0).S.err=(e:Int)/\(q'.want L 0).S.at'=(p:Int))/\
 (∀v t r o',res= .ok v (t ::r) o'->Sl.Ends (t ::r)->t.k≠0->(q'.want L 0).S.err=4/\(q'.want L 0).S.at'=(t.p:Int))/\
 (∀v t r o',res= .ok v (t ::r) o'->Sl.Ends (t ::r)->t.k=0->(q'.want L 0).S.err=0/\0<q'.ps.length/\∃c,v= .tr c/\Rep q'.ps ((q'.ps.length:Int)-1) c/\c.k≠25/\x=(q'.ps.length:Int)-1/\q'.S.err=0/\L.drop q'.S.next=t ::r):=by
 have Z:Sim L q0 0 (.ok L 0):=⟨rfl,by omega,by omega,rfl,rfl,rfl,W,by omega⟩
 have hP:q0.ps.length+(Sg.ok L 0).pot+5000*(Sg.ok L 0).g<=85000:=by
  show 0+100*L.length+5000*1<=_;omega
 have H:∀s' v,Jx .expr (.ok L 0) s' v->Does L q0 .expr (.ok L 0) s' v 0 0 20 40 0:=fun s' v hx=>(jI9 (by omega) (100*L.length+100)).tr .expr rfl hx Z hP (by show 100*L.length+20<_;omega)
 have fin:∀{q':Q}{s':Sg}{v:V}{x:Int},Got L q0 q' x 0 (.ok L 0) s' v 20 40 0->q'.fine:=fun {q' s' v x} g=>by
  have hb:=g.bnd;have h1:(Sg.ok L 0).pot=100*L.length:=rfl;have h2:(Sg.ok L 0).g=1:=rfl;have h3:q0.ps.length=0:=rfl;exact g.sim.fine (by omega) (by omega)
 cases res with
 |bad e p=>
  obtain⟨n,x,q',B,g⟩:=H (.bad e p) (.nm []) (.inr ⟨e,p,I,rfl⟩);have hk:=g.sim.kind0;refine⟨n,x,q',B,fin g,fun e' p' h=>?_,fun _ _ _ _ h=>(by cases h),fun _ _ _ _ h=>(by cases h)⟩;cases h;rw[jxd hk];exact⟨g.sim.st.2.1,g.sim.st.1,g.sim.st.2.2.1⟩
 |ok v l' o'=>
  obtain⟨n,x,q',B,g⟩:=H (.ok l' o') v (.inl ⟨l',o',I,rfl⟩);refine⟨n,x,q',B,fin g,fun e' p' h=>(by cases h),fun v2 t r o2 h hE2 hk=>?_,fun v2 t r o2 h hE2 hk=>?_⟩
  .cases h
   have U:=g.sim.word;unfold Q.word at U
   have he:q'.want L 0=⟨(q'.S.fail L 4).take,q'.ps⟩:=by
    unfold Q.want PF.want;rw[U,if_neg hk]
   rw[he];have R:=(g.sim.failT 4 (by omega)).failN;exact⟨R.st.1,R.st.2.2.1⟩
  .cases h
   have F:=g.sim.kind;rw[hk]at F;rw[jxd F];obtain⟨c,hv,K,Y⟩:=g.rep rfl;have C:=jDN L 12 n .expr q0 _ B trivial g.sim.st.2.1;have C:x=(q'.ps.length:Int)-1:=C;have O:=K.lt Y;rw[C]at K O;exact⟨g.sim.st.2.1,by omega,c,hv,K,Y,C,g.sim.st.2.1,g.sim.st.1⟩
theorem jzJ:∀(l:List Tok) (i j:Nat) (h:i<l.length),j<4->(l.flatMap Tok.cells)[i*4+j]? =(Tok.cells l[i])[j]?
 |t ::r,0,j,h,hj=>by
  rw[List.flatMap_cons,Kb (by simp[Tok.cells];omega)];simp
 |t ::r,i+1,j,h,hj=>by
  rw[List.flatMap_cons,Ud (by simp[Tok.cells];omega)];have:=jzJ r i j (by simpa using h) hj;rw[show(i+1)*4+j-(Tok.cells t).length=i*4+j by simp[Tok.cells];omega,this];simp
variable {w:World}
theorem jHN {b B:Nat}(h:w.ownsRow B 90 4 (.slice (some ⟨b,0,none⟩) L.length cap) L.length (L.flatMap Tok.cells)):CW w b L:=fun i hi=>by
 have g:∀j,j<4->w.cell? ⟨b,i*4+j,none⟩=(Tok.cells L[i])[j]?:=fun j hj=>by
  rw[h.cellAt (i*4+j) (by omega)];exact jzJ L i j hi hj
 exact⟨g 0 (by omega),g 1 (by omega),g 2 (by omega),g 3 (by omega)⟩
theorem jyh {W:World}{B:Array Value}{r:Nat}{C e a:Value}{Q:Ending->World->Prop}(ht:B.getD 4 undef= .pointer (some ⟨r,0,none⟩)) (K:B.getD 5 undef=e) (I:B.getD 6 undef=a) (H:W.heap[r]? =some (.cells #[C] 38 (0,0))) (O:Q (.returned (.tuple #[.agg #[C],e,a])) W) :
 bodyPost Tryz.prog Tryz.f17 Q Exit.ret {tmps:=B,defers:=[]} W:=by
 have c0:=jmp H 0 rfl;simp only[Yz,Yp,List.getElem_cons_succ]at c0;have U:B[4]?.getD undef= .pointer (some ⟨r,0,none⟩):=by simpa using ht
 have F:B[5]?.getD undef=e:=by simpa using K
 have R:B[6]?.getD undef=a:=by simpa using I
 exact bodyPost_ret (v:=.tuple #[.agg #[C],e,a]) (by simp[results,Tryz.results17,go_sem,U,F,R,c0]) rfl O
def jJk (w:World) (E A:Int) (q':Q) (e:Ending) (w':World):Prop:=∃pv,(E≠0->e= .returned (.tuple #[.agg #[.slice none 0 0],.int .i64 E,.int .i64 A]))/\(E=0->e= .returned (.tuple #[.agg #[pv],.int .i64 0,.int .i64 0])/\∃vs,jnZ w' (w.heap.size+2) pv q'.ps vs)/\Below w.heap.size w w'
variable {n:Nat}{E A:Int}
set_option maxRecDepth 100000 in
theorem jyg {lb:Nat}(hL:L.length<=402) (U:L.length<=cap) (h7:lb<w.heap.size) (O:CW w lb L) (hp:pr L 12 n .expr q0=some (x,q')) (hq:q'.fine) (hE:(q'.want L 0).S.err=E) (hA:(q'.want L 0).S.at'=A) :
 Calls Tryz.prog 17 #[.slice (some ⟨lb,0,none⟩) L.length cap,.int .i64 12] w fun e w'=>jJk w E A q' e w':=by
 have R:PE (w.heap.size+1) lb cap (w.heap.size+2) L:=⟨by omega,by omega,U,by omega⟩
 have k2:=jH R;have hB:∀o1 o2:Obj,Below w.heap.size w ((w.alloc o1).alloc o2):=fun o1 o2=>(jB.alloc jN _).alloc (by rw[Ya];omega) _
 have h4:Hid (∀o1,PM ((w.alloc o1).alloc (pfB lb L.length cap 12 (q0.S.row (.slice none 0 0)))) (w.heap.size+1) lb cap (w.heap.size+2) 12 L q0 (.slice none 0 0) (fun _=>False)):=fun o1=>by
  refine⟨?_,⟨[],⟨Uk _ _ _ _,rfl,fun i h=>absurd h (by simp[q0])⟩,fun _ h=>h.elim⟩,O.below (hB _ _) h7,by rw[Ya,Ya];omega,fun _ h=>h.elim⟩;exact jt2 (by rw[Ya])
 have HW:Hid (WkM (w.heap.size+1) lb cap (w.heap.size+2) 12 L n 31 .expr):=(jI1 R n).expr;have h6:=jH hp;have HE:=jH hE;have HA:=jH hA;have FQ:q'.S.next<=900000:=by have:=hq.1;omega
 have k7:=jH hB;clear hp hE hA O R hB
 go_enter Tryz.func17,Tryz.ntmps17
 go_upto_region 4 with(first
  |(go_at_call 31;refine(HW.o.go h6.o (h4.o _)).mono ?_;rintro _ w2 ⟨rfl,k4,h8,K⟩;obtain⟨h5,h9⟩:=K.loc (jny (jnC w _)) (by omega) (fun h=>by cases h))
  |(go_at_call 32;refine(jqa (k:=0) FQ k2.o h8).mono ?_;rintro _ w3 ⟨⟨y0,y1,y2,y3,rfl⟩,C,Y⟩;obtain⟨F,k5⟩:=Y.loc h5 (by omega) h9))
 have I:Below w.heap.size w w3:=(k7.o _ _).trans ((K.below.trans Y.below).mono (show w.heap.size<=w.heap.size+1 by omega));have c5:w3.cell? ⟨w.heap.size+1,5,none⟩=some (.int .i64 E):=by rw[<-HE.o];exact jmp C.blk 5 rfl
 have c6:w3.cell? ⟨w.heap.size+1,6,none⟩=some (.int .i64 A):=by rw[<-HA.o];exact jmp C.blk 6 rfl
 have c4:w3.cell? ⟨w.heap.size+1,4,none⟩=some k4:=jmp C.blk 4 rfl;have d0:=jmp F 0 rfl;have q5:=jne F 0;have k9:=I.size;obtain⟨vs,W,_⟩:=C.ps;have B:=jH W;obtain⟨av,cv,k8⟩:=joG W.own;have k1:=jH I;have h3:=jH F;clear h8 C K Y h5 F h9 k5 I W h4 HW h6 HE HA
 by_cases Z:E=0
 .subst Z
  rw[k8]at c4 B
  go_wp2_with fail
  refine jyh rfl rfl rfl (block_setCell h3.o 0 (.slice av q'.ps.length cv)) ⟨.slice av q'.ps.length cv,fun h=>absurd rfl h,fun _=>⟨rfl,vs,?_⟩,?_⟩
  .have hh:∀b,b≠w.heap.size->(w3.setCell ⟨w.heap.size,0,none⟩ (.slice av q'.ps.length cv)).heap[b]? =w3.heap[b]?:=fun b hb=>Kh _ _ _ _ hb
   refine⟨joh B.o.own fun b hb=>hh b (by have:=(B.o.own.lt b hb).1;omega),B.o.len,fun i h1 h2=>?_⟩;have H:=B.o.rows i h1 h2;exact⟨joh H.names fun b hb=>hh b (by have:=(H.names.lt b hb).1;omega),joh H.kids fun b hb=>hh b (by have:=(H.kids.lt b hb).1;omega),H.n1,H.n2⟩
  .exact k1.o.setCell (p:=⟨w.heap.size,0,none⟩) jN _
 .have hEb:(E == 0)=false:=by simpa using Z
  have q4:(E != 0)=true:=by simpa using Z
  go_upto_region 5 with fail
  go_region
  go_wp2_with fail
  refine jyh rfl rfl rfl (block_setCell h3.o 0 (.slice none 0 0)) ⟨.slice none 0 0,fun _=>rfl,fun h=>absurd h Z,?_⟩;exact(k1.o.setCell (p:=⟨w.heap.size,0,none⟩) jN _).drew
theorem juJ {W:World}{B:Array Value}{r:Nat}{C e a:Value}{Q:Ending->World->Prop}(ht:B.getD 2 undef= .pointer (some ⟨r,0,none⟩)) (K:B.getD 3 undef=e) (I:B.getD 4 undef=a) (H:W.heap[r]? =some (.cells #[C] 38 (0,0))) (O:Q (.returned (.tuple #[.agg #[C],e,a])) W) :
 bodyPost Tryz.prog Tryz.f9 Q Exit.ret {tmps:=B,defers:=[]} W:=by
 have c0:=jmp H 0 rfl;simp only[Yz,Yp,List.getElem_cons_succ]at c0;have U:B[2]?.getD undef= .pointer (some ⟨r,0,none⟩):=by simpa using ht
 have F:B[3]?.getD undef=e:=by simpa using K
 have R:B[4]?.getD undef=a:=by simpa using I
 exact bodyPost_ret (v:=.tuple #[.agg #[C],e,a]) (by simp[results,Tryz.results9,go_sem,U,F,R,c0]) rfl O
def jui (w:World) (E A:Int) (e:Ending) (w':World):Prop:=e= .returned (.tuple #[.agg #[.slice none 0 0],.int .i64 E,.int .i64 A])/\Below w.heap.size w w'
def jsL (w:World) (ps:List CP) (e:Ending) (w':World):Prop:=∃a c,e= .returned (.tuple #[.agg #[.slice a ps.length c],.int .i64 0,.int .i64 0])/\(∃base vs,jnZ w' base (.slice a ps.length c) ps vs)/\Below w.heap.size w w'
variable {s:ByteArray}
set_option maxRecDepth 100000 in
theorem jxo (B:E≠0) (H:∀W,Below w.heap.size w W->Calls Tryz.prog 16 #[.string s] W fun e w'=>e= .returned (.tuple #[.slice none 0 0,.int .i64 E,.int .i64 A])/\Below W.heap.size W w') :
 Calls Tryz.prog 9 #[.string s] w fun e w'=>jui w E A e w':=by
 have O:(E == 0)=false:=by simpa using B
 have K:(E != 0)=true:=by simpa using B
 have I:=jH H;have C:Hid (∀o,Below w.heap.size w (w.alloc o)):=fun o=>jB.alloc jN _;clear H B
 go_enter Tryz.func9,Tryz.ntmps9
 go_wp2_with (go_at_call 16;refine(I.o _ (C.o _)).mono ?_;rintro _ U ⟨rfl,F⟩;have bx:=jng (jnC w _) F (by rw[Ya];omega);have Y:=jmp bx 0 rfl;have R:=jne bx 0)
 refine juJ rfl rfl rfl (block_setCell bx 0 (.slice none 0 0)) ⟨rfl,?_⟩;exact((C.o _).trans (F.mono (by rw[Ya];omega))).setCell (p:=⟨w.heap.size,0,none⟩) jN _
def SpC (s:ByteArray) (L:List Tok) (w:World):Prop:=∀W,Below w.heap.size w W->Calls Tryz.prog 16 #[.string s] W fun e w'=>∃lb cap,e= .returned (.tuple #[.slice (some ⟨lb,0,none⟩) L.length cap,.int .i64 0,.int .i64 0])/\L.length<=cap/\lb<w'.heap.size/\CW w' lb L/\Below W.heap.size W w'
set_option maxRecDepth 100000 in
theorem jxp (hL:L.length<=402) (I:SpC s L w) (K:pr L 12 n .expr q0=some (x,q')) (R:q'.fine) (U:(q'.want L 0).S.err=E) (Y:(q'.want L 0).S.at'=A) (Z:E≠0) :
 Calls Tryz.prog 9 #[.string s] w fun e w'=>jui w E A e w':=by
 have HC:=jH I;have F:Hid (∀o,Below w.heap.size w (w.alloc o)):=fun o=>jB.alloc jN _
 have h6:Hid (∀(W:World) (lb cap:Nat),L.length<=cap->lb<W.heap.size->CW W lb L->Calls Tryz.prog 17 #[.slice (some ⟨lb,0,none⟩) L.length cap,.int .i64 12] W fun e w'=>e= .returned (.tuple #[.agg #[.slice none 0 0],.int .i64 E,.int .i64 A])/\Below W.heap.size W w'):=fun W lb cap h1 h2 h3=>by
  refine(jyg hL h1 h2 h3 K R U Y).mono ?_;rintro e w' ⟨pv,h4,_,h5⟩;exact⟨h4 Z,h5⟩
 clear I K U Y R Z
 go_enter Tryz.func9,Tryz.ntmps9
 go_wp2_with (first
  |(go_at_call 16;refine(HC.o _ (F.o _)).mono ?_;rintro _ w1 ⟨lb,cap,rfl,O,h9,h8,C⟩;have bx:=jng (jnC w _) C (by rw[Ya];omega))
  |(go_at_call 17;refine(h6.o w1 lb cap O h9 h8).mono ?_;rintro _ w2 ⟨rfl,H⟩;have B:=jng bx H (lt_of_block bx);have d0:=jmp B 0 rfl;have k1:=jne B 0;clear bx))
 have h7:=C.size;rw[Ya]at h7;refine juJ rfl rfl rfl (block_setCell B 0 (.slice none 0 0)) ⟨rfl,?_⟩;exact(((F.o _).trans (C.mono (by rw[Ya];omega))).trans (H.mono (by omega))).setCell (p:=⟨w.heap.size,0,none⟩) jN _
set_option maxRecDepth 100000 in
theorem jBB (hL:L.length<=402) (R:SpC s L w) (Y:pr L 12 n .expr q0=some (x,q')) (hq:q'.fine) (hE:(q'.want L 0).S.err=0) :
 Calls Tryz.prog 9 #[.string s] w fun e w'=>jsL w q'.ps e w':=by
 have HC:=jH R;have I:Hid (∀o,Below w.heap.size w (w.alloc o)):=fun o=>jB.alloc jN _
 have O:Hid (∀(W:World) (lb cap:Nat),L.length<=cap->lb<W.heap.size->CW W lb L->Calls Tryz.prog 17 #[.slice (some ⟨lb,0,none⟩) L.length cap,.int .i64 12] W fun e w'=>∃a c,e= .returned (.tuple #[.agg #[.slice a q'.ps.length c],.int .i64 0,.int .i64 0])/\(∃vs,jnZ w' (W.heap.size+2) (.slice a q'.ps.length c) q'.ps vs)/\Below W.heap.size W w'):=fun W lb cap h1 h2 h3=>by
  refine(jyg hL h1 h2 h3 Y hq hE rfl).mono ?_;rintro e w' ⟨pv,_,h4,h5⟩;obtain⟨h6,vs,h7⟩:=h4 rfl;obtain⟨a,c,rfl⟩:=joG h7.own;exact⟨a,c,h6,⟨vs,h7⟩,h5⟩
 obtain⟨m,U⟩:∃m,q'.ps.length=m:=⟨_,rfl⟩
 have HM:=jH U;rw[U]at O;clear R Y hE hq U
 go_enter Tryz.func9,Tryz.ntmps9
 go_wp2_with (first
  |(go_at_call 16;refine(HC.o _ (I.o _)).mono ?_;rintro _ w1 ⟨lb,cap,rfl,Z,h9,h8,F⟩;have bx:=jng (jnC w _) F (by rw[Ya];omega))
  |(go_at_call 17;refine(O.o w1 lb cap Z h9 h8).mono ?_;rintro _ w2 ⟨a,c,rfl,⟨vs,B⟩,K⟩;have H:=jng bx K (lt_of_block bx);have d0:=jmp H 0 rfl;have k1:=jne H 0))
 have h0:=F.size;rw[Ya]at h0;refine juJ rfl rfl rfl (block_setCell H 0 (.slice a m c)) ⟨a,c,by rw[HM.o];rfl,⟨w1.heap.size+2,vs,?_⟩,?_⟩
 .rw[HM.o]
  have hh:∀b,b≠w.heap.size->(w2.setCell ⟨w.heap.size,0,none⟩ (.slice a m c)).heap[b]? =w2.heap[b]?:=fun b hb=>Kh _ _ _ _ hb;refine⟨joh B.own fun b hb=>hh b (by have:=(B.own.lt b hb).1;omega),B.len,fun i h1 h2=>?_⟩;have C:=B.rows i h1 h2;exact⟨joh C.names fun b hb=>hh b (by have:=(C.names.lt b hb).1;omega),joh C.kids fun b hb=>hh b (by have:=(C.kids.lt b hb).1;omega),C.n1,C.n2⟩
 .exact(((I.o _).trans (F.mono (by rw[Ya];omega))).trans (K.mono (by omega))).setCell (p:=⟨w.heap.size,0,none⟩) jN _
end
namespace Pl
open Go.RowKit Sl Tg
theorem jz8:∀(zs:List ByteArray) (x:ByteArray),jnt (x ::zs)=jnb x ::zs.flatMap (fun z=>[Tk.of 25,jnb z])
 |[],x=>rfl
 |z ::r,x=>by rw[jnt,jz8 r z];rfl
theorem jxr {L:List Tok}{N:Int}{q:Q}(h:(q.tpm L N).1.S.err=0):q.S.err=0/\(jE L q.S.next).k=23/\∃x y zs n,(q.tpm L N).2=x ::y ::zs/\zs.length<=4/\Cn L (q.S.next+1) n (jnt (x ::y ::zs))/\(jE L n).k=24/\(q.tpm L N).1.S.next=n+1:=by
 have Y:((tpB L N q.S).1.finish L).err=0:=h;obtain⟨O,R,f3⟩:=jqD Y;obtain⟨g0,zs,g1,U,C⟩:=jxj L 4 _ _ O;obtain⟨a1,E,K,H⟩:=joN g0;obtain⟨b1,I,b3,b4⟩:=joN a1;obtain⟨c1,B,c3,A⟩:=joN b1;obtain⟨d1,W,d3,d4⟩:=jrv c1;have n1:(q.S.begin L N 23).next=q.S.next+1:=d3;have n2:((q.S.begin L N 23).want L 2).next=q.S.next+2:=by rw[c3];show(q.S.begin L N 23).next+1=_;rw[n1]
 have F:(((q.S.begin L N 23).want L 2).want L 25).next=q.S.next+3:=by rw[b3];show((q.S.begin L N 23).want L 2).next+1=_;rw[n2]
 have Z:((((q.S.begin L N 23).want L 2).want L 25).want L 2).next=q.S.next+4:=by rw[K];show(((q.S.begin L N 23).want L 2).want L 25).next+1=_;rw[F]
 rw[n1]at B A;rw[n2]at I;rw[F]at E H;rw[Z]at C;refine⟨d1,W,jm9 (jE L (q.S.next+1)),jm9 (jE L (q.S.next+3)),zs,(tpB L N q.S).1.next,?_,U,?_,R,f3⟩
 .show(tpB L N q.S).2=_
  unfold tpB;rw[g1,A,H];rfl
 .rw[jz8]
  exact Cn.cons (tkn B) (Cn.cons (tk1 I (by decide) (by decide)) (Cn.cons (tkn E) C))
section
variable {L:List Tok}{N:Int}{n:Nat}
theorem jCb (ih:∀m q x q',pr L N n m q=some (x,q')->q'.S.err=0->Sp L m q x q') {q q':Q}{x:Int}(h:jm1 L N (pr L N n) .lett q=some (x,q')) (he:q'.S.err=0) (hk:(jE L q.S.next).k=3):PE L 0 q x q':=by
 obtain⟨a,q2,h1,_,h2⟩:=jnd h;obtain⟨b,q3,h3,_,h4⟩:=jnd h2;obtain⟨_,rfl,rfl⟩:=jnR h4;have he:q3.S.err=0:=he;obtain⟨e2,Y,cb,O⟩:=ih _ _ _ _ h3 he;obtain⟨f1,R,f3,_⟩:=joN e2;obtain⟨e1,x1,ca,ga⟩:=ih _ _ _ _ h1 f1;obtain⟨C,k2,k3,_⟩:=joN e1;have nb:(q2.want L 5).S.next=q2.S.next+1:=by show(q2.S.want L 5).next=_;rw[f3];rfl
 rw[nb]at O;have A:=ga.ext (ps':=q3.ps) Y
 obtain⟨Z,hZ⟩:∃Z,jov L N q.take=Z:=⟨_,rfl⟩
 have na:((jov L N q.take).2.1.want L 27).S.next=(jov L N q.take).2.1.S.next+1:=by show(PF.want L 27 _).next=_;rw[k3];rfl
 rw[na]at A
 have x0:∀z1:Q,z1.ps=q.ps->∃z,q3.ps ++[(⟨(jov L N q.take).1,(q.word L).p,(q.word L).k,0,(jov L N q.take).2.2,[a,b]⟩:CP)]=z1.ps ++z:=by
  intro z1 hz;refine joy (b:=q3.ps) (joy (b:=q2.ps) ?_ Y) (jph _ _);obtain⟨z,h0⟩:=x1;refine⟨z,?_⟩;rw[h0,hz];show(jov L N q.take).2.1.ps ++z=_
  congr 1
  unfold jov
  split
  .rfl
  .split <;> rfl
 have B:=x0 q rfl
 by_cases K:q.take.kind L=4
 .have hl:jov L N q.take=(9,q.take.take.fnm L):=by unfold jov;rw[if_pos K]
  rw[hl]at C k2 A B ⊢;obtain⟨H,f,y,zs,F,E,I⟩:=jzE (q:=q.take.take) C;have hc:Cn L (q.S.next+2) ((q.take.take.fnm L).1.S.next) ((f ::y ::zs).map jnb):=I;exact⟨H,B,_,jFU (ps:=q3.ps) E hc A O hk K k2 R rfl rfl F rfl⟩
 .by_cases c23:q.take.kind L=23
  .have hl:jov L N q.take=(10,q.take.tpm L N):=by unfold jov;rw[if_neg K,if_pos c23]
   rw[hl]at C k2 A B ⊢;obtain⟨H,U,w,v,zs,m,F,E,I,h5,h6⟩:=jxr (q:=q.take) C;have W:(10,q.take.tpm L N).2.1.S.next=m+1:=h6;rw[W]at k2 A;exact⟨H,B,_,jFW (ps:=q3.ps) E I A O hk U h5 k2 R rfl rfl F rfl⟩
  .have hl:jov L N q.take=(8,q.take.want L 2,[jm9 (jm8 L 2 q.take.S)]):=by unfold jov;rw[if_neg K,if_neg c23]
   rw[hl]at C k2 A B ⊢;obtain⟨H,U,d3,d4⟩:=joN (S:=q.take.S) (k:=2) C;have hn:(8,q.take.want L 2,[jm9 (jm8 L 2 q.take.S)]).2.1.S.next=q.S.next+2:=by show(PF.want L 2 _).next=_;rw[d3];rfl
   rw[hn]at k2 A;exact⟨H,B,_,jFZ (ps:=q3.ps) A O hk (tkn U) k2 R rfl rfl (by show[jm9 (jm8 L 2 q.take.S)]=[jm9 (jE L (q.S.next+1))];rw[d4];rfl) rfl⟩
theorem jCd (ih:∀m q x q',pr L N n m q=some (x,q')->q'.S.err=0->Sp L m q x q') {q q':Q}{x:Int}(h:jm1 L N (pr L N n) .choice q=some (x,q')) (he:q'.S.err=0) (hk:(jE L q.S.next).k=6):PE L 0 q x q':=by
 obtain⟨a,q1,h1,_,Z⟩:=jnd h;obtain⟨b,q2,h3,_,U⟩:=jnd Z;obtain⟨c,q3,h5,_,O⟩:=jnd U;obtain⟨_,rfl,rfl⟩:=jnR O;obtain⟨Y,A,cc,B⟩:=ih _ _ _ _ h5 he;obtain⟨F,H,f3,_⟩:=joN Y;obtain⟨e2,C,cb,E⟩:=ih _ _ _ _ h3 F;obtain⟨R,I,g3,_⟩:=joN e2;obtain⟨K,W,ca,ga⟩:=ih _ _ _ _ h1 R;have nb:(q1.want L 7).S.next=q1.S.next+1:=by show(q1.S.want L 7).next=_;rw[g3];rfl
 have nc:(q2.want L 8).S.next=q2.S.next+1:=by show(q2.S.want L 8).next=_;rw[f3];rfl
 rw[nb]at E;rw[nc]at B;exact⟨K,joy (joy (joy W C) A) (jph _ _),_,jF1 (ga.ext (joy C A)) (E.ext A) B hk I H rfl rfl rfl rfl⟩
theorem jCc (ih:∀m q x q',pr L N n m q=some (x,q')->q'.S.err=0->Sp L m q x q') {q q':Q}{x:Int}(h:jm1 L N (pr L N n) .func q=some (x,q')) (he:q'.S.err=0) (hk:(jE L q.S.next).k=9):PE L 0 q x q':=by
 obtain⟨a,q1,U,_,Y⟩:=jnd h;obtain⟨_,rfl,rfl⟩:=jnR Y;obtain⟨F,R,ca,B⟩:=ih _ _ _ _ U he;obtain⟨K,H,O,_⟩:=joN F;obtain⟨W,w,Z,E,A,C⟩:=jyk (q:=q.take) K;have I:((q.take.par L).1.want L 22).S.next=(q.take.par L).1.S.next+1:=by show(PF.want L 22 _).next=_;rw[O];rfl
 rw[I]at B;exact⟨W,joy R (jph _ _),_,jF2 A C B hk H rfl rfl E rfl⟩
theorem jxQ (ih:∀m q x q',pr L N n m q=some (x,q')->q'.S.err=0->Sp L m q x q') {q q':Q}{x:Int}(m:Md) (R:m= .seq\/m= .cmp) (h:jm1 L N (pr L N n) m q=some (x,q')) (he:q'.S.err=0):Sp L m q x q':=by
 rcases R with rfl|rfl
 .obtain⟨a,q1,h1,_,h2⟩:=jnd h
  by_cases E:q1.kind L≠26
  .rw[if_pos E]at h2
   obtain⟨_,rfl,rfl⟩:=joi h2;obtain⟨A,C,ca,B⟩:=ih _ _ _ _ h1 he;exact⟨A,C,ca,B.mono (Yi _)⟩
  .rw[if_neg E]at h2
   obtain⟨b,q2,I,_,O⟩:=jnd h2;obtain⟨_,rfl,rfl⟩:=jnR O;obtain⟨K,F,cb,H⟩:=ih _ _ _ _ I he;obtain⟨A,C,ca,B⟩:=ih _ _ _ _ h1 K;have hk:(jE L q1.S.next).k=26:=Yt E;exact⟨A,joy (joy C F) (jph _ _),_,jt5 (k:=18) (s:=26) (B.ext F) H (by omega) (by rw[if_pos rfl];exact hk) rfl (Yi _) jN jN rfl rfl rfl rfl⟩
 .obtain⟨a,q1,h1,_,h2⟩:=jnd h
  by_cases E:cOp (q1.kind L)≠17
  .rw[if_pos E]at h2
   obtain⟨_,rfl,rfl⟩:=joi h2;obtain⟨A,C,ca,B⟩:=ih _ _ _ _ h1 he;exact⟨A,C,ca,B.mono (by omega)⟩
  .rw[if_neg E]at h2
   obtain⟨b,q2,I,_,O⟩:=jnd h2;obtain⟨_,rfl,rfl⟩:=jnR O;obtain⟨K,F,cb,H⟩:=ih _ _ _ _ I he;obtain⟨A,C,ca,B⟩:=ih _ _ _ _ h1 K;have hk:cOp (jE L q1.S.next).k=17:=Yt E;exact⟨A,joy (joy C F) (jph _ _),_,jt5 (k:=17) (s:=(jE L q1.S.next).k) (B.ext F) H (by omega) (by rw[if_neg (by decide)]) (by rw[if_neg (by decide)];exact jIG hk) jN jN jN rfl rfl rfl rfl⟩
theorem jFe {q:Q}(h:(jov L N q).2.1.S.err=0):q.S.err=0:=by
 unfold jov at h
 split at h
 .exact(jzE (q:=q.take) h).1
 .split at h
  .exact(jxr h).1
  .exact(joN h).1
theorem jpN (L:List Tok) (N:Int):∀(n:Nat) (m:Md) (q:Q) (x:Int) (q':Q),pr L N n m q=some (x,q')->q'.S.err=0->q.S.err=0:=by
 intro n
 induction n with
 |zero=>intro m q x q' h;cases h
 |succ n ih=>
  intro m q x q' h he;obtain⟨_,k,hk,h⟩:=jop h;cases hk
  have B:∀{r:Rt}{q1:Q}{m1:Md}{f:Int->Q->Rt}{y:Int × Q},bnd (pr L N n m1 q1) f=some y->(∀H q2,f H q2=some y->y.2.S.err=0->q2.S.err=0)->y.2.S.err=0->q1.S.err=0:=by
   intro r q1 m1 f y I K A;obtain⟨H,q2,O,_,C⟩:=jnd I;exact ih _ _ _ _ O (K _ _ C A)
  have E:∀{q1:Q}{c:CP}{y:Int × Q},jnu q1 c=some y->y.2.S.err=0->q1.S.err=0:=by
   intro q1 c y h A;obtain⟨U,W⟩:=y;obtain⟨_,_,rfl⟩:=jnR h;exact A
  have F:∀{q1:Q}{z:Int}{y:Int × Q},out z q1=some y->y.2.S.err=0->q1.S.err=0:=by
   intro q1 c y h A;obtain⟨U,W⟩:=y;obtain⟨_,_,rfl⟩:=joi h;exact A
  have rc:∀{q1:Q}{m1:Md}{y:Int × Q},pr L N n m1 q1=some y->y.2.S.err=0->q1.S.err=0:=by
   intro q1 m1 y h A;obtain⟨U,W⟩:=y;exact ih _ _ _ _ h A
  have R:∀{r:Rt}{q1:Q}{c:CP}{f:Int->Q->Rt}{y:Int × Q},bnd (jnu q1 c) f=some y->(∀H q2,f H q2=some y->y.2.S.err=0->q2.S.err=0)->y.2.S.err=0->q1.S.err=0:=by
   intro r q1 c f y I K A;obtain⟨H,q2,O,_,C⟩:=jnd I;exact E O (K _ _ C A)
  cases m with
  |expr=>
   simp only[jm1]at h
   split at h
   .exact rc h he
   .split at h
    .exact rc h he
    .split at h <;> exact rc h he
  |lett=>exact jFe (q:=q.take) (joN (B (r:=none) h (fun _ q2 h2 A=>(joN (B (r:=none) h2 (fun _ _ C A=>E C A) A)).1) he)).1
  |choice=>exact B (r:=none) (q1:=q.take) h (fun _ q2 h2 A=>(joN (B (r:=none) h2 (fun _ _ C A=>(joN (B (r:=none) C (fun _ _ h4 A=>E h4 A) A)).1) A)).1) he
  |func=>exact(jyk (q:=q.take) (joN (B (r:=none) h (fun _ q2 h2 A=>E h2 A) he)).1).1
  |seq=>
   refine B (r:=none) h (fun _ q2 h2 A=>?_) he
   split at h2
   .exact F h2 A
   .exact B (r:=none) (q1:=q2.take) h2 (fun _ _ C A=>E C A) A
  |cmp=>
   refine B (r:=none) h (fun _ q2 h2 A=>?_) he
   split at h2
   .exact F h2 A
   .exact B (r:=none) (q1:=q2.take) h2 (fun _ _ C A=>E C A) A
  |sum=>exact B (r:=none) h (fun _ q2 h2 A=>rc h2 A) he
  |prod=>exact B (r:=none) h (fun _ q2 h2 A=>rc h2 A) he
  |operand=>exact B (r:=none) h (fun _ q2 h2 A=>rc h2 A) he
  |sumL a=>
   simp only[jm1]at h
   split at h
   .exact F h he
   .exact B (r:=none) (q1:=q.take) h (fun _ q2 h2 A=>R (r:=none) h2 (fun _ _ C A=>rc C A) A) he
  |prodL a=>
   simp only[jm1]at h
   split at h
   .exact F h he
   .exact B (r:=none) (q1:=q.take) h (fun _ q2 h2 A=>R (r:=none) h2 (fun _ _ C A=>rc C A) A) he
  |operL a=>
   simp only[jm1]at h
   split at h
   .exact F h he
   .exact(jrv (B (r:=none) (q1:=q.beg L N 18) h (fun _ q2 h2 A=>(jqD (S:=q2.S) (R (r:=none) (q1:=q2.finish L) h2 (fun _ _ C A=>rc C A) A)).1) he)).1
  |un=>
   simp only[jm1]at h
   split at h
   .exact B (r:=none) (q1:=q.take) h (fun _ q2 h2 A=>E h2 A) he
   .split at h
    .exact B (r:=none) (q1:=q.take) h (fun _ q2 h2 A=>E h2 A) he
    .exact rc h he
  |call=>
   simp only[jm1]at h
   split at h
   .exact rc h he
   .split at h
    .exact rc h he
    .split at h
     .exact rc h he
     .split at h
      .exact rc h he
      .exact B (r:=none) h (fun _ q2 h2 A=>rc h2 A) he
  |callL ks=>
   simp only[jm1]at h
   split at h
   .exact B (r:=none) h (fun _ q2 h2 A=>rc h2 A) he
   .split at h
    .exact F h he
    .split at h
     .exact E h he
     .cases h
    .cases h
  |pref k c=>exact rc (q1:=q.take) h he
  |prefL k c t ks=>
   simp only[jm1]at h
   split at h
   .exact B (r:=none) h (fun _ q2 h2 A=>rc h2 A) he
   .exact E h he
  |atom=>
   simp only[jm1]at h
   split at h
   .exact E (q1:=q.take) h he
   .split at h
    .exact E (q1:=q.take) h he
    .split at h
     .exact rc h he
     .split at h
      .exact rc h he
      .split at h
       .exact rc h he
       .split at h
        .exact rc h he
        .exact absurd (F h he) jwb
  |brk=>
   simp only[jm1]at h
   split at h
   .exact(jrv (jqD (S:=(q.beg L N 23).S) (E (q1:=(q.beg L N 23).finish L) h he)).1).1
   .exact(jrv (B (r:=none) (q1:=q.beg L N 23) h (fun _ q2 h2 A=>rc h2 A) he)).1
  |tupL t ks=>
   simp only[jm1]at h
   split at h
   .exact B (r:=none) (q1:=q.take) h (fun _ q2 h2 A=>rc h2 A) he
   .split at h
    .exact(jqD (S:=q.S) (F (q1:=q.finish L) h he)).1
    .exact(jqD (S:=q.S) (E (q1:=q.finish L) h he)).1
end
theorem PE.of_pl {L:List Tok}{r:Nat}{q q1 q':Q}{x:Int}(h:PL L q.S.next r q1 x q') (A:∃z,q1.ps=q.ps ++z) (he:q.S.err=0):PE L r q x q':=⟨he,joy A h.2.1,h.2.2⟩
theorem PE.mono {L:List Tok}{r A:Nat}{q q':Q}{x:Int}(h:PE L r q x q') (B:A<=r):PE L A q x q':=by
 obtain⟨a,b,c,d⟩:=h;exact⟨a,b,c,d.mono B⟩
theorem jIF (i:Nat):sep 19 0 i=[]:=by cases i <;> rfl
theorem sp_all (L:List Tok) (N:Int):∀(n:Nat) (m:Md) (q:Q) (x:Int) (q':Q),pr L N n m q=some (x,q')->q'.S.err=0->Sp L m q x q':=by
 intro n
 induction n with
 |zero=>intro m q x q' h;cases h
 |succ n ih=>
  intro m q x q' h he;have A:=jpN L N _ _ _ _ _ h he;obtain⟨_,k,hk,h⟩:=jop h;cases hk
  cases m with
  |expr=>
   simp only[jm1]at h
   split at h
   .exact ih _ _ _ _ h he (by assumption)
   .split at h
    .exact ih _ _ _ _ h he (by assumption)
    .split at h
     .exact ih _ _ _ _ h he (by assumption)
     .have:=ih _ _ _ _ h he;exact this
  |lett=>exact fun hk=>jCb ih h he hk
  |choice=>exact fun hk=>jCd ih h he hk
  |func=>exact fun hk=>jCc ih h he hk
  |seq=>exact jxQ ih _ (.inl rfl) h he
  |cmp=>exact jxQ ih _ (.inr rfl) h he
  |sum=>
   obtain⟨a,q1,C,_,B⟩:=jnd h;obtain⟨_,H,ca,F⟩:=ih _ _ _ _ C (jpN L N _ _ _ _ _ B he);exact PE.of_pl (ih _ _ _ _ B he _ ca (F.mono (by omega))) H A
  |prod=>
   obtain⟨a,q1,C,_,B⟩:=jnd h;obtain⟨_,H,ca,F⟩:=ih _ _ _ _ C (jpN L N _ _ _ _ _ B he);exact PE.of_pl (ih _ _ _ _ B he _ ca (F.mono (by omega))) H A
  |operand=>
   obtain⟨a,q1,C,_,B⟩:=jnd h;obtain⟨_,H,ca,F⟩:=ih _ _ _ _ C (jpN L N _ _ _ _ _ B he);exact PE.of_pl (ih _ _ _ _ B he _ ca (F.mono (by omega))) H A
  |sumL a=>
   intro i0 ca F;simp only[jm1]at h
   split at h
   .obtain⟨_,rfl,rfl⟩:=joi h
    exact⟨A,⟨[],by simp⟩,ca,F⟩
   .rename_i hc
    have hk:cOp (jE L q.S.next).k=16:=Yt hc;obtain⟨b,q2,C,_,B⟩:=jnd h;obtain⟨y,q3,h3,_,h4⟩:=jnd B;have e3:=jpN L N _ _ _ _ _ h4 he;obtain⟨_,rfl,rfl⟩:=jnR h3;obtain⟨_,U,cb,I⟩:=ih _ _ _ _ C e3;obtain⟨_,O,K⟩:=ih _ _ _ _ h4 he i0 _ (jt5 (k:=16) (s:=(jE L q.S.next).k) (F.ext U) I (by omega) (by rw[if_neg (by decide)]) (by rw[if_neg (by decide)];exact jIH hk) jN jN jN rfl rfl rfl rfl);exact⟨A,joy (joy U (jph _ _)) O,K⟩
  |prodL a=>
   intro i0 ca F;simp only[jm1]at h
   split at h
   .obtain⟨_,rfl,rfl⟩:=joi h
    exact⟨A,⟨[],by simp⟩,ca,F⟩
   .rename_i hc
    have hk:cOp (jE L q.S.next).k=15:=Yt hc;obtain⟨b,q2,C,_,B⟩:=jnd h;obtain⟨y,q3,h3,_,h4⟩:=jnd B;have e3:=jpN L N _ _ _ _ _ h4 he;obtain⟨_,rfl,rfl⟩:=jnR h3;obtain⟨_,U,cb,I⟩:=ih _ _ _ _ C e3;obtain⟨_,O,K⟩:=ih _ _ _ _ h4 he i0 _ (jt5 (k:=15) (s:=(jE L q.S.next).k) (F.ext U) I (by omega) (by rw[if_neg (by decide)]) (by rw[if_neg (by decide)];exact jII hk) jN jN jN rfl rfl rfl rfl);exact⟨A,joy (joy U (jph _ _)) O,K⟩
  |operL a=>
   intro i0 ca F;simp only[jm1]at h
   split at h
   .obtain⟨_,rfl,rfl⟩:=joi h
    exact⟨A,⟨[],by simp⟩,ca,F⟩
   .obtain⟨b,q2,C,_,B⟩:=jnd h
    obtain⟨y,q3,h3,_,h4⟩:=jnd B;have e3:=jpN L N _ _ _ _ _ h4 he;obtain⟨_,rfl,rfl⟩:=jnR h3;obtain⟨f1,Y,f3⟩:=jqD (S:=q2.S) e3;obtain⟨eb,U,cb,I⟩:=ih _ _ _ _ C f1;obtain⟨b1,b2,b3,b4⟩:=jrv (S:=q.S) eb;have n2:(q.beg L N 18).S.next=q.S.next+1:=b3;rw[n2]at I;have g:=jF0 (cp:=⟨20,(q.begW L N 18).p,(q.begW L N 18).k,0,[],[a,b]⟩) (F.ext U) I b2 Y rfl (by show(jE L (q.S.beg0 L N 18).next).p=_;rw[b4]) rfl rfl;have n3:((q2.finish L).add ⟨20,(q.begW L N 18).p,(q.begW L N 18).k,0,[],[a,b]⟩).S.next=q2.S.next+1:=f3;obtain⟨_,O,K⟩:=ih _ _ _ _ h4 he i0 _ (by rw[n3];exact g);exact⟨A,joy (joy U (jph _ _)) O,K⟩
  |un=>
   simp only[jm1]at h
   split at h
   .rename_i hk
    obtain⟨b,q2,C,_,B⟩:=jnd h;obtain⟨_,rfl,rfl⟩:=jnR B;obtain⟨_,U,cb,I⟩:=ih _ _ _ _ C he;exact⟨A,joy U (jph _ _),_,jxf I (.inl ⟨rfl,rfl⟩) hk rfl rfl rfl rfl⟩
   .split at h
    .rename_i hk
     obtain⟨b,q2,C,_,B⟩:=jnd h;obtain⟨_,rfl,rfl⟩:=jnR B;obtain⟨_,U,cb,I⟩:=ih _ _ _ _ C he;exact⟨A,joy U (jph _ _),_,jxf I (.inr ⟨rfl,rfl⟩) hk rfl rfl rfl rfl⟩
    .exact PE.mono (ih _ _ _ _ h he) (by omega)
  |call=>
   simp only[jm1]at h
   split at h
   .exact ih _ _ _ _ h he _ .p (by assumption)
   .split at h
    .exact ih _ _ _ _ h he _ .l (by assumption)
    .split at h
     .exact ih _ _ _ _ h he _ .a (by assumption)
     .split at h
      .exact ih _ _ _ _ h he _ .u (by assumption)
      .obtain⟨a,q1,C,_,B⟩:=jnd h
       obtain⟨_,H,ca,F⟩:=ih _ _ _ _ C (jpN L N _ _ _ _ _ B he);exact PE.of_pl (ih _ _ _ _ B he q.S.next [ca] (by simp) (by simp) (Gl.one F)) H A
  |callL ks=>
   intro i0 R h0 h5 g;simp only[jm1]at h;have E:=g.len
   split at h
   .rename_i hc
    obtain⟨b,q1,C,_,B⟩:=jnd h;obtain⟨_,H,cb,I⟩:=ih _ _ _ _ C (jpN L N _ _ _ _ _ B he);obtain⟨_,O,K⟩:=ih _ _ _ _ B he i0 (R ++[cb]) (by simp) (by simp;omega) ((g.ext H).snoc (b':=q.S.next) (by rw[jIF];exact Cn.nil _ _) I);exact⟨A,joy H O,K⟩
   .split at h
    .obtain⟨_,rfl,rfl⟩:=joi h
     match R,E with
     |[c],_=>
      obtain⟨js,W,e2⟩:=g.xa;have Z:=g.cn;have hf:flk 19 0 0 [c]=fl c:=by simp[flk,sep]
      rw[hf]at Z;refine⟨A,⟨[],by simp⟩,c,g.ok.1.1,Ym (by omega) g.ok.1.2.1,g.ok.1.2.2,Z,?_⟩
      match js,W with
      |[j],W=>
       rw[jni,jni,XAs]at e2;refine⟨j,by simpa using W,?_⟩;have:=e2.1;rw[jpp L (b:=i0) (fun i=>by show i0+(0+i)=_;omega)]at this;exact this
    .rename_i a kt hne u1 u2
     split at h
     .obtain⟨_,rfl,rfl⟩:=jnR h
      have B:2<=R.length:=by
       cases kt with
       |nil=>exact absurd rfl hne
       |cons b r=>simp at E;omega
      exact⟨A,jph _ _,_,jF3 g B h5 rfl ⟨a,kt,rfl,rfl⟩ rfl rfl⟩
     .cases h
    .cases h
  |pref k c=>
   intro w hK hk;have h:pr L N n (.prefL k c (q.word L) []) q.take=some (x,q'):=h
   have h0:Gl L q.take.ps k (q.S.next+1) q.take.S.next [] 6 []:=⟨trivial,by rw[flk];exact Cn.nil _ _,⟨[],rfl,by rw[jni,XAs];trivial⟩,rfl⟩
   obtain⟨_,O,K⟩:=ih _ _ _ _ h he q.S.next [] w hK rfl hk (by simp) h0;exact⟨A,O,K⟩
  |prefL k c t ks=>
   intro i0 R w hK ht hw h8 g;simp only[jm1]at h;have E:=g.len
   split at h
   .obtain⟨b,q1,C,_,B⟩:=jnd h
    obtain⟨_,H,cb,I⟩:=ih _ _ _ _ C (jpN L N _ _ _ _ _ B he);obtain⟨_,O,K⟩:=ih _ _ _ _ B he i0 (R ++[cb]) w hK ht hw (by simp;omega) ((g.ext H).snoc (b':=q.S.next) (by rw[jFk hK];exact Cn.nil _ _) I);exact⟨A,joy H O,K⟩
   .obtain⟨_,rfl,rfl⟩:=jnR h
    subst ht;exact⟨A,jph _ _,_,jFV hK g (by omega) hw rfl rfl rfl rfl⟩
  |atom=>
   simp only[jm1]at h
   split at h
   .rename_i hk
    obtain⟨_,rfl,rfl⟩:=jnR h;exact⟨A,jph _ _,_,jFX hk rfl rfl rfl rfl⟩
   .split at h
    .rename_i hk
     obtain⟨_,rfl,rfl⟩:=jnR h;exact⟨A,jph _ _,_,jFY hk rfl rfl rfl rfl⟩
    .split at h
     .exact ih _ _ _ _ h he _ .t (by assumption)
     .split at h
      .exact ih _ _ _ _ h he _ .f (by assumption)
      .split at h
       .exact ih _ _ _ _ h he _ .r (by assumption)
       .split at h
        .exact ih _ _ _ _ h he (by assumption)
        .obtain⟨_,rfl,rfl⟩:=joi h
         exact absurd he jwb
  |brk=>
   intro hk;simp only[jm1]at h
   split at h
   .rename_i h24
    obtain⟨_,rfl,rfl⟩:=jnR h;obtain⟨f1,Y,f3⟩:=jqD (S:=(q.beg L N 23).S) he;obtain⟨b1,b2,b3,b4⟩:=jrv (S:=q.S) f1;have n2:(q.beg L N 23).S.next=q.S.next+1:=b3;rw[n2]at Y f3;have n3:((q.beg L N 23).finish L).S.next=q.S.next+1+1:=f3;refine⟨A,jph _ _,.nd 0 6 0 0 [] [],?_⟩;show Gt L (q.ps ++[_]) q.S.next ((q.beg L N 23).finish L).S.next q.ps.length 7 _;rw[n3];exact jFS hk Y rfl (by show(jE L (q.S.beg0 L N 23).next).p=_;rw[b4]) rfl rfl
   .obtain⟨a,q1,C,_,B⟩:=jnd h
    have W:=jpN L N _ _ _ _ _ B he;obtain⟨eb,H,ca,F⟩:=ih _ _ _ _ C W;obtain⟨b1,b2,b3,b4⟩:=jrv (S:=q.S) eb;have n2:(q.beg L N 23).S.next=q.S.next+1:=b3;rw[n2]at F;have ht:q.begW L N 23=jE L q.S.next:=b4;exact PE.of_pl (ih _ _ _ _ B he q.S.next [ca] ht (by rw[ht];exact hk) (by simp) (by simp) (Gl.one F)) H A
  |tupL t ks=>
   intro i0 R ht h7 h0 h6 g;simp only[jm1]at h;have E:=g.len
   split at h
   .rename_i hc
    obtain⟨b,q1,C,_,B⟩:=jnd h;obtain⟨_,H,cb,I⟩:=ih _ _ _ _ C (jpN L N _ _ _ _ _ B he)
    have hs:Cn L q.S.next (q.S.next+1) (sep 7 0 R.length):=by
     cases hcs :R.length with
     |zero=>exact absurd (Yh hcs) h0
     |succ i=>exact Cn.one (tk1 hc.2 (by decide) (by decide))
    obtain⟨_,O,K⟩:=ih _ _ _ _ B he i0 (R ++[cb]) ht h7 (by simp) (by simp;omega) ((g.ext H).snoc (b':=q.S.next+1) hs I);exact⟨A,joy H O,K⟩
   .split at h
    .obtain⟨_,rfl,rfl⟩:=joi h
     obtain⟨f1,Y,f3⟩:=jqD (S:=q.S) he;have n3:(q.finish L).S.next=q.S.next+1:=f3
     match R,E with
     |[c],_=>
      obtain⟨js,W,e2⟩:=g.xa;have Z:=g.cn;have hf:flk 7 0 0 [c]=fl c:=by simp[flk,sep]
      rw[hf]at Z
      match js,W with
      |[j],W=>
       rw[jni,jni,XAs]at e2;have hx:=e2.1;rw[jpp L (b:=i0+1) (fun i=>by show i0+1+(0+i)=_;omega)]at hx
       have gc:Gt L q.ps (i0+1) q.S.next _ 0 c:=⟨g.ok.1.1,Yi _,g.ok.1.2.2,Z,j,by simpa using W,hx⟩
       refine⟨A,⟨[],by simp[Q.finish]⟩,brk c,?_⟩;rw[n3];subst ht;exact jF4 gc h7 Y
    .rename_i hne
     obtain⟨_,rfl,rfl⟩:=jnR h;obtain⟨f1,Y,f3⟩:=jqD (S:=q.S) he;have n3:((q.finish L).add ⟨7,t.p,0,0,[],ks⟩).S.next=q.S.next+1:=f3
     have B:2<=R.length:=by
      match ks,E,hne with
      |[],E,_=>exact absurd (Yh E) h0
      |[a],_,hne=>exact absurd rfl (hne a)
      |a ::b ::r,E,_=>simp at E;omega
     refine⟨A,jph _ _,.nd 1 7 0 0 [] R,?_⟩;rw[n3];subst ht;exact jFT (ps:=q.ps) g B h6 h7 Y rfl rfl rfl rfl
end Pl
namespace Ip
open Go.RowKit Sl
variable {w:World}{v:Value}
theorem jvr {base size n:Nat}{e:TypeId}{xs:List Value}(h:w.ownsRow base e size v n xs):w.ownsRow 0 e size v n xs:=by
 refine⟨h.1,?_⟩
 rcases h.2 with C|⟨g,cap,B,H,C,F⟩
 .exact .inl C
 .exact .inr ⟨g,cap,B,H,Yi _,F⟩
variable {ps:List CP}
theorem jDI {base:Nat}{pv:Value}{vs:List (Value × Value)}(h:jnZ w base pv ps vs):jnZ w 0 pv ps vs:=
 ⟨jvr h.own,h.len,fun i h1 h2=>⟨jvr (h.rows i h1 h2).names,jvr (h.rows i h1 h2).kids,(h.rows i h1 h2).n1,(h.rows i h1 h2).n2⟩⟩
def juh (w:World) (R:ByteArray) (E A:Int) (e:Ending) (w':World):Prop:=e= .returned (.tuple #[.string R,.int .i64 E,.int .i64 A])/\Below w.heap.size w w'
variable {s:ByteArray}{E A:Int}
set_option maxRecDepth 100000 in
theorem jtE (B:E≠0) (F:∀W,Below w.heap.size w W->Calls Tryz.prog 9 #[.string s] W fun e w'=>jui W E A e w') :
 Calls Tryz.prog 6 #[v,.string s] w fun e w'=>juh w ⟨#[]⟩ E A e w':=by
 have I:(E == 0)=false:=by simpa using B
 have H:(E != 0)=true:=by simpa using B
 have HT:=jH F;clear F B
 go_enter Tryz.func6,Tryz.ntmps6
 go_wp2_with (go_at_call 9;refine(HT.o w jB).mono ?_;rintro _ K ⟨rfl,C⟩)
 go_ret3;exact⟨rfl,C.alloc C.size _⟩
set_option maxRecDepth 100000 in
theorem jFI (C:E≠0) (I:Calls Tryz.prog 9 #[.string s] w fun e w'=>jsL w ps e w') (H:∀(W:World) (pv:Value),Below w.heap.size w W->(∃base vs,jnZ W base pv ps vs)->Calls Tryz.prog 10 #[.agg #[pv]] W fun e w'=>e= .returned (.tuple #[.agg #[.slice none 0 0,.slice none 0 0],.int .i64 E,.int .i64 A])/\Below W.heap.size W w') :
 Calls Tryz.prog 6 #[v,.string s] w fun e w'=>juh w ⟨#[]⟩ E A e w':=by
 have Y:(E == 0)=false:=by simpa using C
 have Z:(E != 0)=true:=by simpa using C
 have HT:=jH I;have U:=jH H;clear I H C
 go_enter Tryz.func6,Tryz.ntmps6
 go_wp2_with (first
  |(go_at_call 9;refine HT.o.mono ?_;rintro _ w1 ⟨a,c,rfl,⟨base,vs,K⟩,B⟩;have F:=fun o=>B.alloc B.size o)
  |(go_at_call 10;refine(U.o _ _ (F _) ⟨base,vs,K.below (jB.alloc jN _)⟩).mono ?_;rintro _ w2 ⟨rfl,R⟩))
 go_ret3;have hs:=B.size;have O:=(F _).trans (R.mono (by rw[Ya];omega));exact⟨rfl,O.alloc O.size _⟩
def WOk (W:World) (R:ByteArray) (E A:Int) (e:Ending) (w':World):Prop:=∃a n c b m d,e= .returned (.tuple #[.agg #[.slice a n c,.slice b m d],.int .i64 0,.int .i64 0])/\Below W.heap.size W w'/\∀V,Below w'.heap.size w' V->Calls Tryz.prog 11 #[.agg #[.slice a n c,.slice b m d]] V fun e w2=>e= .returned (.tuple #[.string R,.int .i64 E,.int .i64 A])/\Below V.heap.size V w2
set_option maxRecDepth 100000 in
theorem jFJ {R:ByteArray}(I:Calls Tryz.prog 9 #[.string s] w fun e w'=>jsL w ps e w') (H:∀(W:World) (pv:Value),Below w.heap.size w W->(∃base vs,jnZ W base pv ps vs)->Calls Tryz.prog 10 #[.agg #[pv]] W (WOk W R E A)) :
 Calls Tryz.prog 6 #[v,.string s] w fun e w'=>juh w R E A e w':=by
 have HT:=jH I;have HX:=jH H;clear I H
 go_enter Tryz.func6,Tryz.ntmps6
 go_wp2_with (first
  |(go_at_call 9;refine HT.o.mono ?_;rintro _ w1 ⟨a,c,rfl,⟨base,vs,U⟩,B⟩;have F:=fun o=>B.alloc B.size o)
  |(go_at_call 10;refine(HX.o _ _ (F _) ⟨base,vs,U.below (jB.alloc jN _)⟩).mono ?_;rintro _ w2 ⟨a2,n2,c2,b2,m2,d2,rfl,h0,C⟩;have O:=jH C;clear C)
  |(go_at_call 11;refine(O.o _ (jB.alloc jN _)).mono ?_;rintro _ w4 ⟨rfl,Y⟩))
 go_ret3;have hs:=B.size;have Z:=(F _).trans (h0.mono (by rw[Ya];omega));have K:=Z.alloc Z.size (.cells #[.slice a2 n2 c2,.slice b2 m2 d2] 46);exact⟨rfl,K.trans (Y.mono K.size)⟩
theorem jIf {l:List Tok}{q':Q}{n:Nat}{x:Int}(C:pr (l ++[jnz s]) 12 n .expr q0=some (x,q')) (he:q'.S.err=0) (U:x=(q'.ps.length:Int)-1) (hd:(l ++[jnz s]).drop q'.S.next=[jnz s]) :
 ∃c,wf c/\c.k≠25/\fl c=tks l/\Tg.XA q'.ps (q'.ps.length-1) (Pl.toX c (fL l)):=by
 have h:=Pl.sp_all (l ++[jnz s]) 12 n .expr q0 x q' C he;obtain⟨_,_,c,g⟩:=h
 have W:q'.S.next=l.length:=by
  have:=congrArg List.length hd;rw[Ys,Yg]at this;simp at this;omega
 obtain⟨I,O⟩:=g.cn;have K:q0.S.next=0:=rfl;rw[K]at I O;rw[Kc]at I
 have B:∀i,i<l.length->jE (l ++[jnz s]) (0+i)=jm7 l i:=fun i hi=>by
  unfold jE jm7;rw[Kc,Kb hi]
 have H:fl c=tks l:=by
  apply List.ext_getElem?;intro i;rcases Kg i l.length with hi|hi
  .have h3:(fl c)[i]? =some (fl c)[i]:=Yb (by omega)
   have F:=O i _ h3;rw[B i hi]at F;rw[h3,<-F];unfold tks jm7;rw[Yr,Yb hi];rfl
  .rw[Ue (by omega),Ue (by unfold tks;rw[Ua];exact hi)]
 obtain⟨j,e,R⟩:=g.xa;rw[K]at R;refine⟨c,g.wf,g.ne,H,?_⟩
 rw[<-Pl.toX_congr c (Pl.fP (l ++[jnz s]) 0) (fL l) g.wf (fun i hi=>by
  unfold Pl.fP fL
  rw[B i (by omega)])]
 have:j=q'.ps.length-1:=by omega
 rw[<-this];exact R
end Ip
end Go.Proofs.YtlpmpelnhdoboaaGreatDoor
