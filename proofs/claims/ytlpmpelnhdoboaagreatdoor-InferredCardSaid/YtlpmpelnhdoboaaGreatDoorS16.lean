import Derived.Test.YtlpmpelnhdoboaaGreatDoorS14
set_option linter.unusedVariables false
set_option linter.unusedSimpArgs false
set_option maxHeartbeats 20000000
namespace Go.Proofs.YtlpmpelnhdoboaaGreatDoor
namespace Tg
open Go.RowKit
structure KD (c:Wc) (i:Nat) (q:CP) (j kd:Nat) (x:Inf.X):Prop where
 ks:q.ks[j]? =some (kd:Int)
 lt:kd<i
 len:q.ks.length<=100000
 xa:XA c.ps kd x
 wc:WC c x
variable {c:Wc}{w:World}{κ:Kp}{i:Nat}{q:CP}
theorem joP (h:TM c w κ) {j kd:Nat}{x:Inf.X}(A:c.ps[i]? =some q) (hk:KD c i q j kd x) {z:Int}(B:z=(j:Nat)) :
 Calls Tryz.prog 106 #[.agg #[c.pv],.int .i64 (i:Nat),.int .i64 z] w fun e w'=>e= .returned (.int .i64 (kd:Nat))/\Below w.heap.size w w':=jFn h A hk.ks hk.lt hk.len B
set_option maxRecDepth 100000 in
theorem jIr {a b d:Inf.X}{P:Inf.PS}{N:Nat}{o:Int}(h:ST c w κ P N) (hq:c.ps[i]? =some q) (ho:P.st=none->-1<=o/\o<(P.bs.length:Nat)) {k0:Nat}(d0:KD c i q 0 k0 a) {k1:Nat}(d1:KD c i q 1 k1 b) {k2:Nat}(d2:KD c i q 2 k2 d) (hN:N+16+16*(Inf.sz a+Inf.sz b+Inf.sz d)<=90000) :
 Calls Tryz.prog 105 #[.pointer (some ⟨c.wb,0,none⟩),.int .i64 (i:Nat),.int .i64 o] w (NP c κ w P ((Inf.pW d o (Inf.pW b o (Inf.pP 2 a o P)).2).2.dem (Inf.pW d o (Inf.pW b o (Inf.pP 2 a o P)).2).1 (Inf.pW b o (Inf.pP 2 a o P)).1 d.p) (N+16+16*(Inf.sz a+Inf.sz b+Inf.sz d)) (Inf.pW b o (Inf.pP 2 a o P)).1):=by
 obtain⟨pa,pn,pc,R⟩:=h.tm.pvs;have B:=jH R;have h9:=jH h;have q6:=jH (Inf.Gr.refl P);have HO:=jH ho;have HQ:=jH hq;obtain⟨v8,v9,c0,_,_,_⟩:=h.err;rw[R]at c0;have v1:=h.lt;have D0:=jH d0;have D1:=jH d1;have D2:=jH d2;clear h ho hq R d0 d1 d2
 go_enter Tryz.func105,Tryz.ntmps105
 have h8:=jH (joP h9.o.tm HQ.o D0.o (z:=0) rfl);rw[B.o]at h8
 go_upto_region 2 with(first
  |(go_at_call 106;refine h8.o.mono ?_;rintro _ r4 ⟨rfl,A⟩;have k5:=jH A;clear A)
  |(go_at_call 33;refine(jrZ (k:=2) (z:=2) D0.o.wc (h9.o.on k5.o) D0.o.xa ?_ rfl (by omega)).mono ?_;(intro C;have O:=q6.o C;have W:=HO.o O.1;omega);rintro _ w1 ⟨rfl,κ1,h6,H,U⟩;obtain⟨v3,v2,c1,_,_,_⟩:=H.err;rw[B.o]at c1;have r5:=H.lt;have r3:=jH h6;have Y:=jH H;have h4:=jH (q6.o.trans U);have r7:=jH U;clear h6 H U))
 have k7:=jH (joP Y.o.tm HQ.o D1.o (z:=1) rfl);rw[B.o]at k7
 go_upto_region 3 with(first
  |(go_at_call 106;refine k7.o.mono ?_;rintro _ v5 ⟨rfl,A⟩;have k8:=jH A;clear A)
  |(go_at_call 89;refine(D1.o.wc _ _ _ _ _ _ (Y.o.on k8.o) D1.o.xa ?_ (by omega)).mono ?_;(intro C;have O:=h4.o C;have W:=HO.o O.1;omega);rintro _ w2 ⟨κ2,z2,rfl,Z,E,K,h0⟩;obtain⟨v4,v6,c2,_,_,_⟩:=E.err;rw[B.o]at c2;have r8:=E.lt;have r2:=jH Z;have k9:=jH E;have h5:=jH (h4.o.trans K);have r6:=jH K;clear Z E K;have k4:=jH h0;clear h0))
 have q5:=jH (joP k9.o.tm HQ.o D2.o (z:=2) rfl);rw[B.o]at q5
 go_wp2_with (first
  |(go_at_call 106;refine q5.o.mono ?_;rintro _ v7 ⟨rfl,A⟩;have q4:=jH A;clear A)
  |(go_at_call 69;refine(jrn (b:=(Inf.pW b o (Inf.pP 2 a o P)).1) D2.o.wc (k9.o.on q4.o) D2.o.xa ?_ (by omega) ?_).mono ?_;(intro C;have O:=h5.o C;have W:=HO.o O.1;omega);(exact fun C=>k4.o C);rintro _ w3 ⟨rfl,κ3,h7,F,I⟩;obtain⟨r9,x0,c3,_,_,_⟩:=F.err;rw[B.o]at c3;have v0:=F.lt;have q8:=jH h7;have r1:=jH F;have q9:=jH (h5.o.trans I);have q7:=jH I;clear h7 F I))
 go_returns;refine⟨κ3,z2,rfl,(((((((Fr.refl SW κ w).trans (Fr.of k5.o)).trans r3.o).trans (Fr.of k8.o)).trans r2.o).trans (Fr.of q4.o)).trans q8.o),r1.o.mono (by omega),q9.o,fun C=>?_⟩;have h3:=q7.o C;have W:=k4.o h3.1;exact⟨W.1,by omega⟩
set_option maxRecDepth 100000 in
theorem jzj {a b:Inf.X}{P:Inf.PS}{N:Nat}{o:Int}(h:ST c w κ P N) (hq:c.ps[i]? =some q) (ho:P.st=none->-1<=o/\o<(P.bs.length:Nat)) {k0:Nat}(d0:KD c i q 0 k0 a) {k1:Nat}(d1:KD c i q 1 k1 b) (hN:N+8+16*(Inf.sz a+Inf.sz b)<=90000) :
 Calls Tryz.prog 120 #[.pointer (some ⟨c.wb,0,none⟩),.int .i64 (i:Nat),.int .i64 o] w (NP c κ w P (Inf.pP 1 b o (Inf.pE a o P).2) (N+8+16*(Inf.sz a+Inf.sz b)) P.n):=by
 obtain⟨pa,pn,pc,F⟩:=h.tm.pvs;have E:=jH F;have Y:=jH h;have h4:=jH (Inf.Gr.refl P);have HO:=jH ho;have HQ:=jH hq;obtain⟨r2,r3,c0,_,_,_⟩:=h.err;rw[F]at c0;have q9:=h.lt;have D0:=jH d0;have D1:=jH d1;clear h ho hq F d0 d1
 go_enter Tryz.func120,Tryz.ntmps120
 have W:=jH (joP Y.o.tm HQ.o D0.o (z:=0) rfl);rw[E.o]at W
 go_upto_region 2 with(first
  |(go_at_call 106;refine W.o.mono ?_;rintro _ k8 ⟨rfl,A⟩;have Z:=jH A;clear A)
  |(go_at_call 121;refine(jzi  D0.o.wc (Y.o.on Z.o) D0.o.xa ?_ (by omega)).mono ?_;(intro I;have O:=h4.o I;have h2:=HO.o O.1;omega);rintro _ w1 ⟨κ1,z1,rfl,h5,B,H,h6⟩;obtain⟨q5,r4,c1,_,_,_⟩:=B.err;rw[E.o]at c1;have k9:=B.lt;have k2:=jH h5;have R:=jH B;have h0:=jH (h4.o.trans H);have q4:=jH H;clear h5 B H;have k7:=jH h6;clear h6))
 have h7:=jH (joP R.o.tm HQ.o D1.o (z:=1) rfl);rw[E.o]at h7
 go_wp2_with (first
  |(go_at_call 106;refine h7.o.mono ?_;rintro _ q8 ⟨rfl,A⟩;have h3:=jH A;clear A)
  |(go_at_call 33;refine(jrZ (k:=1) (z:=1) D1.o.wc (R.o.on h3.o) D1.o.xa ?_ rfl (by omega)).mono ?_;(intro I;have O:=h0.o I;have h2:=HO.o O.1;omega);rintro _ w2 ⟨rfl,κ2,U,C,K⟩;obtain⟨q7,r1,c2,_,_,_⟩:=C.err;rw[E.o]at c2;have q6:=C.lt;have h9:=jH U;have k4:=jH C;have k5:=jH (h0.o.trans K);have h8:=jH K;clear U C K))
 go_returns;refine⟨κ2,z1,rfl,(((((Fr.refl SW κ w).trans (Fr.of Z.o)).trans k2.o).trans (Fr.of h3.o)).trans h9.o),k4.o.mono (by omega),k5.o,fun I=>?_⟩;have h2:=h8.o I;have O:=k7.o h2.1;exact⟨O.1,by omega⟩
end Tg
namespace Inf
noncomputable def pPl (k:Nat):List X->Int->PS->PS
 |[],_,P=>P
 |x ::l,o,P=>pPl k l o (pP k x o P)
theorem pPl_snoc (k:Nat) (x:X) (o:Int):∀(l:List X) (P:PS),pPl k (l ++[x]) o P=pP k x o (pPl k l o P)
 |[],P=>by rw[Yx,pPl,pPl,pPl]
 |y ::l,P=>by rw[Ka,pPl,pPl,pPl_snoc k x o l]
theorem pWs_snoc (x:X) (o:Int):∀(l:List X) (P:PS),pWs (l ++[x]) o P=((pWs l o P).1 ++[(pW x o (pWs l o P).2).1],(pW x o (pWs l o P).2).2)
 |[],P=>by rw[Yx,pWs,pWs,pWs];rfl
 |y ::l,P=>by
  rw[Ka,pWs,pWs_snoc x o l]
  conv=>rhs;rw[pWs]
  rfl
theorem szs_snoc (x:X):∀l:List X,szs (l ++[x])=szs l+sz x
 |[]=>by rw[Yx,szs,szs,szs];omega
 |y ::l=>by rw[Ka,szs,szs,szs_snoc x l];omega
theorem szs_take (l:List X):∀j,szs (l.take j)<=szs l:=by
 induction l with
 |nil=>intro j;simp
 |cons x l ih=>
  intro j
  cases j with
  |zero=>simp[szs]
  |succ j=>rw[List.take_succ_cons,szs,szs];have:=ih j;omega
theorem take_snoc' {l:List X}{j:Nat}{x:X}(h:l[j]? =some x):l.take (j+1)=l.take j ++[x]:=by
 have A:=(jG h).1;have e:=(jG h).2;rw[Uc A,e]
end Inf
namespace Tg
open Go.RowKit
variable {c:Wc}{l:List Inf.X}{w:World}{κ:Kp}{P:Inf.PS}{N:Nat}{o:Int}
set_option maxRecDepth 100000 in
theorem jvt {i:Nat}{q:CP}(h:ST c w κ P N) (U:c.ps[i]? =some q) (ho:P.st=none->-1<=o/\o<(P.bs.length:Nat)) (hl:q.ks.length=l.length) (hk:∀j x,l[j]? =some x->∃kd,KD c i q j kd x) (h6:l.length<=6) {k k2:Nat}{z z2:Int}(hz:z=(k:Nat)) (h0:z2=(k2:Nat)) (hN:N+8+16*Inf.szs l<=90000) :
 Calls Tryz.prog 107 #[.pointer (some ⟨c.wb,0,none⟩),.int .i64 (i:Nat),.int .i64 o,.int .i64 z,.int .i64 z2] w (NP c κ w P ((Inf.pPl k l o P).add k2 []) (N+8+16*Inf.szs l) (Inf.pPl k l o P).n):=by
 subst hz h0;obtain⟨pa,pn,pc,E⟩:=h.tm.pvs;obtain⟨na,ka,nc,kc,hv⟩:=h.tm.part U;have HV:=jH hv;have k1:=jH E;have HS:=jH h;have HO:=jH ho;have HQ:=jH U;have HK:=jH hk;have k7:=h.lt
 obtain⟨n,hn⟩:∃n,l.length=n:=⟨_,rfl⟩
 have HL:=jH hn;have CF:=jH (fun(a b:Int) (d e:Int) (x y:Option Addr) (l1 m1 o1:Nat)=>jv8 a b d e x y l1 m1 n o1)
 have CP:=jH (show ∀(W:World) (κ:Kp),TM c W κ->Calls Tryz.prog 91 #[.agg #[.slice pa pn pc],.int .i64 (i:Nat)] W fun e w'=>e= .returned (.agg #[.int .i64 (q.k:Nat),.int .i64 (q.a:Nat),.int .i64 (q.wd:Nat),.int .i64 q.nm,.slice na q.ns.length nc,.slice ka n kc])/\Below W.heap.size W w' from fun W κ hW=>by
  have:=jn7 hW hv;rw[E,hl,hn]at this
  exact this)
 have CK:=jH (show ∀(W:World) (κ:Kp) (j kd:Nat) (x:Inf.X),TM c W κ->KD c i q j kd x->Calls Tryz.prog 106 #[.agg #[.slice pa pn pc],.int .i64 (i:Nat),.int .i64 (j:Nat)] W fun e w'=>e= .returned (.int .i64 (kd:Nat))/\Below W.heap.size W w' from fun W κ j kd x hW hd=>by
  have:=joP hW U hd (z:=(j:Nat)) rfl;rw[E]at this
  exact this)
 have k8:n<=6:=by omega
 obtain⟨qk,qa,qw,qn,k4,q7⟩:=q;have q4:=CF.o (qk:Nat) (qa:Nat) (qw:Nat) qn na ka k4.length nc kc;clear h U ho hk hv E hl hn h6
 go_enter Tryz.func107,Tryz.ntmps107
 go_wp2_with fail
 go_loopg [11] n (fun gh s11 (wr:World)=>∃(j:Nat) (κj:Kp),j<=n/\gh=n-j/\s11= .int .i64 (j:Nat)/\ST c wr κj (Inf.pPl k (l.take j) o P) (N+j+16*Inf.szs (l.take j))/\Fr SW κ κj w wr/\Inf.Gr P (Inf.pPl k (l.take j) o P))
 case atStart=>exact⟨0,κ,by omega,rfl,rfl,by simpa[Inf.pPl,Inf.szs] using HS.o,Fr.refl _ _ _,by simpa[Inf.pPl] using Inf.Gr.refl P⟩
 case round=>
  obtain⟨j,κj,hj,q5,rfl,F,h3,h4⟩:=hrel;obtain⟨er,q8,c0,_,_,_⟩:=F.err;rw[k1.o]at c0;have R:=F.lt;have B:=jH F;have Y:=jH h3;have H:=jH h4;have k5:=Inf.szs_take l j;clear F h3 h4
  by_cases k9:j<n
  .have u1:(j:Int)<(n:Int):=by omega
   obtain⟨x,hx⟩:∃x,l[j]? =some x:=⟨_,Yb (by rw[HL.o];omega)⟩
   obtain⟨kd,D⟩:=HK.o j x hx;have HD:=jH D;have HX:=jH (Inf.take_snoc' hx)
   have q6:Inf.szs (l.take j)+Inf.sz x<=Inf.szs l:=by
    have:=Inf.szs_take l (j+1);rw[HX.o,Inf.szs_snoc]at this;exact this
   clear D hx
   go_wp2_with (first
    |(go_at_call 91;refine(CP.o _ _ B.o.tm).mono ?_;rintro _ w1 ⟨rfl,A⟩;have c1:=(A.cell (p:=⟨c.wb,0,none⟩) R).trans c0;have h8:=Yj R A.size;have C:=jH A;clear A)
    |(go_at_call 106;refine(CK.o _ _ _ _ _ (B.o.tm.on C.o) HD.o).mono ?_;rintro _ w2 ⟨rfl,Z⟩;have h5:=jH Z;clear Z)
    |(go_at_call 33;refine(jrZ (k:=k) HD.o.wc ((B.o.on C.o).on h5.o) HD.o.xa ?_ rfl (by omega)).mono ?_;(intro hr;have h1:=H.o hr;have h2:=HO.o h1.1;omega);rintro _ w3 ⟨rfl,κ3,K,O,I⟩))
   go_roundg (n-(j+1))
   case measure=>omega
   case rel=>
    refine⟨j+1,κ3,by omega,rfl,by go_num,?_,((Y.o.trans (Fr.of C.o)).trans (Fr.of h5.o)).trans K,?_⟩
    .rw[HX.o,Inf.pPl_snoc,Inf.szs_snoc]
     exact O.mono (by omega)
    .rw[HX.o,Inf.pPl_snoc]
     exact H.o.trans I
  .have:j=n:=by omega
   subst this;have h7:l.take j=l:=Yw (by rw[HL.o];omega);rw[h7]at B H
   go_wp2_with (first
    |(go_at_call 91;refine(CP.o _ _ B.o.tm).mono ?_;rintro _ w1 ⟨rfl,A⟩;have h8:=Yj R A.size;have C:=jH A;clear A)
    |(go_at_call 68;refine(jp8 (B.o.on C.o) (by omega) k2 (KS.nil _) (by simp) (xs:=[]) (fun _=>⟨rfl,fun a ha=>by cases ha⟩) (fun _=>rfl)).mono ?_;rintro _ w3 ⟨κ3,z3,rfl,K,O,I,h9⟩))
   go_returns;exact⟨κ3,z3,rfl,(Y.o.trans (Fr.of C.o)).trans K,O.mono (by omega),H.o.trans I,h9⟩
theorem ST.other {c:Wc}{w C w2:World}{κ A:Kp}{P:Inf.PS}{N:Nat}(h:ST c C A P N) (ht:TM c w κ) (E:Fr SW κ A w w2) (B:Oth A C w2):ST c w2 A P N:=by
 obtain⟨_,bv,v,ns,F,h⟩:=h;refine⟨ht.keep E,bv,v,ns,F,?_⟩
 rcases h with h|⟨u,p,hs,h⟩
 .exact .inl ⟨h.wm.other B,h.bm.other B,h.pn⟩
 .exact .inr ⟨u,p,hs,h.other B⟩
theorem ST.top {c:Wc}{w:World}{κ:Kp}{P:Inf.PS}{N:Nat}(h:ST c w κ P N):∀p,w.heap.size<=p->κ p=none:=by
 obtain⟨_,bv,v,ns,A,h⟩:=h
 rcases h with h|⟨u,p,hs,h⟩
 .exact h.wm.gm.top
 .exact h.gm.top
structure AI (c:Wc) (w:World) (κ:Kp) (P:Inf.PS) (N:Nat) (o:Int) (l:List Inf.X) (j:Nat) (kv:Value) (zs:List Int) (wr:World) (κj:Kp):Prop where
 st:ST c wr κj (Inf.pWs (l.take j) o P).2 (N+16*Inf.szs (l.take j))
 fr:Fr SW κ κj w wr
 gr:Inf.Gr P (Inf.pWs (l.take j) o P).2
 row:wr.ownsRow w.heap.size 3 1 kv j (iV zs)
 tag:∀b,kv.ownBlock=some b->κj b=none
 len:zs.length=j
 val:(Inf.pWs (l.take j) o P).2.st=none->zs=(Inf.pWs (l.take j) o P).1.map (fun n:Nat=>(n:Int))/\∀a ∈ (Inf.pWs (l.take j) o P).1,a<(Inf.pWs (l.take j) o P).2.n
theorem jJa (h:ST c w κ P N):AI c w κ P N o l 0 (.slice (some ⟨w.heap.size,0,none⟩) 0 0) [] (w.alloc (.cells #[] 3 (0,0))) κ:=by
 have A:Below w.heap.size w (w.alloc (.cells #[] 3 (0,0))):=jB.alloc jN _;refine⟨?_,Fr.of A,?_,jev (xs:=[]) (jg w _) jN (by simp[maxLen]),fun b hb=>?_,rfl,fun _=>?_⟩
 .simpa[Inf.pWs,Inf.szs] using h.on A
 .simpa[Inf.pWs] using Inf.Gr.refl P
 .cases hb;exact h.top _ jN
 .simp[Inf.pWs]
theorem AI.next {wr Z w2 w3:World}{R B:Kp}{z:Int}{j:Nat}{kv I:Value}{H:List Int}{x:Inf.X}{O:Obj}(h:AI c w κ P N o l j kv H wr R) (ht:TM c w κ) (hx:l[j]? =some x) (A:Below wr.heap.size wr Z) (hf:Fr SW R B Z w2)
 (hs:ST c w2 B (Inf.pW x o (Inf.pWs (l.take j) o P).2).2 (N+16*Inf.szs (l.take j)+16*Inf.sz x)) (hg:Inf.Gr (Inf.pWs (l.take j) o P).2 (Inf.pW x o (Inf.pWs (l.take j) o P).2).2)
 (hz:(Inf.pW x o (Inf.pWs (l.take j) o P).2).2.st=none->z=((Inf.pW x o (Inf.pWs (l.take j) o P).2).1:Nat)/\(Inf.pW x o (Inf.pWs (l.take j) o P).2).1<(Inf.pW x o (Inf.pWs (l.take j) o P).2).2.n)
 (ho:w3.ownsRow w.heap.size 3 1 I (j+1) (iV H ++[.int .i64 z])) (F:(w2.alloc O).grownBy w3 kv.ownBlock) (W:I.ownBlock=kv.ownBlock\/I.ownBlock=some (w2.alloc O).heap.size):AI c w κ P N o l (j+1) I (H ++[z]) w3 B:=by
 have C:Fr SW R B wr w2:=(Fr.of A).trans hf;have h1:w2.ownsRow w.heap.size 3 1 kv j (iV H):=j3 h.row (fun b A=>C.rest b (h.row.lt b A).2 (fun t ht=>by rw[h.tag b A]at ht;cases ht));have Y:∀b,kv.ownBlock=some b->B b=none:=fun b A=>(C.old b (h.row.lt b A).2).trans (h.tag b A);have h2:=C.low.size;have h3:=h.fr.low.size;have h0:=Oth.grown (κ:=B) F Y;have hB:Below w.heap.size w2 w3:=(jB.alloc (by omega) _).grown F (by rw[Ya];omega) (fun k hk=>jh7 h1 k hk);have U:Fr SW κ B w w3:=(h.fr.trans C).far hB;have e:=Inf.take_snoc' hx;have K:=Inf.pWs_snoc x o (l.take j) P;rw[<-e]at K;refine⟨?_,U,?_,?_,fun b A=>?_,by rw[Yg,h.len];rfl,fun hr=>?_⟩
 .rw[K,e,Inf.szs_snoc]
  exact(hs.other ht U h0).mono (by omega)
 .rw[K];exact h.gr.trans hg
 .unfold iV at ho ⊢
  rw[Km];exact ho
 .rcases W with e|e
  .exact Y b (by rw[<-e];exact A)
  .rw[e]at A
   cases A;exact hs.top _ (by rw[Ya];omega)
 .rw[K]at hr ⊢
  obtain⟨e1,l1⟩:=hz hr;obtain⟨r0,n0,_⟩:=hg hr;obtain⟨e2,l2⟩:=h.val r0;refine⟨by rw[e1,e2,Km];rfl,fun a E=>?_⟩;rcases Yq.1 E with E|E
  .have:=l2 a E;show a<(Inf.pW x o (Inf.pWs (l.take j) o P).2).2.n;omega
  .rw[Kf]at E;subst E;exact l1
def ALP (c:Wc) (w:World) (κ:Kp) (P:Inf.PS) (N:Nat) (o:Int) (l:List Inf.X) (e:Ending) (w':World):Prop:=
 ∃(a:Option Addr) (cp:Nat) (zs:List Int) (κ':Kp),e= .returned (.slice a l.length cp)/\AI c w κ P N o l l.length (.slice a l.length cp) zs w' κ'
set_option maxRecDepth 100000 in
theorem jAv {i:Nat}{q:CP}(h:ST c w κ P N) (hq:c.ps[i]? =some q) (ho:P.st=none->-1<=o/\o<(P.bs.length:Nat)) (hl:q.ks.length=l.length) (hk:∀j x,l[j]? =some x->∃kd,KD c i q j kd x) (h6:l.length<=6) (hN:N+16*Inf.szs l<=90000) :
 Calls Tryz.prog 118 #[.pointer (some ⟨c.wb,0,none⟩),.int .i64 (i:Nat),.int .i64 o] w (ALP c w κ P N o l):=by
 obtain⟨i0,k5,h7,q6,h9⟩:=info_parts Tryz.kiI;obtain⟨pa,pn,pc,K⟩:=h.tm.pvs;obtain⟨na,ka,nc,kc,hv⟩:=h.tm.part hq;have k1:=jH K;have HS:=jH h;have HO:=jH ho;have HK:=jH hk;have r2:=h.lt
 obtain⟨n,hn⟩:∃n,l.length=n:=⟨_,rfl⟩
 have HL:=jH hn
 have CP:=jH (show ∀(W:World) (κ:Kp),TM c W κ->Calls Tryz.prog 91 #[.agg #[.slice pa pn pc],.int .i64 (i:Nat)] W fun e w'=>e= .returned (.agg #[.int .i64 (q.k:Nat),.int .i64 (q.a:Nat),.int .i64 (q.wd:Nat),.int .i64 q.nm,.slice na q.ns.length nc,.slice ka n kc])/\Below W.heap.size W w' from fun W κ hW=>by
  have:=jn7 hW hv;rw[K,hl,hn]at this
  exact this)
 have CK:=jH (show ∀(W:World) (κ:Kp) (j kd:Nat) (x:Inf.X),TM c W κ->KD c i q j kd x->Calls Tryz.prog 106 #[.agg #[.slice pa pn pc],.int .i64 (i:Nat),.int .i64 (j:Nat)] W fun e w'=>e= .returned (.int .i64 (kd:Nat))/\Below W.heap.size W w' from fun W κ j kd x hW hd=>by
  have:=joP hW hq hd (z:=(j:Nat)) rfl;rw[K]at this
  exact this)
 have r3:n<=6:=by omega
 have k7:=jH (jJa (l:=l) (o:=o) h);unfold ALP;rw[hn];obtain⟨qk,qa,qw,qn,q4,v0⟩:=q;have r5:=jv8 (qk:Nat) (qa:Nat) (qw:Nat) qn na ka q4.length nc n kc;clear h hq ho hk hv K hl hn h6
 go_enter Tryz.func118,Tryz.ntmps118
 go_wp2_with fail
 go_loopg [7,8] n (fun gh s7 s8 (wr:World)=>∃(j:Nat) (κj:Kp) (R:List Int),j<=n/\gh=n-j/\s8= .int .i64 (j:Nat)/\AI c w κ P N o l j s7 R wr κj)
 case atStart=>exact⟨0,κ,[],by omega,rfl,rfl,k7.o⟩
 case round=>
  obtain⟨j,κj,R,hj,r7,rfl,E⟩:=hrel;obtain⟨er,v1,c0,_,_,_⟩:=E.st.err;rw[k1.o]at c0;have Y:=E.st.lt;obtain⟨sa,sc,k2⟩:=j5 E.row;subst k2;have A:=jH E;have q9:=Inf.szs_take l j;have q8:=E.fr.low.size;clear E
  by_cases r4:j<n
  .have u1:(j:Int)<(n:Int):=by omega
   obtain⟨x,hx⟩:∃x,l[j]? =some x:=⟨_,Yb (by rw[HL.o];omega)⟩
   obtain⟨kd,D⟩:=HK.o j x hx;have HD:=jH D;have HX:=jH hx
   have r8:Inf.szs (l.take j)+Inf.sz x<=Inf.szs l:=by
    have:=Inf.szs_take l (j+1);rw[Inf.take_snoc' hx,Inf.szs_snoc]at this;exact this
   clear D hx
   go_upto_region 6 with(first
    |(go_at_call 91;refine(CP.o _ _ A.o.st.tm).mono ?_;rintro _ w1 ⟨rfl,B⟩;have c1:=(B.cell (p:=⟨c.wb,0,none⟩) Y).trans c0;have h8:=Yj Y B.size;have C:=jH B;clear B)
    |(go_at_call 106;refine(CK.o _ _ _ _ _ (A.o.st.tm.on C.o) HD.o).mono ?_;rintro _ w2 ⟨rfl,h4⟩;have O:=jH (C.o.trans (h4.mono C.o.size));clear h4)
    |(go_at_call 89;refine(HD.o.wc _ _ _ _ _ _ (A.o.st.on O.o) HD.o.xa ?_ (by omega)).mono ?_;(intro hr;have h1:=A.o.gr hr;have h2:=HO.o h1.1;omega);rintro _ w3 ⟨κ3,z3,rfl,H,U,h0,h3⟩;have r1:=U.lt;have r6:=H.low.size;have r9:=O.o.size))
   have h5:w3.ownsRow w.heap.size 3 1 (.slice sa j sc) j (iV R):=j3 A.o.row (fun b hb=>((Fr.of O.o).trans H).rest b (A.o.row.lt b hb).2 (fun t ht=>by rw[A.o.tag b hb]at ht;cases ht));have q7:=jH H;have k8:=jH U;have k4:=jH h0;have q5:=jH h3;have k9:=jH h5;clear H U h0 h3 h5
   go_wp2_with (at_builtin;refine JO _ rfl (.tmp 33) (.tmp 35) 56 rfl w.heap.size 3 i0 _ 1 8 Tryz.kuI k5 h7 q6 h9 rfl (by decide) (.slice sa j sc) j (iV R) rfl (k9.o.alloc _) ⟨w3.heap.size,0,none⟩ 1 1 [.int .i64 z3] rfl rfl (Ja _ _ _ _ rfl) ?_ ?_ ?_ ?_ ?_;(intro u hu;simp at hu;subst hu;rfl);(unfold maxLen;omega);omega;(rw[Ya];omega);intro v4 w4 I F Z;have HN:=jH (A.o.next HS.o.tm HX.o O.o q7.o k8.o k4.o q5.o I F Z);clear I F Z)
   go_roundg (n-(j+1))
   case measure=>omega
   case rel=>exact⟨j+1,κ3,R ++[z3],by omega,rfl,by go_num,HN.o⟩
  .have:j=n:=by omega
   subst this
   go_wp2_with (go_at_call 91;refine(CP.o _ _ A.o.st.tm).mono ?_;rintro _ w1 ⟨rfl,B⟩;have h8:=Yj Y B.size;have C:=jH B;clear B)
   go_returns;refine⟨sa,sc,R,κj,rfl,⟨A.o.st.on C.o,A.o.fr.trans (Fr.of C.o),A.o.gr,j3 A.o.row (fun b hb=>C.o.block b (A.o.row.lt b hb).2),A.o.tag,A.o.len,A.o.val⟩⟩
end Tg
namespace Tg
open Go.RowKit
theorem TM.names {c:Wc}{w:World}{κ:Kp}(h:TM c w κ) {i:Nat}{q:CP}{na ka:Option Addr}{nc kc:Nat}(B:PtV c i q na ka nc kc):w.ownsRow 0 9 1 (.slice na q.ns.length nc) q.ns.length (q.ns.map Value.string):=by
 have E:=(jG B.at').1;have e:c.ps[i]=q:=(jG B.at').2;have C:=(jG B.vs).1;have F:=(jG B.vs).2;have A:=h.at'.rows i E C;rw[e,F]at A;exact A.names
variable {w:World}{b i:Nat}{v:Value}
theorem wd_at {B:Nat}(h:w.cell? ⟨b,i,none⟩=some v) (A:b<B) (x:Wd B w):x.v.cell? ⟨b,i,none⟩=some v:=(x.h.cell (p:=⟨b,i,none⟩) A).trans h
variable {c:Wc}{κ:Kp}{P:Inf.PS}{N nc kc:Nat}{q:CP}{na ka:Option Addr}{o:Int}
set_option maxRecDepth 100000 in
theorem jEF (h:ST c w κ P N) (hr:P.st=none) (hv:PtV c i q na ka nc kc) (ho: -1<=o/\o<(P.bs.length:Nat)) (I:q.ns.length=1) (kids:List Inf.X) :
 Calls Tryz.prog 101 #[.pointer (some ⟨c.wb,0,none⟩),.agg #[.int .i64 (q.k:Nat),.int .i64 (q.a:Nat),.int .i64 (q.wd:Nat),.int .i64 q.nm,.slice na q.ns.length nc,.slice ka q.ks.length kc],.int .i64 o] w (NP c κ w P (Inf.pW (.nd 5 (q.a:Nat) q.ns kids) o P).2 N (Inf.pW (.nd 5 (q.a:Nat) q.ns kids) o P).1):=by
 obtain⟨qk,O,qw,qn,Y,Z⟩:=q;have R:=h.tm.names hv;simp only at I R ⊢
 obtain⟨x,hx⟩:∃x,Y=[x]:=by
  cases Y with
  |nil=>cases I
  |cons x r=>cases r with
   |nil=>exact⟨x,rfl⟩
   |cons y s=>simp at I
 subst hx;obtain⟨g,cap,e,_,hg,_⟩:=jaf R (by simp);cases e;have cg:w.cell? ⟨g,0,none⟩=some (.string x):=by have:=R.cells (g:=g) rfl 0 _ rfl;rw[addr_add]at this;exact this
 obtain⟨H,F⟩:∃H,Obj.cells #[.int .i64 (qk:Nat),.int .i64 (O:Nat),.int .i64 (qw:Nat),.int .i64 qn,.slice (some ⟨g,0,none⟩) 1 nc,.slice ka Z.length kc] 138 (0,0)=H:=⟨_,rfl⟩
 have E:Below w.heap.size w (w.alloc H):=jB.alloc jN _;have C:=jg w H
 obtain⟨W,K⟩:∃W,w.alloc H=W:=⟨_,rfl⟩
 have hz:w.heap.size<W.heap.size:=by rw[<-K,Ya];omega
 rw[K]at E C
 obtain⟨B,hB⟩:∃B,w.heap.size=B:=⟨_,rfl⟩
 have CN:=jH (fun(V:World) (hV:Below W.heap.size W V)=>jEC ((h.on E).on hV) hr x (O:Nat) (xs:=[x]) (kids:=kids) rfl ho);have HA:=jH E;rw[hB]at C hz;rw[<-F]at C;have c4:=ja C 4 rfl;have c1:=ja C 1 rfl;have h0:=(E.cell (p:=⟨g,0,none⟩) hg).trans cg;have h4:g<W.heap.size:=by omega
 have f4:∀A:Wd W.heap.size W,A.v.cell? ⟨B,4,none⟩=some (.slice (some ⟨g,0,none⟩) 1 nc):=wd_at c4 hz;have f1:∀A:Wd W.heap.size W,A.v.cell? ⟨B,1,none⟩=some (.int .i64 (O:Nat)):=wd_at c1 hz;have fg:∀A:Wd W.heap.size W,A.v.cell? ⟨g,0,none⟩=some (.string x):=wd_at h0 h4;have HW:=jH K;have h3:=jH F;have HB:=jH hB;haveI:=Wd.ne;have hl:c.wb<w.heap.size:=h.lt;clear h hr hv ho I R E C K F hB cg c1 h0
 go_enter Tryz.func101,Tryz.ntmps101
 go_upto_region 1 with fail
 rw[show World.alloc w (Obj.cells #[.int .i64 (qk:Nat),.int .i64 (O:Nat),.int .i64 (qw:Nat),.int .i64 qn,.slice (some ⟨g,0,none⟩) 1 nc,.slice ka Z.length kc] 138 (0,0))=W from by rw[h3.o];exact HW.o,HB.o]
 go_upto_region 3 with fail
 refine jP 8 10 (by kernel_rfl) (by kernel_rfl) (by decide) ?_;simp only[TkD]
 iterate 8
  apply jd (by decide) (by rfl)
  .intro A;go_simp;all_goals with_reducible rfl
  simp only[Act.put,SsT]
 refine js ?_;intro A;have U:=jH A.h
 go_wp2_with (go_at_call 113;refine(CN.o _ U.o).mono ?_;rintro _ w1 ⟨κ1,z1,rfl,h6,h2,h5,h7⟩)
 go_returns;exact⟨κ1,z1,rfl,((Fr.of HA.o).trans (Fr.of U.o)).trans h6,h2,h5,h7⟩
variable {a:Inf.X}{k0:Nat}
set_option maxRecDepth 100000 in
theorem jGh (h:ST c w κ P N) (Z:c.ps[i]? =some q) (Y:P.st=none->-1<=o/\o<(P.bs.length:Nat)) (d0:KD c i q 0 k0 a) (A:P.st=none) (h6:q.ns.length<=6) (R:∀x ∈ q.ns,x.size<=1000) (hN:N+16+16*Inf.sz a<=90000) :
 Calls Tryz.prog 104 #[.pointer (some ⟨c.wb,0,none⟩),.int .i64 (i:Nat),.int .i64 o] w (NP c κ w P ((Inf.pW a (Inf.inn P q.ns o) (P.bind q.ns (q.a:Nat) o)).2.add 6 (Inf.rng P.n q.ns.length ++[(Inf.pW a (Inf.inn P q.ns o) (P.bind q.ns (q.a:Nat) o)).1])) (N+16+16*Inf.sz a) (Inf.pW a (Inf.inn P q.ns o) (P.bind q.ns (q.a:Nat) o)).2.n):=by
 obtain⟨pa,pn,pc,I⟩:=h.tm.pvs;have E:=jH I;have r6:=jH h;have x8:=jH (Inf.Gr.refl P);have HO:=jH Y;have HQ:=jH Z;obtain⟨x9,y0,c0,_,_,_⟩:=h.err;rw[I]at c0;have x1:=h.lt;have h7:=jt4 A q.ns (q.a:Nat) o
 have k2: -1<=Inf.inn P q.ns o/\Inf.inn P q.ns o<((P.bs.length+q.ns.length:Nat):Int):=by
  have:=Y A;unfold Inf.inn
  split
  .omega
  .rename_i e
   have:0<q.ns.length:=List.length_pos_iff.2 e;omega
 have HI:=jH k2;have h5:=jH h7;obtain⟨na,ka,nc,kc,hv⟩:=h.tm.part Z;have HV:=jH hv;have HR:=jH A;have q7:=jH R;have r9:=jH (Y A);have CP:=jH (jn7 h.tm hv);rw[I]at CP;have D0:=jH d0;clear h Y Z I d0;clear A hv k2 h7 R
 go_enter Tryz.func104,Tryz.ntmps104
 go_upto_region 2 with(first
  |(go_at_call 91;refine CP.o.mono ?_;rintro _ v5 ⟨rfl,B⟩;have k4:=jH B;clear B)
  |(go_at_call 114;refine(jt3 (r6.o.on k4.o) HR.o HV.o r9.o h6 q7.o (by omega)).mono ?_;rintro _ w1 ⟨κ1,v4,q6,rfl,h8,H,k9,h1⟩;obtain⟨x4,x3,c1,_,_,_⟩:=H.err;rw[E.o]at c1;have v6:=H.lt;have v0:=jH h8;have h0:=jH H;have q9:=jH (Inf.Gr.bind P q.ns (q.a:Nat) o);have k8:=jH k9;have q8:=jH h1;clear h8 H k9 h1))
 have r3:=jH (show(P.bind q.ns (q.a:Nat) o).st=none->-1<=Inf.inn P q.ns o/\Inf.inn P q.ns o<((P.bind q.ns (q.a:Nat) o).bs.length:Nat)from fun _=>by rw[h5.o.2.1];exact HI.o);have q4:=jH (joP h0.o.tm HQ.o D0.o (z:=0) rfl);rw[E.o]at q4
 go_upto_region 3 with(first
  |(go_at_call 106;refine q4.o.mono ?_;rintro _ x6 ⟨rfl,B⟩;have U:=jH B;clear B)
  |(go_at_call 89;refine(D0.o.wc _ _ _ _ _ _ (h0.o.on U.o) D0.o.xa r3.o (by omega)).mono ?_;rintro _ w2 ⟨κ2,z2,rfl,h2,C,O,h4⟩;obtain⟨x5,x7,c2,_,_,_⟩:=C.err;rw[E.o]at c2;have v8:=C.lt;have k5:=jH h2;have v1:=jH C;have r4:=jH (q9.o.trans O);have q5:=jH O;clear h2 C O;have r7:=jH h4;clear h4))
 have k7:KS w2 (.slice v4 q.ns.length q6) (kdL P.n q.ns.length):=KS.app (b:=0) (by
  rw[jqx]
  exact j3 k8.o (fun b hb=>((Fr.of U.o).trans k5.o).rest b (k8.o.lt b hb).2 (fun t ht=>by rw[q8.o b hb]at ht;cases ht)))
 have v3:=jH k7;clear k7
 go_wp2_with (go_at_call 117;refine(jJg (xs:=Inf.rng P.n q.ns.length) (b:=(Inf.pW a (Inf.inn P q.ns o) (P.bind q.ns (q.a:Nat) o)).1) v1.o (by omega) v3.o (by rw[jqx];omega) (fun A=>?_)).mono ?_;(obtain⟨e2,l2⟩:=r7.o A;obtain⟨r1,n1,_⟩:=q5.o A;refine⟨jvN _ _,fun a ha=>?_,e2,l2⟩;have:=ju6 ha;have:=h5.o.1;omega);rintro _ w3 ⟨κ3,z3,rfl,h9,F,K,h3⟩;obtain⟨v9,x2,c3,_,_,_⟩:=F.err;rw[E.o]at c3;have x0:=F.lt;have r2:=jH h9;have r8:=jH F;have r5:=jH (r4.o.trans K);have v7:=jH K;clear h9 F K;have v2:=jH h3;clear h3)
 go_returns;exact⟨κ3,z3,rfl,((((((Fr.refl SW κ w).trans (Fr.of k4.o)).trans v0.o).trans (Fr.of U.o)).trans k5.o).trans r2.o),r8.o.mono (by omega),r5.o,v2.o⟩
variable {xs:List Nat}
theorem jJe (h:ST c w κ P N) (Y:N<90000) {kv:Value}{B:List Int}(hk:KS w kv B) (U:B.length<=900) (K:B.length≠1) (R:P.st=none->B=xs.map (fun n:Nat=>(n:Int))/\∀a ∈ xs,a<P.n) :
 Calls Tryz.prog 115 #[.pointer (some ⟨c.wb,1,none⟩),kv] w (NP c κ w P (P.add 5 xs) (N+1) P.n):=by
 obtain⟨ht,bv,v,ns,Z,h⟩:=h
 rcases h with h|⟨u,p,hs,h⟩
 .refine(jAy h.wm (by omega) hk (by omega) K).mono ?_
  rintro e w' ⟨rfl,C,E,H,I,A⟩;obtain⟨rfl,O⟩:=R h.pn.run
  have F:Rn c w' C bv E _ (P.add 5 xs):=⟨I,by rw[juc];exact h.bm.keep A (by rintro (e|e) <;> cases e),h.pn.add O (fun e=>by cases e) H⟩
  refine⟨C,_,rfl,A.mono (fun t e=>by rcases e with e|e;exact .inl e;exact .inr (.inl e)),⟨ht.keep A,bv,E,_,by rw[Yg];show _+1<=_;omega,.inl F⟩,Inf.Gr.add P 5 xs,fun _=>⟨by rw[h.pn.n],?_⟩⟩;rw[Inf.add_run h.pn.run];unfold Inf.PS.n;simp
 .refine(jAy h (by omega) hk (by omega) K).mono ?_
  rintro e w' ⟨rfl,C,E,H,I,A⟩;refine⟨C,_,rfl,A.mono (fun t e=>by rcases e with e|e;exact .inl e;exact .inr (.inl e)),⟨ht.keep A,bv,E,_,by rw[Yg];show _+1<=_;omega,.inr ⟨u,p,by rw[Inf.add_stop hs];exact hs,I⟩⟩,Inf.Gr.add P 5 xs,fun F=>?_⟩;rw[Inf.add_stop hs,hs]at F;cases F
variable {k1:Nat}
set_option maxRecDepth 100000 in
theorem jE8 {b:Inf.X}(h:ST c w κ P N) (hq:c.ps[i]? =some q) (Z:P.st=none->-1<=o/\o<(P.bs.length:Nat)) (d0:KD c i q 0 k0 a) (d1:KD c i q 1 k1 b) (B:P.st=none) (h6:q.ns.length<=6) (U:∀x ∈ q.ns,x.size<=1000) (Y:q.ns.length=1) (hN:N+16+16*(Inf.sz a+Inf.sz b)<=90000) :
 Calls Tryz.prog 102 #[.pointer (some ⟨c.wb,0,none⟩),.int .i64 (i:Nat),.int .i64 o] w (NP c κ w P (Inf.pW b (Inf.inn P q.ns o) ((Inf.pW a o (P.bind q.ns (q.a:Nat) o)).2.dem (Inf.pW a o (P.bind q.ns (q.a:Nat) o)).1 P.n a.p)).2 (N+16+16*(Inf.sz a+Inf.sz b)) (Inf.pW b (Inf.inn P q.ns o) ((Inf.pW a o (P.bind q.ns (q.a:Nat) o)).2.dem (Inf.pW a o (P.bind q.ns (q.a:Nat) o)).1 P.n a.p)).1):=by
 obtain⟨pa,pn,pc,I⟩:=h.tm.pvs;have C:=jH I;have v0:=jH h;have y4:=jH (Inf.Gr.refl P);have HO:=jH Z;have HQ:=jH hq;obtain⟨y6,y7,c0,_,_,_⟩:=h.err;rw[I]at c0;have x6:=h.lt;have k5:=jt4 B q.ns (q.a:Nat) o
 have k9: -1<=Inf.inn P q.ns o/\Inf.inn P q.ns o<((P.bs.length+q.ns.length:Nat):Int):=by
  have:=Z B;unfold Inf.inn
  split
  .omega
  .rename_i e
   have:0<q.ns.length:=List.length_pos_iff.2 e;omega
 have HI:=jH k9;have k4:=jH k5;obtain⟨na,ka,nc,kc,hv⟩:=h.tm.part hq;have HV:=jH hv;have HR:=jH B;have r5:=jH U;have q5:=jH (Z B);have CP:=jH (jn7 h.tm hv);rw[I]at CP;have D0:=jH d0;have D1:=jH d1;have H1:=jH Y;clear h Z hq I d0 d1 Y;clear B hv k9 k5 U
 go_enter Tryz.func102,Tryz.ntmps102
 go_upto_region 2 with(first
  |(go_at_call 91;refine CP.o.mono ?_;rintro _ v9 ⟨rfl,A⟩;have q4:=jH A;clear A)
  |(go_at_call 114;refine(jt3 (v0.o.on q4.o) HR.o HV.o q5.o h6 r5.o (by omega)).mono ?_;rintro _ w1 ⟨κ1,v8,r4,rfl,k7,H,r1,h4⟩;obtain⟨y0,x8,c1,_,_,_⟩:=H.err;rw[C.o]at c1;have x0:=H.lt;have v3:=jH k7;have h0:=jH H;have k2:=jH (Inf.Gr.bind P q.ns (q.a:Nat) o);have v5:=jH r1;have x2:=jH h4;clear k7 H r1 h4))
 have h8:KS w1 (.slice v8 q.ns.length r4) [(P.n:Int)]:=by
  have:=KS.app (xs:=kdL P.n q.ns.length) (b:=0) (by rw[jqx];exact v5.o);rw[H1.o]at this ⊢;exact this
 have v4:=jH h8;clear h8
 go_upto_region 3 with(go_at_call 115;refine(jJf v4.o).mono ?_;rintro _ x9 ⟨rfl,O⟩;have O:=O.symm;subst O)
 have r6:=jH (show(P.bind q.ns (q.a:Nat) o).st=none->-1<=o/\o<((P.bind q.ns (q.a:Nat) o).bs.length:Nat)from fun B=>by have Y:=k2.o B;have h2:=q5.o;omega);have r2:=jH (joP h0.o.tm HQ.o D0.o (z:=0) rfl);rw[C.o]at r2
 go_upto_region 4 with(first
  |(go_at_call 106;refine r2.o.mono ?_;rintro _ y2 ⟨rfl,A⟩;have q6:=jH A;clear A)
  |(go_at_call 69;refine(jrn (b:=P.n) D0.o.wc (h0.o.on q6.o) D0.o.xa r6.o (by omega) ?_).mono ?_;(intro B;have:=k4.o.1;have h9:=H1.o;refine⟨rfl,?_⟩;omega);rintro _ w2 ⟨rfl,κ2,h5,E,R⟩;obtain⟨y1,y3,c2,_,_,_⟩:=E.err;rw[C.o]at c2;have x3:=E.lt;have v2:=jH h5;have q7:=jH E;have r8:=jH (k2.o.trans R);have r3:=jH R;clear h5 E R))
 have v7:=jH (show((Inf.pW a o (P.bind q.ns (q.a:Nat) o)).2.dem (Inf.pW a o (P.bind q.ns (q.a:Nat) o)).1 P.n a.p).st=none->-1<=Inf.inn P q.ns o/\Inf.inn P q.ns o<(((Inf.pW a o (P.bind q.ns (q.a:Nat) o)).2.dem (Inf.pW a o (P.bind q.ns (q.a:Nat) o)).1 P.n a.p).bs.length:Nat)from fun B=>by
  have Y:=r3.o B;have h2:=HI.o;have h3:=k4.o.2.1
  skip
  omega)
 have q9:=jH (joP q7.o.tm HQ.o D1.o (z:=1) rfl);rw[C.o]at q9
 go_wp2_with (first
  |(go_at_call 106;refine q9.o.mono ?_;rintro _ y5 ⟨rfl,A⟩;have q8:=jH A;clear A)
  |(go_at_call 89;refine(D1.o.wc _ _ _ _ _ _ (q7.o.on q8.o) D1.o.xa v7.o (by omega)).mono ?_;rintro _ w3 ⟨κ3,z3,rfl,k8,F,K,h7⟩;obtain⟨x4,x7,c3,_,_,_⟩:=F.err;rw[C.o]at c3;have x5:=F.lt;have r7:=jH k8;have v1:=jH F;have r9:=jH (r8.o.trans K);have x1:=jH K;clear k8 F K;have v6:=jH h7;clear h7))
 go_returns;exact⟨κ3,z3,rfl,(((((((Fr.refl SW κ w).trans (Fr.of q4.o)).trans v3.o).trans (Fr.of q6.o)).trans v2.o).trans (Fr.of q8.o)).trans r7.o),v1.o.mono (by omega),r9.o,v6.o⟩
set_option maxRecDepth 100000 in
theorem jE9 {b:Inf.X}(h:ST c w κ P N) (hq:c.ps[i]? =some q) (ho:P.st=none->-1<=o/\o<(P.bs.length:Nat)) (d0:KD c i q 0 k0 a) (d1:KD c i q 1 k1 b) (B:P.st=none) (h6:q.ns.length<=6) (Z:∀x ∈ q.ns,x.size<=1000) (O:2<=q.ns.length) (hN:N+16+16*(Inf.sz a+Inf.sz b)<=90000) :
 Calls Tryz.prog 102 #[.pointer (some ⟨c.wb,0,none⟩),.int .i64 (i:Nat),.int .i64 o] w (NP c κ w P (Inf.pW b (Inf.inn P q.ns o) ((Inf.pW a o ((P.bind q.ns (q.a:Nat) o).add 5 (Inf.rng P.n q.ns.length))).2.dem (Inf.pW a o ((P.bind q.ns (q.a:Nat) o).add 5 (Inf.rng P.n q.ns.length))).1 (P.n+q.ns.length) a.p)).2 (N+16+16*(Inf.sz a+Inf.sz b)) (Inf.pW b (Inf.inn P q.ns o) ((Inf.pW a o ((P.bind q.ns (q.a:Nat) o).add 5 (Inf.rng P.n q.ns.length))).2.dem (Inf.pW a o ((P.bind q.ns (q.a:Nat) o).add 5 (Inf.rng P.n q.ns.length))).1 (P.n+q.ns.length) a.p)).1):=by
 obtain⟨pa,pn,pc,I⟩:=h.tm.pvs;have C:=jH I;have v9:=jH h;have z6:=jH (Inf.Gr.refl P);have HO:=jH ho;have HQ:=jH hq;obtain⟨z8,z9,c0,_,_,_⟩:=h.err;rw[I]at c0;have y7:=h.lt;have k7:=jt4 B q.ns (q.a:Nat) o
 have q5: -1<=Inf.inn P q.ns o/\Inf.inn P q.ns o<((P.bs.length+q.ns.length:Nat):Int):=by
  have:=ho B;unfold Inf.inn
  split
  .omega
  .rename_i e
   have:0<q.ns.length:=List.length_pos_iff.2 e;omega
 have HI:=jH q5;have U:=jH k7;obtain⟨na,ka,nc,kc,hv⟩:=h.tm.part hq;have HV:=jH hv;have HR:=jH B;have v0:=jH Z;have q9:=jH (ho B);have CP:=jH (jn7 h.tm hv);rw[I]at CP;have D0:=jH d0;have D1:=jH d1;have H1:=jH O;clear h ho hq I d0 d1 O;clear B hv q5 k7 Z
 go_enter Tryz.func102,Tryz.ntmps102
 go_upto_region 2 with(first
  |(go_at_call 91;refine CP.o.mono ?_;rintro _ x9 ⟨rfl,A⟩;have q7:=jH A;clear A)
  |(go_at_call 114;refine(jt3 (v9.o.on q7.o) HR.o HV.o q9.o h6 v0.o (by omega)).mono ?_;rintro _ w1 ⟨κ1,v2,r8,rfl,k8,H,r5,h7⟩;obtain⟨z0,y9,c1,_,_,_⟩:=H.err;rw[C.o]at c1;have y0:=H.lt;have x3:=jH k8;have r6:=jH H;have v5:=jH (Inf.Gr.bind P q.ns (q.a:Nat) o);have x5:=jH r5;have y1:=jH h7;clear k8 H r5 h7))
 have h9:KS w1 (.slice v2 q.ns.length r8) (kdL P.n q.ns.length):=KS.app (b:=0) (by rw[jqx];exact x5.o);have x4:=jH h9;clear h9;have x7:=jH (jJe (xs:=Inf.rng P.n q.ns.length) r6.o (by omega) x4.o (by rw[jqx];omega) (by rw[jqx];have:=H1.o;omega) (fun _=>⟨jvN _ _,fun a ha=>by have:=ju6 ha;have:=U.o.1;omega⟩))
 go_upto_region 3 with(go_at_call 115;refine x7.o.mono ?_;rintro _ w2 ⟨κ2,z2,rfl,h8,E,Y,k2⟩;obtain⟨z1,z3,c2,_,_,_⟩:=E.err;rw[C.o]at c2;have y2:=E.lt;have x2:=jH h8;have r2:=jH E;have k5:=jH (v5.o.trans Y);have r7:=jH Y;clear h8 E Y;have x1:=jH k2;clear k2)
 have v1:=jH (show((P.bind q.ns (q.a:Nat) o).add 5 (Inf.rng P.n q.ns.length)).st=none->-1<=o/\o<(((P.bind q.ns (q.a:Nat) o).add 5 (Inf.rng P.n q.ns.length)).bs.length:Nat)from fun B=>by have O:=k5.o B;have h2:=q9.o;omega);have r4:=jH (joP r2.o.tm HQ.o D0.o (z:=0) rfl);rw[C.o]at r4
 go_upto_region 4 with(first
  |(go_at_call 106;refine r4.o.mono ?_;rintro _ z7 ⟨rfl,A⟩;have r3:=jH A;clear A)
  |(go_at_call 69;refine(jrn (b:=(P.n+q.ns.length)) D0.o.wc (r2.o.on r3.o) D0.o.xa v1.o (by omega) ?_).mono ?_;(intro B;have h0:=x1.o B;rw[U.o.1]at h0;exact h0);rintro _ w3 ⟨rfl,κ3,k9,F,R⟩;obtain⟨y3,H0,c3,_,_,_⟩:=F.err;rw[C.o]at c3;have y6:=F.lt;have v7:=jH k9;have q8:=jH F;have v8:=jH (k5.o.trans R);have r9:=jH R;clear k9 F R))
 have v4:=jH (show((Inf.pW a o ((P.bind q.ns (q.a:Nat) o).add 5 (Inf.rng P.n q.ns.length))).2.dem (Inf.pW a o ((P.bind q.ns (q.a:Nat) o).add 5 (Inf.rng P.n q.ns.length))).1 (P.n+q.ns.length) a.p).st=none->-1<=Inf.inn P q.ns o/\Inf.inn P q.ns o<(((Inf.pW a o ((P.bind q.ns (q.a:Nat) o).add 5 (Inf.rng P.n q.ns.length))).2.dem (Inf.pW a o ((P.bind q.ns (q.a:Nat) o).add 5 (Inf.rng P.n q.ns.length))).1 (P.n+q.ns.length) a.p).bs.length:Nat)from fun B=>by
  have O:=r9.o B;have h2:=HI.o;have h3:=U.o.2.1;have h4:=r7.o O.1
  omega)
 have q6:=jH (joP q8.o.tm HQ.o D1.o (z:=1) rfl);rw[C.o]at q6
 go_wp2_with (first
  |(go_at_call 106;refine q6.o.mono ?_;rintro _ z5 ⟨rfl,A⟩;have k4:=jH A;clear A)
  |(go_at_call 89;refine(D1.o.wc _ _ _ _ _ _ (q8.o.on k4.o) D1.o.xa v4.o (by omega)).mono ?_;rintro _ w4 ⟨κ4,z4,rfl,r1,K,h5,q4⟩;obtain⟨y8,y4,c4,_,_,_⟩:=K.err;rw[C.o]at c4;have y5:=K.lt;have x0:=jH r1;have v3:=jH K;have v6:=jH (v8.o.trans h5);have x8:=jH h5;clear r1 K h5;have x6:=jH q4;clear q4))
 go_returns;exact⟨κ4,z4,rfl,((((((((Fr.refl SW κ w).trans (Fr.of q7.o)).trans x3.o).trans x2.o).trans (Fr.of r3.o)).trans v7.o).trans (Fr.of k4.o)).trans x0.o),v3.o.mono (by omega),v6.o,x6.o⟩
theorem ST.binds (h:ST c w κ P N) (A:P.st=none):P.bs.length<=N/\∃ba bc,w.cell? ⟨c.wb,2,none⟩=some (.slice ba P.bs.length bc):=by
 obtain⟨ht,bv,v,ns,B,h⟩:=h
 rcases h with h|⟨u,p,hs,h⟩
 .obtain⟨ba,bc,e,_⟩:=h.bm.row.any
  refine⟨by have:=h.pn.bl;have:=h.pn.n;omega,ba,bc,?_⟩;have:=ja h.wm.blk 2 rfl;rw[<-e];exact this
 .rw[A]at hs;cases hs
theorem jFq (t n:Nat) (h:1<=n):kdL t n=(t:Int) ::kdL (t+1) (n-1):=by
 obtain⟨m,rfl⟩:∃m,n=m+1:=⟨n-1,by omega⟩
 unfold kdL;rw[List.range_succ_eq_map,Kt,List.map_map,Nat.add_sub_cancel]
 congr 1
 apply List.map_congr_left;intro j _;show((t+(j+1):Nat):Int)=((t+1+j:Nat):Int);omega
variable {W:World}
theorem jmo {o:Obj}(h:w.alloc o=W):Below w.heap.size w W/\W.heap[w.heap.size]? =some o:=by subst h;exact⟨jB.alloc jN _,jg w o⟩
set_option maxRecDepth 100000 in
theorem jFd {b:Inf.X}(h:ST c w κ P N) (hq:c.ps[i]? =some q) (ho:P.st=none->-1<=o/\o<(P.bs.length:Nat)) (d0:KD c i q 0 k0 a) (d1:KD c i q 1 k1 b) (E:P.st=none) (h6:q.ns.length<=6) (q6:∀x ∈ q.ns,x.size<=1000) (H:2<=q.ns.length) (hN:N+16+16*(Inf.sz a+Inf.sz b)<=90000) :
 Calls Tryz.prog 103 #[.pointer (some ⟨c.wb,0,none⟩),.int .i64 (i:Nat),.int .i64 o] w (NP c κ w P (Inf.pW b (Inf.inn P (q.ns.take 1) o) ((Inf.pW a (Inf.inn P q.ns o) ((((P.bind q.ns (q.a:Nat) o).add 0 []).add 6 (Inf.rng (P.n+1) (q.ns.length-1) ++[P.n+q.ns.length])).dem P.n (P.n+q.ns.length+1) (q.a:Nat))).2.dem (Inf.pW a (Inf.inn P q.ns o) ((((P.bind q.ns (q.a:Nat) o).add 0 []).add 6 (Inf.rng (P.n+1) (q.ns.length-1) ++[P.n+q.ns.length])).dem P.n (P.n+q.ns.length+1) (q.a:Nat))).1 (P.n+q.ns.length) a.p)).2 (N+16+16*(Inf.sz a+Inf.sz b)) (Inf.pW b (Inf.inn P (q.ns.take 1) o) ((Inf.pW a (Inf.inn P q.ns o) ((((P.bind q.ns (q.a:Nat) o).add 0 []).add 6 (Inf.rng (P.n+1) (q.ns.length-1) ++[P.n+q.ns.length])).dem P.n (P.n+q.ns.length+1) (q.a:Nat))).2.dem (Inf.pW a (Inf.inn P q.ns o) ((((P.bind q.ns (q.a:Nat) o).add 0 []).add 6 (Inf.rng (P.n+1) (q.ns.length-1) ++[P.n+q.ns.length])).dem P.n (P.n+q.ns.length+1) (q.a:Nat))).1 (P.n+q.ns.length) a.p)).1):=by
 obtain⟨pa,pn,pc,k5⟩:=h.tm.pvs;have F:=jH k5;have H6:=jH h;have R7:=jH (Inf.Gr.refl P);have HO:=jH ho;have HQ:=jH hq;obtain⟨R8,N5,c0,_,_,_⟩:=h.err;rw[k5]at c0;have h7:=h.lt;have h8:=jt4 E q.ns (q.a:Nat) o
 have x1: -1<=Inf.inn P q.ns o/\Inf.inn P q.ns o<((P.bs.length+q.ns.length:Nat):Int):=by
  have:=ho E;unfold Inf.inn
  split
  .omega
  .rename_i e
   have:0<q.ns.length:=List.length_pos_iff.2 e;omega
 have HI:=jH x1;have R:=jH h8;obtain⟨na,ka,nc,kc,hv⟩:=h.tm.part hq;have HV:=jH hv;have HR:=jH E;have y5:=jH q6;have z8:=jH (ho E);have CP:=jH (jn7 h.tm hv);rw[k5]at CP;have y3:=jH h.top;obtain⟨K4,ba,bc,O⟩:=h.binds E
 have k8:Inf.PS.n ((P.bind q.ns (q.a:Nat) o).add 0 [])=P.n+q.ns.length+1:=by
  rw[Inf.add_run h8.2.2];have:=h8.1;unfold Inf.PS.n at *;simp;omega
 have x4:=jH k8
 obtain⟨bn,r1⟩:∃bn,P.bs.length=bn:=⟨_,rfl⟩
 have v6:=jH r1;rw[r1]at O;have D0:=jH d0;have D1:=jH d1;have H2:=jH H;clear h ho hq k5 d0 d1 H;clear E hv x1 h8 q6 k8 r1
 go_enter Tryz.func103,Tryz.ntmps103
 go_upto_region 2 with(go_at_call 91;refine CP.o.mono ?_;rintro _ y4 ⟨rfl,C⟩;have x3:=jH C;have z7:=(C.cell (p:=⟨c.wb,2,none⟩) h7).trans O;have z3:=C.size;clear C)
 generalize hWW:World.alloc _ _=W;obtain⟨v0,A⟩:=jmo hWW;have k2:Below w.heap.size w W:=x3.o.trans (v0.mono x3.o.size);have x7:=jH k2;have R3:=(k2.cell (p:=⟨c.wb,2,none⟩) h7).trans O;have R0:=Yj h7 k2.size
 obtain⟨B,v3⟩:∃B,y4.heap.size=B:=⟨_,rfl⟩
 have y0:κ B=none:=y3.o B (by omega);rw[v3]at A ⊢;have y2:=jH A;have H5:=jH y0;have e0:=ja A 0 rfl;have e1:=ja A 1 rfl;have e2:=ja A 2 rfl;have e3:=ja A 3 rfl;have e4:=ja A 4 rfl;have e5:=ja A 5 rfl;have N0:=jb A;clear hWW v0 k2 A y0 z7 O v3 z3 c0 h7
 go_upto_region 4 with(go_at_call 114;refine(jt3 (H6.o.on x7.o) HR.o HV.o z8.o h6 y5.o (by omega)).mono ?_;rintro _ w1 ⟨κ1,y1,r2,rfl,v9,k4,x9,v1⟩;obtain⟨R2,K9,c1,_,_,_⟩:=k4.err;rw[F.o]at c1;have N7:=k4.lt;have r9:=jH v9;have H4:=jH k4;have y7:=jH (Inf.Gr.bind P q.ns (q.a:Nat) o);have q9:=jH x9;have v4:=jH v1;clear v9 k4 x9 v1)
 go_upto_region 5 with(go_at_call 68;refine(jp8 H4.o (by omega) 0 (KS.nil _) (by simp) (xs:=[]) (fun _=>⟨rfl,fun a ha=>by cases ha⟩) (fun _=>rfl)).mono ?_;rintro _ w2 ⟨κ2,z2,rfl,r4,h0,q5,v5⟩;obtain⟨R4,N3,c2,_,_,_⟩:=h0.err;rw[F.o]at c2;have N8:=h0.lt;have Y:=jH r4;have z9:=jH h0;have y9:=jH (y7.o.trans q5);have v2:=jH q5;clear r4 h0 q5;have r8:=jH v5;clear v5)
 have k9:Fr SW κ κ2 W w2:=r9.o.trans Y.o;have K:=k9.blk y2.o H5.o;have f1:=ja K 1 rfl;have K2:=jb K
 have z0:=jH (show w2.ownsRow 0 3 1 (.slice y1 q.ns.length r2) ((kdL (P.n+1) (q.ns.length-1)).length+1) (iV ((P.n:Int) ::kdL (P.n+1) (q.ns.length-1)))from by
  rw[show(kdL (P.n+1) (q.ns.length-1)).length+1=q.ns.length by rw[jqx];have:=H2.o;omega,<-jFq _ _ (by have:=H2.o;omega)]
  exact j3 q9.o (fun b I=>Y.o.rest b (q9.o.lt b I).2 (fun t ht=>by rw[v4.o b I]at ht;cases ht)))
 have H0:=jH (show ∀b,(Value.slice y1 q.ns.length r2).ownBlock=some b->κ2 b=none from fun b I=>(Y.o.old b (q9.o.lt b I).2).trans (v4.o b I))
 have x8:=jH (jzh (xs:=Inf.rng (P.n+1) (q.ns.length-1)) (a:=P.n) (b:=P.n+q.ns.length) z9.o z0.o H0.o (by rw[jqx];have:=H2.o;omega) (by rw[jqx];omega) z2 (q.a:Nat) (by omega) (fun E=>by
  have H:=r8.o E;have I:=R.o.1;have hp:=x4.o;refine⟨rfl,by omega,jvN _ _,fun a ha=>?_,by rw[H.1,I],by omega⟩;have:=ju6 ha;have:=H2.o
  omega))
 rw[x4.o]at x8;clear k9 K
 go_upto_region 6 with(go_at_call 116;refine x8.o.mono ?_;rintro _ w3 ⟨rfl,κ3,x0,h9,k7⟩;obtain⟨K5,N6,c3,_,_,_⟩:=h9.err;rw[F.o]at c3;have R1:=h9.lt;have H1:=jH x0;have x5:=jH h9;have z1:=jH (y9.o.trans k7);have q4:=jH k7;clear x0 h9 k7)
 have y6:=jH (show((((P.bind q.ns (q.a:Nat) o).add 0 []).add 6 (Inf.rng (P.n+1) (q.ns.length-1) ++[P.n+q.ns.length])).dem P.n (P.n+q.ns.length+1) (q.a:Nat)).st=none->-1<=Inf.inn P q.ns o/\Inf.inn P q.ns o<(((((P.bind q.ns (q.a:Nat) o).add 0 []).add 6 (Inf.rng (P.n+1) (q.ns.length-1) ++[P.n+q.ns.length])).dem P.n (P.n+q.ns.length+1) (q.a:Nat)).bs.length:Nat)from fun E=>by
  have h1:=q4.o E;have H:=v2.o h1.1;have h3:=R.o.2.1;have h4:=HI.o
  omega)
 have x2:=jH (joP x5.o.tm HQ.o D0.o (z:=0) rfl);rw[F.o]at x2
 go_upto_region 7 with(first
  |(go_at_call 106;refine x2.o.mono ?_;rintro _ N2 ⟨rfl,C⟩;have r7:=jH C;clear C)
  |(go_at_call 69;refine(jrn (b:=P.n+q.ns.length) D0.o.wc (x5.o.on r7.o) D0.o.xa y6.o (by omega) ?_).mono ?_;(intro E;have h1:=q4.o E;have H:=r8.o h1.1;have I:=R.o.1;exact⟨by rw[H.1,I],by omega⟩);rintro _ w4 ⟨rfl,κ4,x6,Z,q8⟩;obtain⟨K7,N9,c4,_,_,_⟩:=Z.err;rw[F.o]at c4;have K6:=Z.lt;have K1:=jH x6;have r5:=jH Z;have y8:=jH (z1.o.trans q8);have H3:=jH q8;clear x6 Z q8))
 have H8:=jH (show((Inf.pW a (Inf.inn P q.ns o) ((((P.bind q.ns (q.a:Nat) o).add 0 []).add 6 (Inf.rng (P.n+1) (q.ns.length-1) ++[P.n+q.ns.length])).dem P.n (P.n+q.ns.length+1) (q.a:Nat))).2.dem (Inf.pW a (Inf.inn P q.ns o) ((((P.bind q.ns (q.a:Nat) o).add 0 []).add 6 (Inf.rng (P.n+1) (q.ns.length-1) ++[P.n+q.ns.length])).dem P.n (P.n+q.ns.length+1) (q.a:Nat))).1 (P.n+q.ns.length) a.p).st=none->-1<=(bn:Int)/\(bn:Int)<(((Inf.pW a (Inf.inn P q.ns o) ((((P.bind q.ns (q.a:Nat) o).add 0 []).add 6 (Inf.rng (P.n+1) (q.ns.length-1) ++[P.n+q.ns.length])).dem P.n (P.n+q.ns.length+1) (q.a:Nat))).2.dem (Inf.pW a (Inf.inn P q.ns o) ((((P.bind q.ns (q.a:Nat) o).add 0 []).add 6 (Inf.rng (P.n+1) (q.ns.length-1) ++[P.n+q.ns.length])).dem P.n (P.n+q.ns.length+1) (q.a:Nat))).1 (P.n+q.ns.length) a.p).bs.length:Nat)from fun E=>by
  have h1:=H3.o E;have H:=q4.o h1.1;have h3:=v2.o H.1;have h4:=R.o.2.1;have h5:=v6.o;have h6:=H2.o
  omega)
 have v8:=jH (joP r5.o.tm HQ.o D1.o (z:=1) rfl);rw[F.o]at v8
 go_wp2_with (first
  |(go_at_call 106;refine v8.o.mono ?_;rintro _ N1 ⟨rfl,C⟩;have v7:=jH C;clear C)
  |(go_at_call 89;refine(D1.o.wc _ _ _ _ _ _ (r5.o.on v7.o) D1.o.xa H8.o (by omega)).mono ?_;rintro _ w5 ⟨κ5,z5,rfl,r6,U,q7,r3⟩;obtain⟨R6,K8,c5,_,_,_⟩:=U.err;rw[F.o]at c5;have R5:=U.lt;have z4:=jH r6;have K0:=jH U;have z6:=jH (y8.o.trans q7);have N4:=jH q7;clear r6 U q7;have H7:=jH r3;clear r3))
 go_returns
 have H9:Inf.inn P (q.ns.take 1) o=(bn:Int):=by
  have H:=H2.o;have h5:=v6.o;unfold Inf.inn;rw[if_neg (by intro e;have:=congrArg List.length e;rw[List.length_take,List.length_nil]at this;omega),List.length_take];omega
 rw[H9];exact⟨κ5,z5,rfl,(((((((((Fr.refl SW κ w).trans (Fr.of x7.o)).trans r9.o).trans Y.o).trans H1.o).trans (Fr.of r7.o)).trans K1.o).trans (Fr.of v7.o)).trans z4.o),K0.o.mono (by omega),z6.o,H7.o⟩
variable {l:List Inf.X}
set_option maxRecDepth 100000 in
theorem jIA (h:ST c w κ P N) (hq:c.ps[i]? =some q) (ho:P.st=none->-1<=o/\o<(P.bs.length:Nat)) (hl:q.ks.length=l.length) (hk:∀j x,l[j]? =some x->∃kd,KD c i q j kd x) (h6:l.length<=6) (U:2<=l.length) (hN:N+8+16*Inf.szs l<=90000) :
 Calls Tryz.prog 119 #[.pointer (some ⟨c.wb,0,none⟩),.int .i64 (i:Nat),.int .i64 o] w (NP c κ w P ((((Inf.pWs l o P).2.add 0 []).add 6 ((Inf.pWs l o P).1.tail ++[(Inf.pWs l o P).2.n])).dem ((Inf.pWs l o P).1.headD 0) ((Inf.pWs l o P).2.n+1) (q.a:Nat)) (N+8+16*Inf.szs l) (Inf.pWs l o P).2.n):=by
 obtain⟨pa,pn,pc,h5⟩:=h.tm.pvs;have O:=jH h5;have x7:=jH h;have y2:=jH (Inf.Gr.refl P);have HO:=jH ho;have HQ:=jH hq;obtain⟨y4,y5,c0,_,_,_⟩:=h.err;rw[h5]at c0;have x5:=h.lt;have v3:=jH (jAv h hq ho hl hk h6 (by omega));have k7:=jH U;obtain⟨na,ka,nc,kc,hv⟩:=h.tm.part hq;have HV:=jH hv;obtain⟨qk,Y,qw,qn,v6,v9⟩:=q;have x8:=jzI (qk:Nat) (Y:Nat) (qw:Nat) qn na ka v6.length nc v9.length kc;clear h ho hq h5 hl hk U hv
 go_enter Tryz.func119,Tryz.ntmps119
 go_upto_region 2 with(go_at_call 118;refine v3.o.mono ?_;rintro _ w1 ⟨k2,Z,zs,κ1,rfl,B⟩;have F:=B.st;have x1:=F.lt;obtain⟨x9,x6,c1,_,_,_⟩:=F.err;rw[O.o]at c1;have E:=jH B;have K:l.take l.length=l:=Yw jN;rw[K]at F;have r3:=jH F;have h7:=B.gr;rw[K]at h7;have r6:=jH h7;have v5:=jH B.fr;have h9:=B.val;rw[K]at h9;have v2:=jH h9;clear B F h7 K h9)
 go_upto_region 3 with(go_at_call 68;refine(jp8 r3.o (by omega) 0 (KS.nil _) (by simp) (xs:=[]) (fun _=>⟨rfl,fun a ha=>by cases ha⟩) (fun _=>rfl)).mono ?_;rintro _ w2 ⟨κ2,z2,rfl,k5,I,h0,k8⟩;obtain⟨y0,y1,c2,_,_,_⟩:=I.err;rw[O.o]at c2;have x2:=I.lt;have h8:=jH k5;have q9:=jH I;have r9:=jH (r6.o.trans h0);have r4:=jH h0;clear k5 I h0;have q7:=jH k8;clear k8)
 have q6:=jH (jn7 q9.o.tm HV.o);rw[O.o]at q6
 have v1:=jH (show ∃z H,zs=z ::H/\H.length+1=l.length from by
  have:=E.o.len
  cases zs with
  |nil=>have:=k7.o;simp at *;omega
  |cons z H=>exact⟨z,H,rfl,by simpa using this⟩)
 obtain⟨z,H,h1,h4⟩:=v1.o
 have q4:=jH (show w2.ownsRow 0 3 1 (.slice k2 l.length Z) (H.length+1) (iV (z ::H))from by
  rw[h4,<-h1]
  exact jvs (j3 E.o.row (fun b hb=>h8.o.rest b (E.o.row.lt b hb).2 (fun t ht=>by rw[E.o.tag b hb]at ht;cases ht))))
 have v8:=jH (show ∀b,(Value.slice k2 l.length Z).ownBlock=some b->κ2 b=none from fun b hb=>(h8.o.old b (E.o.row.lt b hb).2).trans (E.o.tag b hb));have k4:=jH h4;have r7:=jH h1;clear h4 h1
 have v7:=jH (show ∀W,Below w2.heap.size w2 W->Calls Tryz.prog 116 #[.pointer (some ⟨c.wb,0,none⟩),.slice k2 l.length Z,.int .i64 z2,.int .i64 (Y:Nat)] W (VP c κ2 W ((Inf.pWs l o P).2.add 0 []) ((((Inf.pWs l o P).2.add 0 []).add 6 ((Inf.pWs l o P).1.tail ++[(Inf.pWs l o P).2.n])).dem ((Inf.pWs l o P).1.headD 0) ((Inf.pWs l o P).2.add 0 []).n (Y:Nat)) (N+16*Inf.szs (l.take l.length)+1+1))from fun W hW=>jzh (q9.o.on hW |>.mono (by rw[Yw jN];omega)) (j3 q4.o (fun b hb=>hW.block b (q4.o.lt b hb).2)) v8.o (by have:=k4.o;have:=k7.o;omega) (by have:=k4.o;omega) z2 (Y:Nat) (by rw[Yw jN];omega) (fun hr=>by
  obtain⟨r1,n1,_⟩:=r4.o hr;obtain⟨R,l1⟩:=v2.o r1;obtain⟨e2,l2⟩:=q7.o hr;have x0:((Inf.pWs l o P).2.add 0 []).n=(Inf.pWs l o P).2.n+1:=by rw[Inf.add_run r1];unfold Inf.PS.n;simp
  rw[r7.o]at R
  cases hv :(Inf.pWs l o P).1 with
  |nil=>rw[hv]at R;cases R
  |cons u r=>
   rw[hv]at R l1;rw[Kt]at R;injection R with e3 e4
   refine⟨e3,?_,e4,fun a ha=>?_,e2,by omega⟩
   .have:=l1 u (by simp);show u<_;omega
   .have:=l1 a (Yv _ ha);omega))
 go_wp2_with (first
  |(go_at_call 91;refine q6.o.mono ?_;rintro _ y3 ⟨rfl,q8⟩;have r2:=jH q8;clear q8)
  |(go_at_call 116;refine(v7.o _ r2.o).mono ?_;rintro _ w3 ⟨rfl,κ3,q5,A,C⟩;obtain⟨x3,y6,c3,_,_,_⟩:=A.err;rw[O.o]at c3;have x4:=A.lt;have r8:=jH q5;have v4:=jH A;have v0:=jH (r9.o.trans C);have r5:=jH C;clear q5 A C))
 go_returns
 have eP:((((Inf.pWs l o P).2.add 0 []).add 6 ((Inf.pWs l o P).1.tail ++[(Inf.pWs l o P).2.n])).dem ((Inf.pWs l o P).1.headD 0) ((Inf.pWs l o P).2.add 0 []).n (Y:Nat))=((((Inf.pWs l o P).2.add 0 []).add 6 ((Inf.pWs l o P).1.tail ++[(Inf.pWs l o P).2.n])).dem ((Inf.pWs l o P).1.headD 0) ((Inf.pWs l o P).2.n+1) (Y:Nat)):=by
  cases hs :(Inf.pWs l o P).2.st with
  |some u=>rw[Inf.add_stop hs,Inf.add_stop hs,Inf.dem_stop hs,Inf.dem_stop hs]
  |none=>
   have:((Inf.pWs l o P).2.add 0 []).n=(Inf.pWs l o P).2.n+1:=by rw[Inf.add_run hs];unfold Inf.PS.n;simp
   rw[this]
 have A:=v4.o;have C:=v0.o;have k9:=r5.o;rw[eP]at A C k9;refine⟨κ3,z2,rfl,(((((Fr.refl SW κ w).trans v5.o).trans h8.o).trans (Fr.of r2.o)).trans r8.o),A.mono (by rw[Yw jN];omega),C,fun hr=>?_⟩;have h3:=k9 hr;have U:=q7.o h3.1;exact⟨U.1,Yj U.2 h3.2.1⟩
theorem NP.back {w':World}{B:Inf.PS}{A t:Nat}{e:Ending}(C:Below w.heap.size w W) (h:NP c κ W P B A t e w'):NP c κ w P B A t e w':=by
 obtain⟨F,z,H,I,E⟩:=h;exact⟨F,z,H,(Fr.of C).trans I,E⟩
theorem NP.mono {c:Wc}{w w':World}{κ:Kp}{P C:Inf.PS}{B A t:Nat}{e:Ending}(h:NP c κ w P C B t e w') (E:B<=A):NP c κ w P C A t e w':=by
 obtain⟨H,z,K,O,F,I⟩:=h;exact⟨H,z,K,O,F.mono E,I⟩
set_option maxRecDepth 100000 in
theorem jHS {b d:Inf.X}(h:ST c w κ P N) (Y:c.ps[i]? =some q) (ho:P.st=none->-1<=o/\o<(P.bs.length:Nat)) (U:q.k=24) (d0:KD c i q 0 k0 a) (d1:KD c i q 1 k1 b) {k2:Nat}(d2:KD c i q 2 k2 d) (hN:N+16+16*(Inf.sz a+Inf.sz b+Inf.sz d)<=90000) :
 Calls Tryz.prog 108 #[.pointer (some ⟨c.wb,0,none⟩),.int .i64 (i:Nat),.int .i64 o] w (NP c κ w P (((Inf.pW d o (Inf.pP 1 b o (Inf.pE a o P).2)).2.dem (Inf.pW d o (Inf.pP 1 b o (Inf.pE a o P).2)).1 P.n d.p).add 3 []) (N+16+16*(Inf.sz a+Inf.sz b+Inf.sz d)) ((Inf.pW d o (Inf.pP 1 b o (Inf.pE a o P).2)).2.dem (Inf.pW d o (Inf.pP 1 b o (Inf.pE a o P).2)).1 P.n d.p).n):=by
 obtain⟨pa,pn,pc,I⟩:=h.tm.pvs;have B:=jH I;have C:=jH h;have r2:=jH (Inf.Gr.refl P);have HO:=jH ho;have HQ:=jH Y;obtain⟨x3,x4,c0,_,_,_⟩:=h.err;rw[I]at c0;have v3:=h.lt;obtain⟨na,ka,nc,kc,hv⟩:=h.tm.part Y;have HV:=jH hv;have CP:=jH (jn7 h.tm hv);rw[I]at CP;obtain⟨qk,qa,qw,qn,q7,r3⟩:=q;simp only at U;subst U;have v7:=jrr 24 (qa:Nat) (qw:Nat) qn na ka q7.length nc r3.length kc;have D0:=jH d0;have D1:=jH d1;have D2:=jH d2;clear h ho Y I d0 d1 d2
 go_enter Tryz.func108,Tryz.ntmps108
 go_upto_region 2 with(go_at_call 91;refine CP.o.mono ?_;rintro _ wp ⟨rfl,A⟩;obtain⟨v4,x0,cp,_,_,_⟩:=(C.o.on A).err;rw[B.o]at cp;have r7:=(C.o.on A).lt;have k7:=jH A;have C:=jH (C.o.on A);clear A)
 have q9:=jH (jzj (a:=a) (b:=b) C.o HQ.o HO.o D0.o D1.o (by omega))
 go_upto_region 11 with(go_at_call 120;refine q9.o.mono ?_;rintro _ w1 ⟨κ1,z1,rfl,h5,H,R,h9⟩;obtain⟨v8,v6,c1,_,_,_⟩:=H.err;rw[B.o]at c1;have r5:=H.lt;have q6:=jH h5;have Z:=jH H;have h4:=jH (r2.o.trans R);have r9:=jH R;clear h5 H R;have r4:=jH h9;clear h9)
 have k4:=jH (joP Z.o.tm HQ.o D2.o (z:=2) rfl);rw[B.o]at k4
 go_upto_region 12 with(first
  |(go_at_call 106;refine k4.o.mono ?_;rintro _ x1 ⟨rfl,h7⟩;have h8:=jH h7;clear h7)
  |(go_at_call 69;refine(jrn (b:=P.n) D2.o.wc (Z.o.on h8.o) D2.o.xa ?_ (by omega) ?_).mono ?_;(intro hr;have h1:=h4.o hr;have h2:=HO.o h1.1;omega);(exact r4.o);rintro _ w2 ⟨rfl,κ2,h0,E,O⟩;obtain⟨v9,x2,c2,_,_,_⟩:=E.err;rw[B.o]at c2;have v0:=E.lt;have q5:=jH h0;have q8:=jH E;have k8:=jH (h4.o.trans O);have r6:=jH O;clear h0 E O))
 go_wp2_with (go_at_call 68;refine(jp8 q8.o (by omega) 3 (KS.nil _) (by simp) (xs:=[]) (fun _=>⟨rfl,fun a ha=>by cases ha⟩) (fun _=>rfl)).mono ?_;rintro _ w3 ⟨κ3,z3,rfl,h6,F,K,h3⟩;obtain⟨v1,v5,c3,_,_,_⟩:=F.err;rw[B.o]at c3;have v2:=F.lt;have k5:=jH h6;have q4:=jH F;have k9:=jH (k8.o.trans K);have r8:=jH K;clear h6 F K;have r1:=jH h3;clear h3)
 go_returns;exact⟨κ3,z3,rfl,(((((Fr.of k7.o).trans q6.o).trans (Fr.of h8.o)).trans q5.o).trans k5.o),q4.o.mono (by omega),k9.o,r1.o⟩
set_option maxRecDepth 100000 in
theorem jHV {b:Inf.X}(h:ST c w κ P N) (I:c.ps[i]? =some q) (U:P.st=none->-1<=o/\o<(P.bs.length:Nat)) (H:q.k=20) (Z:KD c i q 0 k0 a) (Y:KD c i q 1 k1 b) (hN:N+16+16*(Inf.sz a+Inf.sz b)<=90000) :
 Calls Tryz.prog 108 #[.pointer (some ⟨c.wb,0,none⟩),.int .i64 (i:Nat),.int .i64 o] w (NP c κ w P (Inf.pP 1 b o (Inf.pE a o P).2) (N+16+16*(Inf.sz a+Inf.sz b)) P.n):=by
 obtain⟨pa,pn,pc,E⟩:=h.tm.pvs;have R:=jH E;have A:=jH h;have h6:=jH (Inf.Gr.refl P);have HO:=jH U;have HQ:=jH I;obtain⟨q5,q6,c0,_,_,_⟩:=h.err;rw[E]at c0;have k9:=h.lt;obtain⟨na,ka,nc,kc,hv⟩:=h.tm.part I;have HV:=jH hv;have CP:=jH (jn7 h.tm hv);rw[E]at CP;obtain⟨qk,qa,qw,qn,h3,h7⟩:=q;simp only at H;subst H;have k5:=jrr 20 (qa:Nat) (qw:Nat) qn na ka h3.length nc h7.length kc;have D0:=jH Z;have D1:=jH Y;clear h U I E Z Y
 go_enter Tryz.func108,Tryz.ntmps108
 go_upto_region 2 with(go_at_call 91;refine CP.o.mono ?_;rintro _ wp ⟨rfl,B⟩;obtain⟨q4,k8,cp,_,_,_⟩:=(A.o.on B).err;rw[R.o]at cp;have k2:=(A.o.on B).lt;have h5:=jH B;have A:=jH (A.o.on B);clear B)
 have h4:=jH (jzj (a:=a) (b:=b) A.o HQ.o HO.o D0.o D1.o (by omega))
 go_wp2_with (go_at_call 120;refine h4.o.mono ?_;rintro _ w1 ⟨κ1,z1,rfl,K,C,F,O⟩;obtain⟨k7,q7,c1,_,_,_⟩:=C.err;rw[R.o]at c1;have h9:=C.lt;have h2:=jH K;have h0:=jH C;have h1:=jH (h6.o.trans F);have k4:=jH F;clear K C F;have h8:=jH O;clear O)
 go_returns;exact⟨κ1,z1,rfl,((Fr.of h5.o).trans h2.o),h0.o.mono (by omega),h1.o,h8.o⟩
set_option maxRecDepth 100000 in
theorem jHX {b:Inf.X}(h:ST c w κ P N) (hq:c.ps[i]? =some q) (ho:P.st=none->-1<=o/\o<(P.bs.length:Nat)) (Z:q.k=23) (d0:KD c i q 0 k0 a) (d1:KD c i q 1 k1 b) (hN:N+16+16*(Inf.sz a+Inf.sz b)<=90000) :
 Calls Tryz.prog 108 #[.pointer (some ⟨c.wb,0,none⟩),.int .i64 (i:Nat),.int .i64 o] w (NP c κ w P ((Inf.pW b o (Inf.pP 1 a o P)).2.add 4 [(Inf.pW b o (Inf.pP 1 a o P)).1]) (N+16+16*(Inf.sz a+Inf.sz b)) (Inf.pW b o (Inf.pP 1 a o P)).2.n):=by
 obtain⟨pa,pn,pc,K⟩:=h.tm.pvs;have A:=jH K;have B:=jH h;have k5:=jH (Inf.Gr.refl P);have HO:=jH ho;have HQ:=jH hq;obtain⟨x5,x6,c0,_,_,_⟩:=h.err;rw[K]at c0;have v5:=h.lt;obtain⟨na,ka,nc,kc,hv⟩:=h.tm.part hq;have HV:=jH hv;have CP:=jH (jn7 h.tm hv);rw[K]at CP;obtain⟨qk,qa,qw,qn,r2,r5⟩:=q;simp only at Z;subst Z;have v9:=jrr 23 (qa:Nat) (qw:Nat) qn na ka r2.length nc r5.length kc;have D0:=jH d0;have D1:=jH d1;clear h ho hq K d0 d1
 go_enter Tryz.func108,Tryz.ntmps108
 go_upto_region 2 with(go_at_call 91;refine CP.o.mono ?_;rintro _ wp ⟨rfl,C⟩;obtain⟨v6,x2,cp,_,_,_⟩:=(B.o.on C).err;rw[A.o]at cp;have r9:=(B.o.on C).lt;have q4:=jH C;have B:=jH (B.o.on C);clear C)
 have h9:=jH (joP B.o.tm HQ.o D0.o (z:=0) rfl);rw[A.o]at h9
 go_upto_region 15 with(first
  |(go_at_call 106;refine h9.o.mono ?_;rintro _ r6 ⟨rfl,E⟩;have k2:=jH E;clear E)
  |(go_at_call 33;refine(jrZ (k:=1) (z:=1) D0.o.wc (B.o.on k2.o) D0.o.xa ?_ rfl (by omega)).mono ?_;(intro Y;have h1:=k5.o Y;have h2:=HO.o h1.1;omega);rintro _ w1 ⟨rfl,κ1,h7,I,U⟩;obtain⟨x0,v8,c1,_,_,_⟩:=I.err;rw[A.o]at c1;have r7:=I.lt;have r1:=jH h7;have h0:=jH I;have h6:=jH (k5.o.trans U);have v1:=jH U;clear h7 I U))
 have k7:=jH (joP h0.o.tm HQ.o D1.o (z:=1) rfl);rw[A.o]at k7
 go_upto_region 16 with(first
  |(go_at_call 106;refine k7.o.mono ?_;rintro _ x3 ⟨rfl,E⟩;have k4:=jH E;clear E)
  |(go_at_call 89;refine(D1.o.wc _ _ _ _ _ _ (h0.o.on k4.o) D1.o.xa ?_ (by omega)).mono ?_;(intro Y;have h1:=h6.o Y;have h2:=HO.o h1.1;omega);rintro _ w2 ⟨κ2,z2,rfl,h3,F,R,h5⟩;obtain⟨x1,x4,c2,_,_,_⟩:=F.err;rw[A.o]at c2;have v2:=F.lt;have q9:=jH h3;have r3:=jH F;have q5:=jH (h6.o.trans R);have r8:=jH R;clear h3 F R;have q7:=jH h5;clear h5))
 have k9:=jH (jp8 (r3.o.on (jB.alloc jN (.cells #[.int .i64 z2] 3 (0,0)))) (by omega) 4 (KS.one w2 z2) (by simp) (xs:=[(Inf.pW b o (Inf.pP 1 a o P)).1]) (fun Y=>by
  obtain⟨e,l⟩:=q7.o Y;subst e
  exact⟨rfl,fun a ha=>by rw[Kf]at ha;subst ha;exact l⟩) (fun e=>by cases e))
 go_wp2_with (go_at_call 68;refine k9.o.mono ?_;rintro _ w3 ⟨κ3,z3,rfl,h8,H,O,h4⟩;obtain⟨v3,v7,c3,_,_,_⟩:=H.err;rw[A.o]at c3;have v4:=H.lt;have k8:=jH h8;have q8:=jH H;have q6:=jH (q5.o.trans O);have v0:=jH O;clear h8 H O;have r4:=jH h4;clear h4)
 go_returns;exact⟨κ3,z3,rfl,(((((((Fr.of q4.o).trans (Fr.of k2.o)).trans r1.o).trans (Fr.of k4.o)).trans q9.o).trans (Fr.of (jB.alloc jN _))).trans k8.o),q8.o.mono (by omega),q6.o,r4.o⟩
set_option maxRecDepth 100000 in
theorem jHU (h:ST c w κ P N) (R:c.ps[i]? =some q) (ho:P.st=none->-1<=o/\o<(P.bs.length:Nat)) (O:q.k=22) (d0:KD c i q 0 k0 a) (hN:N+16+16*(Inf.sz a)<=90000) :
 Calls Tryz.prog 108 #[.pointer (some ⟨c.wb,0,none⟩),.int .i64 (i:Nat),.int .i64 o] w (NP c κ w P ((Inf.pE a o P).2.add 1 []) (N+16+16*(Inf.sz a)) (Inf.pE a o P).2.n):=by
 obtain⟨pa,pn,pc,H⟩:=h.tm.pvs;have E:=jH H;have A:=jH h;have h5:=jH (Inf.Gr.refl P);have HO:=jH ho;have HQ:=jH R;obtain⟨v1,v2,c0,_,_,_⟩:=h.err;rw[H]at c0;have r2:=h.lt;obtain⟨na,ka,nc,kc,hv⟩:=h.tm.part R;have HV:=jH hv;have CP:=jH (jn7 h.tm hv);rw[H]at CP;obtain⟨qk,qa,qw,qn,k8,q4⟩:=q;simp only at O;subst O;have r5:=jrr 22 (qa:Nat) (qw:Nat) qn na ka k8.length nc q4.length kc;have D0:=jH d0;clear h ho R H d0
 go_enter Tryz.func108,Tryz.ntmps108
 go_upto_region 2 with(go_at_call 91;refine CP.o.mono ?_;rintro _ wp ⟨rfl,B⟩;obtain⟨r3,r8,cp,_,_,_⟩:=(A.o.on B).err;rw[E.o]at cp;have q8:=(A.o.on B).lt;have h9:=jH B;have A:=jH (A.o.on B);clear B)
 have h0:=jH (joP A.o.tm HQ.o D0.o (z:=0) rfl);rw[E.o]at h0
 go_upto_region 19 with(first
  |(go_at_call 106;refine h0.o.mono ?_;rintro _ q5 ⟨rfl,h4⟩;have h3:=jH h4;clear h4)
  |(go_at_call 121;refine(jzi  D0.o.wc (A.o.on h3.o) D0.o.xa ?_ (by omega)).mono ?_;(intro hr;have h1:=h5.o hr;have h2:=HO.o h1.1;omega);rintro _ w1 ⟨κ1,z1,rfl,Z,F,K,h6⟩;obtain⟨r6,r4,c1,_,_,_⟩:=F.err;rw[E.o]at c1;have q6:=F.lt;have k7:=jH Z;have h7:=jH F;have h8:=jH (h5.o.trans K);have q9:=jH K;clear Z F K;have v0:=jH h6;clear h6))
 go_wp2_with (go_at_call 68;refine(jp8 h7.o (by omega) 1 (KS.nil _) (by simp) (xs:=[]) (fun _=>⟨rfl,fun a ha=>by cases ha⟩) (fun _=>rfl)).mono ?_;rintro _ w2 ⟨κ2,z2,rfl,U,C,I,Y⟩;obtain⟨r7,r9,c2,_,_,_⟩:=C.err;rw[E.o]at c2;have r1:=C.lt;have k5:=jH U;have k9:=jH C;have k2:=jH (h8.o.trans I);have q7:=jH I;clear U C I;have k4:=jH Y;clear Y)
 go_returns;exact⟨κ2,z2,rfl,((((Fr.of h9.o).trans (Fr.of h3.o)).trans k7.o).trans k5.o),k9.o.mono (by omega),k2.o,k4.o⟩
set_option maxRecDepth 100000 in
theorem jHR (h:ST c w κ P N) (U:c.ps[i]? =some q) (Z:P.st=none->-1<=o/\o<(P.bs.length:Nat)) (R:q.k=7) (Y:q.ks.length=l.length) (hk:∀j x,l[j]? =some x->∃kd,KD c i q j kd x) (h6:l.length<=6)  (hN:N+16+16*Inf.szs l<=90000) :
 Calls Tryz.prog 108 #[.pointer (some ⟨c.wb,0,none⟩),.int .i64 (i:Nat),.int .i64 o] w (NP c κ w P ((Inf.pWs l o P).2.add 5 (Inf.pWs l o P).1) (N+16+16*Inf.szs l) (Inf.pWs l o P).2.n):=by
 obtain⟨pa,pn,pc,H⟩:=h.tm.pvs;have k4:=jH H;have C:=jH h;have r3:=jH (Inf.Gr.refl P);have HO:=jH Z;have HQ:=jH U;obtain⟨r4,r5,c0,_,_,_⟩:=h.err;rw[H]at c0;have q8:=h.lt;obtain⟨na,ka,nc,kc,hv⟩:=h.tm.part U;have HV:=jH hv;have CP:=jH (jn7 h.tm hv);rw[H]at CP;obtain⟨qk,qa,qw,qn,k9,q4⟩:=q;simp only at R;subst R;have r1:=jrr 7 (qa:Nat) (qw:Nat) qn na ka k9.length nc q4.length kc;have HL:=jH Y;have HK:=jH hk;clear h Z U H Y hk hv
 go_enter Tryz.func108,Tryz.ntmps108
 go_upto_region 2 with(go_at_call 91;refine CP.o.mono ?_;rintro _ wp ⟨rfl,B⟩;obtain⟨q9,r2,cp,_,_,_⟩:=(C.o.on B).err;rw[k4.o]at cp;have q7:=(C.o.on B).lt;have h9:=jH B;have C:=jH (C.o.on B);clear B)
 have k7:=jH (jAv C.o HQ.o HO.o HL.o HK.o h6 (by omega))
 go_upto_region 4 with(go_at_call 118;refine k7.o.mono ?_;rintro _ w1 ⟨q5,h1,zs,κ1,rfl,A⟩;have F:=A.st;have q6:=F.lt;have I:=jH A;have E:l.take l.length=l:=Yw jN;rw[E]at F;have h0:=jH F;have K:=A.gr;rw[E]at K;have h7:=jH K;have k8:=jH A.fr;have O:=A.val;rw[E]at O;have k5:=jH O;clear A F K E O)
 have h4:=jH (show KS w1 (.slice q5 l.length h1) zs from KS.app (b:=0) (by rw[I.o.len];exact jvs I.o.row));have h8:=jH (jp8 h0.o (by omega) 5 h4.o (by rw[I.o.len];omega) (xs:=(Inf.pWs l o P).1) k5.o (fun e=>by cases e))
 go_wp2_with (go_at_call 68;refine h8.o.mono ?_;rintro _ w2 ⟨κ2,z2,rfl,h2,h3,k2,h5⟩)
 go_returns;exact⟨κ2,z2,rfl,((Fr.of h9.o).trans k8.o).trans h2,h3.mono (by omega),h7.o.trans k2,h5⟩
set_option maxRecDepth 100000 in
theorem jHW (h:ST c w κ P N) (F:c.ps[i]? =some q) (I:P.st=none->-1<=o/\o<(P.bs.length:Nat)) (E:q.k=19) (K:q.ks.length=l.length) (hk:∀j x,l[j]? =some x->∃kd,KD c i q j kd x) (R:l.length<=6) (H:2<=l.length)  (hN:N+16+16*Inf.szs l<=90000) :
 Calls Tryz.prog 108 #[.pointer (some ⟨c.wb,0,none⟩),.int .i64 (i:Nat),.int .i64 o] w (NP c κ w P ((((Inf.pWs l o P).2.add 0 []).add 6 ((Inf.pWs l o P).1.tail ++[(Inf.pWs l o P).2.n])).dem ((Inf.pWs l o P).1.headD 0) ((Inf.pWs l o P).2.n+1) (q.a:Nat)) (N+16+16*Inf.szs l) (Inf.pWs l o P).2.n):=by
 obtain⟨pa,pn,pc,C⟩:=h.tm.pvs;have h5:=jH C;have A:=jH h;have k5:=jH (Inf.Gr.refl P);have HO:=jH I;have HQ:=jH F;obtain⟨k7,k8,c0,_,_,_⟩:=h.err;rw[C]at c0;have k2:=h.lt;obtain⟨na,ka,nc,kc,O⟩:=h.tm.part F;have HV:=jH O;have CP:=jH (jn7 h.tm O);rw[C]at CP;obtain⟨qk,qa,qw,qn,h0,h4⟩:=q;simp only at E;subst E;have h8:=jrr 19 (qa:Nat) (qw:Nat) qn na ka h0.length nc h4.length kc;have HL:=jH K;have HK:=jH hk;have H2:=jH H;clear h I F C K hk O H
 go_enter Tryz.func108,Tryz.ntmps108
 go_upto_region 2 with(go_at_call 91;refine CP.o.mono ?_;rintro _ wp ⟨rfl,B⟩;obtain⟨k4,h9,cp,_,_,_⟩:=(A.o.on B).err;rw[h5.o]at cp;have h7:=(A.o.on B).lt;have h1:=jH B;have A:=jH (A.o.on B);clear B)
 have CC:=jH (jIA A.o HQ.o HO.o HL.o HK.o R H2.o (by omega))
 go_wp2_with (go_at_call 119;refine CC.o.mono ?_;rintro _ w2 ⟨κ2,z2,rfl,U,Y,h3,Z⟩)
 go_returns;exact⟨κ2,z2,rfl,(Fr.of h1.o).trans U,Y.mono (by omega),h3,Z⟩
set_option maxRecDepth 100000 in
theorem jHT (h:ST c w κ P N) (F:c.ps[i]? =some q) (H:P.st=none->-1<=o/\o<(P.bs.length:Nat)) (E:q.k=21) (I:q.ks.length=l.length) (hk:∀j x,l[j]? =some x->∃kd,KD c i q j kd x) (O:l.length<=6)  (hN:N+16+16*Inf.szs l<=90000) :
 Calls Tryz.prog 108 #[.pointer (some ⟨c.wb,0,none⟩),.int .i64 (i:Nat),.int .i64 o] w (NP c κ w P ((Inf.pPl 1 l o P).add 3 []) (N+16+16*Inf.szs l) (Inf.pPl 1 l o P).n):=by
 obtain⟨pa,pn,pc,C⟩:=h.tm.pvs;have h3:=jH C;have A:=jH h;have k4:=jH (Inf.Gr.refl P);have HO:=jH H;have HQ:=jH F;obtain⟨k5,k7,c0,_,_,_⟩:=h.err;rw[C]at c0;have h8:=h.lt;obtain⟨na,ka,nc,kc,K⟩:=h.tm.part F;have HV:=jH K;have CP:=jH (jn7 h.tm K);rw[C]at CP;obtain⟨qk,qa,qw,qn,Z,h2⟩:=q;simp only at E;subst E;have h5:=jrr 21 (qa:Nat) (qw:Nat) qn na ka Z.length nc h2.length kc;have HL:=jH I;have HK:=jH hk;clear h H F C I hk K
 go_enter Tryz.func108,Tryz.ntmps108
 go_upto_region 2 with(go_at_call 91;refine CP.o.mono ?_;rintro _ wp ⟨rfl,B⟩;obtain⟨h9,h7,cp,_,_,_⟩:=(A.o.on B).err;rw[h3.o]at cp;have h4:=(A.o.on B).lt;have h0:=jH B;have A:=jH (A.o.on B);clear B)
 have CC:=jH (jvt A.o HQ.o HO.o HL.o HK.o O (k:=1) (k2:=3) (z:=1) (z2:=3) rfl rfl (by omega))
 go_wp2_with (go_at_call 107;refine CC.o.mono ?_;rintro _ w2 ⟨κ2,z2,rfl,R,U,h1,Y⟩)
 go_returns;exact⟨κ2,z2,rfl,(Fr.of h0.o).trans R,U.mono (by omega),h1,Y⟩
theorem jBa (h:ST c w κ P N) {u:Bool × Int}(hs:P.st=some u) (i o:Int) :
 Calls Tryz.prog 89 #[.pointer (some ⟨c.wb,0,none⟩),.int .i64 i,.int .i64 o] w fun e w'=>e= .returned (.int .i64 (-1))/\w'=w:=by
 obtain⟨er,a,_,F,_,he⟩:=h.err;have E:=h.lt
 have C:(er != 0)=true:=by
  rcases he with⟨A,_⟩|⟨v,p,A,B,_⟩
  .rw[A]at hs;cases hs
  .have:=jtU v
   rw[<-B]at this;simpa using this
 clear h hs he
 go_enter Tryz.func89,Tryz.ntmps89
 go_wp2
 go_returns;exact⟨rfl,rfl⟩
inductive Dsp (c:Wc) (i:Nat) (q:CP) (na ka:Option Addr) (nc kc:Nat) (o:Int):Nat->Array Value->Prop where
 |dnum (h:q.k=1\/q.k=4):Dsp c i q na ka nc kc o 68 #[.pointer (some ⟨c.wb,1,none⟩),.int .i64 1,.slice none 0 0]
 |dtruth (h:q.k=2\/q.k=3):Dsp c i q na ka nc kc o 68 #[.pointer (some ⟨c.wb,1,none⟩),.int .i64 2,.slice none 0 0]
 |dunit (h:q.k=6):Dsp c i q na ka nc kc o 68 #[.pointer (some ⟨c.wb,1,none⟩),.int .i64 3,.slice none 0 0]
 |dname (h:q.k=5):Dsp c i q na ka nc kc o 101 #[.pointer (some ⟨c.wb,0,none⟩),.agg #[.int .i64 (q.k:Nat),.int .i64 (q.a:Nat),.int .i64 (q.wd:Nat),.int .i64 q.nm,.slice na q.ns.length nc,.slice ka q.ks.length kc],.int .i64 o]
 |dlet (h:q.k=8\/q.k=10):Dsp c i q na ka nc kc o 102 #[.pointer (some ⟨c.wb,0,none⟩),.int .i64 (i:Nat),.int .i64 o]
 |drec (h:q.k=9):Dsp c i q na ka nc kc o 103 #[.pointer (some ⟨c.wb,0,none⟩),.int .i64 (i:Nat),.int .i64 o]
 |dfun (h:q.k=12):Dsp c i q na ka nc kc o 104 #[.pointer (some ⟨c.wb,0,none⟩),.int .i64 (i:Nat),.int .i64 o]
 |dif (h:q.k=11):Dsp c i q na ka nc kc o 105 #[.pointer (some ⟨c.wb,0,none⟩),.int .i64 (i:Nat),.int .i64 o]
 |dop (h:q.k=13\/q.k=15\/q.k=16):Dsp c i q na ka nc kc o 107 #[.pointer (some ⟨c.wb,0,none⟩),.int .i64 (i:Nat),.int .i64 o,.int .i64 1,.int .i64 1]
 |dnot (h:q.k=14):Dsp c i q na ka nc kc o 107 #[.pointer (some ⟨c.wb,0,none⟩),.int .i64 (i:Nat),.int .i64 o,.int .i64 2,.int .i64 2]
 |dcmp (h:q.k=17):Dsp c i q na ka nc kc o 107 #[.pointer (some ⟨c.wb,0,none⟩),.int .i64 (i:Nat),.int .i64 o,.int .i64 1,.int .i64 2]
 |dcp (h:q.k=7\/q.k=19\/q.k=20\/q.k=21\/q.k=22\/q.k=23\/q.k=24):Dsp c i q na ka nc kc o 108 #[.pointer (some ⟨c.wb,0,none⟩),.int .i64 (i:Nat),.int .i64 o]
set_option maxRecDepth 100000 in
theorem jJE {F:Nat}{Z:Array Value}{P':Inf.PS}{N' t:Nat}(h:ST c w κ P N) (hv:PtV c i q na ka nc kc) (hr:P.st=none) (A:Dsp c i q na ka nc kc o F Z)
 (Y:∀W,Below w.heap.size w W->Calls Tryz.prog F Z W (NP c κ W P P' N' t)) :
 Calls Tryz.prog 89 #[.pointer (some ⟨c.wb,0,none⟩),.int .i64 (i:Nat),.int .i64 o] w (NP c κ w P P' N' t):=by
 obtain⟨pa,pn,pc,E⟩:=h.tm.pvs;have CP:=jH (jn7 h.tm hv);rw[E]at CP;have CH:=jH Y;obtain⟨h6,k4,c0,c3,_,he⟩:=h.err;rw[E]at c0;have h5:=h.lt
 have h2:h6=0:=by
  rcases he with⟨_,I,_⟩|⟨u,p,I,_⟩
  .exact I
  .rw[hr]at I;cases I
 subst h2;clear h hv hr Y E he
 rcases A with⟨A|A⟩|⟨A|A⟩|⟨A⟩|⟨A⟩|⟨A|A⟩|⟨A⟩|⟨A⟩|⟨A⟩|⟨A|A|A⟩|⟨A⟩|⟨A⟩|⟨A|A|A|A|A|A|A⟩
 all_goals
  obtain⟨qk,qa,qw,qn,h8,k2⟩:=q;simp only at A;subst A
  go_enter Tryz.func89,Tryz.ntmps89
  go_upto_region 4 with(go_at_call 91;refine CP.o.mono ?_;rintro _ h0 ⟨rfl,U⟩;have R:=jH U;clear U)
  generalize hWW:World.alloc _ _=V;obtain⟨K,C⟩:=jmo hWW;have H:=jH (R.o.trans (K.mono R.o.size));have h9:=Yj h5 H.o.size
  obtain⟨B,O⟩:∃B,h0.heap.size=B:=⟨_,rfl⟩
  rw[O]at C ⊢;have e0:=ja C 0 rfl;have e1:=ja C 1 rfl;have e2:=ja C 2 rfl;have e3:=ja C 3 rfl;have e4:=ja C 4 rfl;have e5:=ja C 5 rfl;have h7:=jb C;clear hWW K C O c0 c3
  go_wp2_with ((first|go_at_call 68|go_at_call 101|go_at_call 102|go_at_call 103|go_at_call 104|go_at_call 105|go_at_call 107|go_at_call 108);refine(CH.o _ H.o).mono ?_;rintro _ w2 ⟨κ2,z2,rfl,h3,h4⟩)
  go_returns;exact⟨κ2,z2,rfl,(Fr.of H.o).trans h3,h4⟩
set_option maxRecDepth 100000 in
theorem jAZ {b:Inf.X}(h:ST c w κ P N) (hv:PtV c i q na ka nc kc) (F:P.st=none) (Z:q.k=18) (ho:P.st=none->-1<=o/\o<(P.bs.length:Nat)) (d0:KD c i q 0 k0 a) (d1:KD c i q 1 k1 b) (hN:N+16+16*(Inf.sz a+Inf.sz b)<=90000) :
 Calls Tryz.prog 89 #[.pointer (some ⟨c.wb,0,none⟩),.int .i64 (i:Nat),.int .i64 o] w (NP c κ w P (Inf.pW b o (Inf.pP 3 a o P)).2 (N+16+16*(Inf.sz a+Inf.sz b)) (Inf.pW b o (Inf.pP 3 a o P)).1):=by
 obtain⟨pa,pn,pc,R⟩:=h.tm.pvs;have I:=jH R;have CP:=jH (jn7 h.tm hv);rw[R]at CP;have q4:=jH (Inf.Gr.refl P);have HO:=jH ho;have HQ:=jH hv.at';obtain⟨r4,v9,c0,c3,_,he⟩:=h.err;rw[R]at c0;have h8:=h.lt
 have q6:r4=0:=by
  rcases he with⟨_,E,_⟩|⟨u,p,E,_⟩
  .exact E
  .rw[F]at E;cases E
 subst q6;have q8:=jH h;have D0:=jH d0;have D1:=jH d1;obtain⟨qk,qa,qw,qn,v5,v8⟩:=q;simp only at Z;subst Z;clear h hv F R he d0 d1 ho
 go_enter Tryz.func89,Tryz.ntmps89
 go_upto_region 4 with(go_at_call 91;refine CP.o.mono ?_;rintro _ wk ⟨rfl,A⟩;have k5:=jH A;clear A)
 generalize hWW:World.alloc _ _=V;obtain⟨h3,C⟩:=jmo hWW;have K:=k5.o.trans (h3.mono k5.o.size);have k9:=jH K;have k4:=jH (q8.o.on K);have cV:=(K.cell (p:=⟨c.wb,0,none⟩) h8).trans c0;have v0:=Yj h8 k9.o.size
 obtain⟨B,h5⟩:∃B,wk.heap.size=B:=⟨_,rfl⟩
 rw[h5]at C ⊢;have e0:=ja C 0 rfl;have v2:=jb C;clear hWW h3 K C h5 c0 c3;have k2:=jH (joP k4.o.tm HQ.o D0.o (z:=0) rfl);rw[I.o]at k2
 go_upto_region 26 with(first
  |(go_at_call 106;refine k2.o.mono ?_;rintro _ r5 ⟨rfl,A⟩;have k7:=jH A;clear A)
  |(go_at_call 33;refine(jrZ (k:=3) (z:=3) D0.o.wc (k4.o.on k7.o) D0.o.xa ?_ rfl (by omega)).mono ?_;(intro F;have E:=q4.o F;have h2:=HO.o E.1;omega);rintro _ w1 ⟨rfl,κ1,h9,O,Y⟩;obtain⟨v3,v1,c1,_,_,_⟩:=O.err;rw[I.o]at c1;have r6:=O.lt;have r2:=jH h9;have h0:=jH O;have h7:=jH (q4.o.trans Y);have r8:=jH Y;clear h9 O Y))
 have q5:=jH (joP h0.o.tm HQ.o D1.o (z:=1) rfl);rw[I.o]at q5
 go_wp2_with (first
  |(go_at_call 106;refine q5.o.mono ?_;rintro _ v6 ⟨rfl,A⟩;have k8:=jH A;clear A)
  |(go_at_call 89;refine(D1.o.wc _ _ _ _ _ _ (h0.o.on k8.o) D1.o.xa ?_ (by omega)).mono ?_;(intro F;have E:=h7.o F;have h2:=HO.o E.1;omega);rintro _ w2 ⟨κ2,z2,rfl,h4,H,U,h6⟩;obtain⟨v4,v7,c2,_,_,_⟩:=H.err;rw[I.o]at c2;have r9:=H.lt;have r1:=jH h4;have r3:=jH H;have q7:=jH (h7.o.trans U);have r7:=jH U;clear h4 H U;have q9:=jH h6;clear h6))
 go_returns;exact⟨κ2,z2,rfl,(((((Fr.of k9.o).trans (Fr.of k7.o)).trans r2.o).trans (Fr.of k8.o)).trans r1.o),r3.o.mono (by omega),q7.o,q9.o⟩
theorem jwQ {ps:List CP}:∀{ks:List Nat}{l:List Inf.X},XAs ps ks l->ks.length=l.length/\∀(j:Nat) (x:Inf.X),l[j]? =some x->∃kd,ks[j]? =some kd/\XA ps kd x
 |[],[],_=>⟨rfl,fun j x h=>by simp at h⟩
 |k ::ks,y ::l,h=>by
  rw[XAs]at h;obtain⟨A,B⟩:=jwQ h.2;refine⟨by rw[Yk,Yk,A],fun j x hj=>?_⟩
  cases j with
  |zero=>cases hj;exact⟨k,rfl,h.1⟩
  |succ j=>exact B j x hj
 |[],_ ::_,h=>by rw[XAs]at h;exact h.elim
 |_ ::_,[],h=>by rw[XAs]at h;exact h.elim
theorem jFo {ks:List Nat}(K:l.length<=6) (A:q.ks=ks.map (fun n:Nat=>(n:Int))) (B:∀j ∈ ks,j<i) (E:XAs c.ps ks l) (H:∀y ∈ l,WC c y):q.ks.length=l.length/\∀(j:Nat) (x:Inf.X),l[j]? =some x->∃kd,KD c i q j kd x:=by
 obtain⟨F,O⟩:=jwQ E;refine⟨by rw[A,Ua,F],fun j x hj=>?_⟩;obtain⟨kd,C,I⟩:=O j x hj;exact⟨kd,by rw[A,Yr,C];rfl,B kd (Yo C),(by rw[A,Ua,F];omega),I,H x (Yo hj)⟩
theorem sz1 (k:Nat) (p:Int) (xs:List ByteArray) (a:Inf.X):Inf.sz (.nd k p xs [a])=1+Inf.sz a:=by simp only[Inf.sz,Inf.szs];omega
theorem sz2 (k:Nat) (p:Int) (xs:List ByteArray) (a b:Inf.X):Inf.sz (.nd k p xs [a,b])=1+(Inf.sz a+Inf.sz b):=by simp only[Inf.sz,Inf.szs];omega
theorem sz3 (k:Nat) (p:Int) (xs:List ByteArray) (a b d:Inf.X):Inf.sz (.nd k p xs [a,b,d])=1+(Inf.sz a+Inf.sz b+Inf.sz d):=by simp only[Inf.sz,Inf.szs];omega
theorem szl (k:Nat) (p:Int) (xs:List ByteArray) (l:List Inf.X):Inf.sz (.nd k p xs l)=1+Inf.szs l:=by simp only[Inf.sz]
theorem js1 (a:Inf.X):Inf.szs [a]=Inf.sz a:=by simp only[Inf.szs];omega
theorem szs2 (a b:Inf.X):Inf.szs [a,b]=Inf.sz a+Inf.sz b:=by simp only[Inf.szs];omega
theorem pPl1 (k:Nat) (a:Inf.X) (o:Int) (P:Inf.PS):Inf.pPl k [a] o P=Inf.pP k a o P:=by simp only[Inf.pPl]
theorem pPl2 (k:Nat) (a b:Inf.X) (o:Int) (P:Inf.PS):Inf.pPl k [a,b] o P=Inf.pP k b o (Inf.pP k a o P):=by simp only[Inf.pPl]
theorem jBc (c:Wc):∀(n:Nat) (x:Inf.X),SizeOf.sizeOf x<=n->Inf.WZ x->WC c x:=by
 intro n
 induction n with
 |zero=>intro x h;cases x;simp at h
 |succ n ih=>
  intro x hs hw;have h0:=Inf.fz_all _ x jN (hw.wx _ jN);intro w κ P N i o h hA F H
  cases hst :P.st with
  |some u=>
   refine(jBa h hst i o).mono ?_;rintro e w' ⟨rfl,rfl⟩;rw[h0 o P u hst];exact⟨κ,-1,rfl,Fr.refl _ _ _,h.mono (by omega),Inf.Gr.refl P,fun hr=>by rw[hst]at hr;cases hr⟩
  |none=>
   cases hw with
   |@nd k p xs kids hsh hxx h6 k6 h5 h9 h10 h19 hk=>
    have B:∀y ∈ kids,WC c y:=fun y hy=>ih y (by have:=List.sizeOf_lt_of_mem hy;simp at hs;omega) (hk y hy);rw[XA]at hA;obtain⟨q,ks,I,A,rfl,rfl,h1,Z,hX⟩:=hA;obtain⟨R,E⟩:=jFo (c:=c) k6 h1 Z hX B;obtain⟨na,ka,nc,kc,C⟩:=h.tm.part I;clear hX h1 Z B hs ih h0 hk
    cases hsh with
    |leaf hl=>
     have h2:N+1<=N+16*Inf.sz (.nd k (q.a:Nat) q.ns []):=by rw[szl];omega
     have Y:∀(m:Nat) (W:World),Below w.heap.size w W->Calls Tryz.prog 68 #[.pointer (some ⟨c.wb,1,none⟩),.int .i64 (m:Nat),.slice none 0 0] W (NP c κ W P (P.add m []) (N+16*Inf.sz (.nd k (q.a:Nat) q.ns [])) P.n):=fun m W B=>(jp8 (h.on B) (by omega) m (KS.nil _) (by simp) (xs:=[]) (fun _=>⟨rfl,fun a ha=>by cases ha⟩) (fun _=>rfl)).mono (fun e w' hp=>hp.mono h2);rcases hl with rfl|rfl|rfl|rfl|rfl|rfl
     .simp only[Inf.pW];exact jJE h C hst (.dnum (.inl A)) (Y 1)
     .simp only[Inf.pW];exact jJE h C hst (.dtruth (.inl A)) (Y 2)
     .simp only[Inf.pW];exact jJE h C hst (.dtruth (.inr A)) (Y 2)
     .simp only[Inf.pW];exact jJE h C hst (.dnum (.inr A)) (Y 1)
     .exact jJE h C hst (.dname A) (fun W B=>(jEF (h.on B) hst C (F hst) (h5 rfl) []).mono (fun e w' hp=>hp.mono (by omega)))
     .simp only[Inf.pW];exact jJE h C hst (.dunit A) (Y 3)
    |@un k _ a hl=>
     obtain⟨k0,K⟩:=E 0 a rfl
     have U:∀(m m2:Nat) (W:World),Below w.heap.size w W->Calls Tryz.prog 107 #[.pointer (some ⟨c.wb,0,none⟩),.int .i64 (i:Nat),.int .i64 o,.int .i64 (m:Nat),.int .i64 (m2:Nat)] W (NP c κ W P ((Inf.pP m a o P).add m2 []) (N+16*Inf.sz (.nd k (q.a:Nat) q.ns [a])) (Inf.pP m a o P).n):=fun m m2 W B=>by
      have:=jvt (k:=m) (k2:=m2) (h.on B) I F R E (by simp) rfl rfl (by rw[js1];rw[sz1]at H;omega);rw[pPl1,js1]at this;exact this.mono (fun e w' hp=>hp.mono (by rw[sz1];omega))
     rcases hl with rfl|rfl|rfl|rfl|rfl
     .simp only[Inf.pW];exact jJE h C hst (.dop (.inl A)) (U 1 1)
     .simp only[Inf.pW];exact jJE h C hst (.dnot A) (U 2 2)
     .simp only[Inf.pW]
      refine jJE h C hst (.dcp (.inr (.inr (.inr (.inl A))))) (fun W B=>?_);have:=jHT (h.on B) I F A R E (by simp) (by rw[js1];rw[sz1]at H;omega);rw[pPl1,js1]at this;exact this.mono (fun e w' hp=>hp.mono (by rw[sz1];omega))
     .simp only[Inf.pW]
      exact jJE h C hst (.dcp (.inr (.inr (.inr (.inr (.inl A)))))) (fun W B=>(jHU (h.on B) I F A K (by rw[sz1]at H;omega)).mono (fun e w' hp=>hp.mono (by rw[sz1];omega)))
     .simp only[Inf.pW]
      exact jJE h C hst (.dfun A) (fun W B=>(jGh (h.on B) I F K hst h6 hxx (by rw[sz1]at H;omega)).mono (fun e w' hp=>hp.mono (by rw[sz1];omega)))
    |@two k _ a b hl=>
     obtain⟨k0,K⟩:=E 0 a rfl;obtain⟨k1,O⟩:=E 1 b rfl
     have U:∀(m m2:Nat) (W:World),Below w.heap.size w W->Calls Tryz.prog 107 #[.pointer (some ⟨c.wb,0,none⟩),.int .i64 (i:Nat),.int .i64 o,.int .i64 (m:Nat),.int .i64 (m2:Nat)] W (NP c κ W P ((Inf.pP m b o (Inf.pP m a o P)).add m2 []) (N+16*Inf.sz (.nd k (q.a:Nat) q.ns [a,b])) (Inf.pP m b o (Inf.pP m a o P)).n):=fun m m2 W B=>by
      have:=jvt (k:=m) (k2:=m2) (h.on B) I F R E (by simp) rfl rfl (by rw[szs2];rw[sz2]at H;omega);rw[pPl2,szs2]at this;exact this.mono (fun e w' hp=>hp.mono (by rw[sz2];omega))
     rcases hl with rfl|rfl|rfl|rfl|rfl|rfl|rfl
     .simp only[Inf.pW];exact jJE h C hst (.dop (.inr (.inl A))) (U 1 1)
     .simp only[Inf.pW];exact jJE h C hst (.dop (.inr (.inr A))) (U 1 1)
     .simp only[Inf.pW];exact jJE h C hst (.dcmp A) (U 1 2)
     .simp only[Inf.pW]
      exact(jAZ h C hst A F K O (by rw[sz2]at H;omega)).mono (fun e w' hp=>hp.mono (by rw[sz2];omega))
     .simp only[Inf.pW]
      exact jJE h C hst (.dlet (.inr A)) (fun W B=>(jE9 (h.on B) I F K O hst h6 hxx (h10 rfl) (by rw[sz2]at H;omega)).mono (fun e w' hp=>hp.mono (by rw[sz2];omega)))
     .simp only[Inf.pW,Inf.pE]
      have e2:∀W,Below w.heap.size w W->Calls Tryz.prog 108 #[.pointer (some ⟨c.wb,0,none⟩),.int .i64 (i:Nat),.int .i64 o] W (NP c κ W P (Inf.pP 1 b o (Inf.pE a o P).2) (N+16*Inf.sz (.nd 20 (q.a:Nat) q.ns [a,b])) P.n):=fun W B=>(jHV (h.on B) I F A K O (by rw[sz2]at H;omega)).mono (fun e w' hp=>hp.mono (by rw[sz2];omega));rw[Inf.pE]at e2;exact jJE h C hst (.dcp (.inr (.inr (.inl A)))) e2
     .simp only[Inf.pW]
      exact jJE h C hst (.dcp (.inr (.inr (.inr (.inr (.inr (.inl A))))))) (fun W B=>(jHX (h.on B) I F A K O (by rw[sz2]at H;omega)).mono (fun e w' hp=>hp.mono (by rw[sz2];omega)))
    |@lt _ a b hl=>
     obtain⟨k0,K⟩:=E 0 a rfl;obtain⟨k1,O⟩:=E 1 b rfl;simp only[Inf.pW];exact jJE h C hst (.dlet (.inl A)) (fun W B=>(jE8 (h.on B) I F K O hst h6 hxx hl (by rw[sz2]at H;omega)).mono (fun e w' hp=>hp.mono (by rw[sz2];omega)))
    |@rc _ a b hl=>
     obtain⟨k0,K⟩:=E 0 a rfl;obtain⟨k1,O⟩:=E 1 b rfl;simp only[Inf.pW];exact jJE h C hst (.drec A) (fun W B=>(jFd (h.on B) I F K O hst h6 hxx (h9 rfl) (by rw[sz2]at H;omega)).mono (fun e w' hp=>hp.mono (by rw[sz2];omega)))
    |@three k _ a b d hl=>
     obtain⟨k0,K⟩:=E 0 a rfl;obtain⟨k1,O⟩:=E 1 b rfl;obtain⟨k2,d2⟩:=E 2 d rfl;rcases hl with rfl|rfl
     .simp only[Inf.pW]
      exact jJE h C hst (.dif A) (fun W B=>(jIr (h.on B) I F K O d2 (by rw[sz3]at H;omega)).mono (fun e w' hp=>hp.mono (by rw[sz3];omega)))
     .simp only[Inf.pW]
      have hE:(Inf.pE a o P).1=P.n:=by rw[Inf.pE]
      rw[hE];exact jJE h C hst (.dcp (.inr (.inr (.inr (.inr (.inr (.inr A))))))) (fun W B=>(jHS (h.on B) I F A K O d2 (by rw[sz3]at H;omega)).mono (fun e w' hp=>hp.mono (by rw[sz3];omega)))
    |@many k _ a l hl=>
     rcases hl with rfl|rfl
     .simp only[Inf.pW]
      exact jJE h C hst (.dcp (.inr (.inl A))) (fun W B=>(jHW (h.on B) I F A R E k6 (h19 rfl) (by rw[szl]at H;omega)).mono (fun e w' hp=>hp.mono (by rw[szl];omega)))
     .simp only[Inf.pW]
      exact jJE h C hst (.dcp (.inl A)) (fun W B=>(jHR (h.on B) I F A R E k6 (by rw[szl]at H;omega)).mono (fun e w' hp=>hp.mono (by rw[szl];omega)))
theorem jGt (a:Int) (x:Option Addr) (l m:Nat) (d:Int) (w:World):Sem.run Tryz.prog (Instr.field 101 (.agg #[.int .i64 a,.slice x l m,.int .i64 d]) 1) w= .ok (.slice x l m) w:=by kernel_rfl
structure At (w:World) (κ:Kp) (b o:Nat) (v:Value) (ns:List NM) (P:Inf.PS) (i k f:Nat) (xs:List Nat) (ka:Option Addr) (kc:Nat):Prop where
 call:∀W,Below w.heap.size w W->Calls Tryz.prog 35 #[.pointer (some ⟨b,o,none⟩),.int .i64 (i:Nat)] W fun e w'=>e= .returned (.agg #[.int .i64 (k:Nat),.slice ka xs.length kc,.int .i64 (f:Nat)])/\Below W.heap.size W w'
 len:xs.length<=1000
 lt:∀a ∈ xs,a<ns.length
 cell:∀j a,xs[j]? =some a->∃g,ka=some ⟨g,0,none⟩/\g<w.heap.size/\w.cell? ⟨g,j,none⟩=some (.int .i64 (a:Nat))
 sz:Inf.szT P.ts P.D i=1+(xs.map (Inf.szT P.ts P.D)).sum
 tx:Inf.txT P.ts P.D i=Inf.sp k (xs.map (Inf.txT P.ts P.D))
 sub:∀a ∈ xs,Inf.Sub P.ts P.D a i
 kc:xs.length<=kc
theorem jIt {xs:List Int}(h:∀x ∈ xs,0<=x):(xs.map Int.toNat).map (fun n:Nat=>(n:Int))=xs:=by
 rw[List.map_map]
 conv=>rhs;rw[<-List.map_id xs]
 refine List.map_congr_left fun a ha=>?_;show((a.toNat:Nat):Int)=a;exact Int.toNat_of_nonneg (h a ha)
variable {ns:List NM}
theorem jAs {o:Nat}(h:GM w κ b o v ns) (A:Pn ns P) (hi:i<ns.length):∃k f xs ka kc,At w κ b o v ns P i k f xs ka kc:=by
 have O:ns[i]? =some ns[i]:=Yb hi
 obtain⟨m,h2⟩:∃m,ns[i]=m:=⟨_,rfl⟩
 rw[h2]at O;have hf:=A.wn.lt i m O;have C:ns[m.f]? =some ns[m.f]:=Yb hf
 obtain⟨B,h0⟩:∃B,ns[m.f]=B:=⟨_,rfl⟩
 rw[h0]at C;have I:=A.wn.kid m.f B C;have E:=h.kds m.f B C;obtain⟨ka,kc,hv,h1⟩:=E.any;have R:=jIt (xs:=B.xs) (fun x hx=>(I x hx).1);have F:(B.xs.map Int.toNat).length=B.xs.length:=Ua ..;obtain⟨Z,H⟩:=jpP C;rw[A.ts]at Z H;have U:fnN ns i=m.f:=jcu O;have Y:=Inf.sz_f A.rp A.ok A.bare i;have K:=Inf.tx_f A.rp A.ok A.bare i;rw[U,H]at Y K;rw[Z]at K;refine⟨B.k,B.f,B.xs.map Int.toNat,ka,kc,?_,?_,?_,?_,Y,K,?_,by rw[F];exact h1⟩
 .intro W hW
  have:=jtr (h.on hW) O C;rw[F,<-hv];exact this
 .rw[F];exact h.kb m.f B C
 .intro a ha
  rw[Uh]at ha;obtain⟨x,hx,rfl⟩:=ha;have:=I x hx;omega
 .intro j a hj
  have h3:=(jG hj).1;obtain⟨g,cap,e,_,_,hg⟩:=E.at (by omega);rw[hv]at e;injection e with e1 e2 e3
  have hr:=E;rw[hv,e1,e3]at hr;refine⟨g,e1,hg,hr.cell ?_⟩;rw[<-R];unfold iV;rw[Yr,Yr,hj];rfl
 .intro a ha
  refine Inf.sub_of (j:=m.f) ?_ ?_ (by rw[H];exact ha)
  .rw[<-U];exact Inf.rp_rel A.rp i
  .intro e
   have:=A.bare m.f e;rw[H]at this;rw[this]at ha;cases ha
theorem juR (l:List Nat) (j:Nat):(l.take j).sum<=l.sum:=by
 have h:=congrArg List.sum (List.take_append_drop j l);rw[List.sum_append]at h;omega
theorem jxE {l:List Nat}{j a:Nat}(h:l[j]? =some a):(l.take (j+1)).sum=(l.take j).sum+a:=by
 have A:=(jG h).1;have e:=(jG h).2;rw[Uc A,e,List.sum_append];simp
set_option maxRecDepth 100000 in
theorem jCi {o:Nat}(hP:Pn ns P):∀i,i<ns.length->∀(joH:Nat),joH<=1000->∀w,GM w κ b o v ns->
 Calls Tryz.prog 19 #[.pointer (some ⟨b,o,none⟩),.int .i64 (i:Nat),.int .i64 (joH:Nat)] w fun e w'=>e= .returned (.int .i64 ((min (Inf.szT P.ts P.D i) (joH+1):Nat):Int))/\Below w.heap.size w w':=by
 intro i
 induction hP.ok.2 i with
 |intro i _ ih=>
  intro hi joH h8 w h;obtain⟨k,f,xs,ka,kc,A⟩:=jAs h hP hi;have B:=jH A;have HG:=jH h;have HI:=jH ih;have CM:=jH (A.call w jB);have U:=A.len;have hl:=h.lt;have E:=A.sz
  obtain⟨S,hS⟩:∃S,S=xs.map (Inf.szT P.ts P.D):=⟨_,rfl⟩
  rw[<-hS]at E;rw[E];have HS:=jH hS
  obtain⟨n,Y⟩:∃n,xs.length=n:=⟨_,rfl⟩
  rw[Y]at U CM;have HN:=jH Y;have k2:=jGt (k:Nat) ka n kc (f:Nat);clear ih A h E hS Y
  go_enter Tryz.func19,Tryz.ntmps19
  go_wp2_with (go_at_call 35;refine CM.o.mono ?_;rintro _ w1 ⟨rfl,H⟩;have h6:=jH H;clear H)
  go_loopg [7,9,15] n (fun gh s7 s9 s15 (wr:World)=>∃j:Nat,j<=n/\gh=n-j/\s15= .int .i64 (j:Nat)/\s7= .int .i64 ((min (1+(S.take j).sum) (joH+1):Nat):Int)/\Below w.heap.size w wr)
  case atStart=>exact⟨0,by omega,rfl,rfl,by rw[List.take_zero,List.sum_nil,Nat.min_eq_left (by omega)];rfl,h6.o⟩
  case round=>
   obtain⟨j,hj,k7,rfl,rfl,Z⟩:=hrel;have HB:=jH Z;have h7:=Z.size;clear Z
   by_cases h3:j<n
   .have u1:(j:Int)<(n:Int):=by omega
    obtain⟨a,F⟩:∃a,xs[j]? =some a:=⟨_,Yb (by rw[HN.o];exact h3)⟩
    obtain⟨g,h5,hg,hc⟩:=B.o.cell j a F;subst h5;have c1:=(HB.o.cell (p:=⟨g,j,none⟩) hg).trans hc;have k4:g<wr.heap.size:=by omega
    have C:=Yo F;have I:S[j]? =some (Inf.szT P.ts P.D a):=by rw[HS.o,Yr,F];rfl
    have K:=jxE I;have R:=juR S j
    obtain⟨q,hq⟩:∃q,1+(S.take j).sum=q:=⟨_,rfl⟩
    have k5:1<=q:=by omega
    rw[hq]
    by_cases h2:joH<q
    .rw[Nat.min_eq_right (by omega)]
     have u2:decide ((((joH+1:Nat):Int)) >(joH:Int))=true:=by simp;omega
     go_wp2_with fail
     go_returns;refine⟨?_,HB.o⟩;rw[Nat.min_eq_right (by omega)];rfl
    .rw[Nat.min_eq_left (by omega)]
     obtain⟨d,hd⟩:∃d,joH=q+d:=⟨joH-q,by omega⟩
     have O:=jH (HI.o a (B.o.sub a C) (B.o.lt a C) d (by omega) wr (HG.o.on HB.o))
     obtain⟨r,hr⟩:∃r,min (Inf.szT P.ts P.D a) (d+1)=r:=⟨_,rfl⟩
     rw[hr]at O;have k8:r<=d+1:=by omega
     have h4:=jH K;have HR:=jH hr;have HQ:=jH hq;have ud:((joH:Nat):Int)-((q:Nat):Int)=(d:Nat):=by omega
     have h9:q<=joH:=by omega
     have HD:=jH hd;clear K hr hq hd hc F I C R h2
     go_wp2_with (go_at_call 19;refine(Calls.mono (by first|exact O.o|(rw[ud];exact O.o)) ?_);rintro _ w2 ⟨rfl,h0⟩)
     go_roundg (n-(j+1))
     case measure=>omega
     case rel=>
      refine⟨j+1,by omega,rfl,by go_num,?_,HB.o.trans (h0.mono h7)⟩;have e1:=h4.o;have e2:=HR.o;have e3:=HQ.o;have e4:=HD.o;have:min (1+(S.take (j+1)).sum) (joH+1)=q+r:=by omega
      rw[this]
      go_num
   .have:j=n:=by omega
    subst this;have h1:S.take j=S:=Yw (by rw[HS.o,Ua,HN.o];omega);rw[h1]
    go_wp2_with fail
    go_returns;exact⟨rfl,HB.o⟩
def TC (w:World) (b o:Nat) (P:Inf.PS) (a:Nat):Prop:=∀W,Below w.heap.size w W->Calls Tryz.prog 20 #[.pointer (some ⟨b,o,none⟩),.int .i64 (a:Nat)] W fun e w'=>e= .returned (.string (Inf.txT P.ts P.D a))/\Below W.heap.size W w'
theorem jtA {s:ByteArray}{ys:List ByteArray}{j:Nat}{y:ByteArray}(h:ys[j]? =some y):Inf.jnF s (ys.take (j+1))=if j=0 then y else Inf.jnF s (ys.take j) ++s ++y:=by
 have B:=(jG h).1;have e:=(jG h).2;rw[Uc B,e]
 by_cases A:j=0
 .subst A;rw[if_pos rfl];rfl
 .rw[if_neg A]
  refine Inf.jnF_snoc s y ?_;intro C;have:=congrArg List.length C;rw[List.length_take,List.length_nil]at this;omega
set_option maxRecDepth 100000 in
theorem jyX {o:Nat}(hc:∀j a,xs[j]? =some a->∃g,ka=some ⟨g,0,none⟩/\g<w.heap.size/\w.cell? ⟨g,j,none⟩=some (.int .i64 (a:Nat))) (Z:∀a ∈ xs,TC w b o P a) (hx:xs.length<=1000) (s:ByteArray) (C:∀j,(Inf.jnF s ((xs.map (Inf.txT P.ts P.D)).take j)).size+s.size<=1000000) :
 Calls Tryz.prog 36 #[.pointer (some ⟨b,o,none⟩),.slice ka xs.length kc,.string s] w fun e w'=>e= .returned (.string (Inf.jnF s (xs.map (Inf.txT P.ts P.D))))/\Below w.heap.size w w':=by
 obtain⟨ys,H⟩:∃ys,xs.map (Inf.txT P.ts P.D)=ys:=⟨_,rfl⟩
 rw[H]at C ⊢
 obtain⟨n,hn⟩:∃n,xs.length=n:=⟨_,rfl⟩
 have HY:=jH H;have HN:=jH hn;have HC:=jH hc;have HT:=jH Z;have HZ:=jH C;rw[hn]at hx ⊢;clear H hn hc Z C
 go_enter Tryz.func36,Tryz.ntmps36
 go_wp2_with fail
 go_loopg [7,8,9,12] n (fun gh s7 s8 s9 s12 (wr:World)=>∃j:Nat,j<=n/\gh=n-j/\s12= .int .i64 (j:Nat)/\s7= .string (Inf.jnF s (ys.take j))/\Below w.heap.size w wr)
 case atStart=>exact⟨0,by omega,rfl,rfl,rfl,jB⟩
 case round=>
  obtain⟨j,hj,h6,rfl,rfl,Y⟩:=hrel;have HB:=jH Y;have O:=Y.size;clear Y
  by_cases h0:j<n
  .have u1:(j:Int)<(n:Int):=by omega
   obtain⟨a,I⟩:∃a,xs[j]? =some a:=⟨_,Yb (by rw[HN.o];exact h0)⟩
   obtain⟨g,h2,hg,R⟩:=HC.o j a I;subst h2;have c1:=(HB.o.cell (p:=⟨g,j,none⟩) hg).trans R;have h5:g<wr.heap.size:=by omega
   have U:ys[j]? =some (Inf.txT P.ts P.D a):=by rw[<-HY.o,Yr,I];rfl
   have A:=jtA (s:=s) U;have CT:=jH (HT.o a (Yo I) wr HB.o)
   obtain⟨y,hy⟩:∃y,Inf.txT P.ts P.D a=y:=⟨_,rfl⟩
   rw[hy]at A CT
   obtain⟨t,ht⟩:∃t,Inf.jnF s (ys.take j)=t:=⟨_,rfl⟩
   have h4:=HZ.o j;have B:=HZ.o (j+1);rw[ht]at A h4 ⊢;rw[A]at B;have E:=jH A;have h3:=jH ht;clear U hy ht A R I
   by_cases K:j=0
   .subst K
    have h1:t=⟨#[]⟩:=by rw[<-h3.o];rfl
    subst h1;rw[if_pos rfl]at B E
    go_wp2_with (go_at_call 20;refine CT.o.mono ?_;rintro _ w2 ⟨rfl,F⟩)
    go_roundg (n-1)
    case measure=>omega
    case rel=>
     refine⟨1,by omega,rfl,by go_num,?_,HB.o.trans (F.mono O)⟩;rw[E.o]
     first|rfl|(congr 1;simp)
   .rw[if_neg K]at B E
    rw[Ky,Ky]at B;have u3:(0:Int)<(j:Int):=by omega
    go_wp2_with (go_at_call 20;refine CT.o.mono ?_;rintro _ w2 ⟨rfl,F⟩)
    go_roundg (n-(j+1))
    case measure=>omega
    case rel=>
     refine⟨j+1,by omega,rfl,by go_num,?_,HB.o.trans (F.mono O)⟩;rw[E.o]
  .have:j=n:=by omega
   subst this;have A:ys.take j=ys:=Yw (by rw[<-HY.o,Ua,HN.o];omega);rw[A]
   go_wp2_with fail
   go_returns;exact⟨rfl,HB.o⟩
theorem jvP {ts:Inf.Tys}{D:Inf.Dem}(A:Inf.Ok ts D) (h:(xs.map (Inf.szT ts D)).sum<=1000) (s:ByteArray) (hs:s.size<=1) (j:Nat):(Inf.jnF s ((xs.map (Inf.txT ts D)).take j)).size+s.size<=20000:=by
 have C:=Inf.jnF_size s ((xs.map (Inf.txT ts D)).take j);rw[<-List.map_take,List.map_map]at C
 have E:=Inf.sum_le (f:=(fun y:ByteArray=>y.size+s.size) ∘ Inf.txT ts D) (g:=fun a=>12*Inf.szT ts D a) (xs.take j) (fun a _=>by
  have:=Inf.tx_size A a;show(Inf.txT ts D a).size+s.size<=12*Inf.szT ts D a
  omega)
 have he:∀l:List Nat,(l.map fun a=>12*Inf.szT ts D a).sum=12*(l.map (Inf.szT ts D)).sum:=by
  intro l
  induction l with
  |nil=>rfl
  |cons a l ih=>rw[Kt,List.sum_cons,Kt,List.sum_cons,ih];omega
 rw[he]at E;have B:=juR (xs.map (Inf.szT ts D)) j;rw[<-List.map_take]at B ⊢;omega
set_option maxRecDepth 100000 in
theorem jGk {o:Nat}(K:Inf.Ok P.ts P.D) (O:∀j a,xs[j]? =some a->∃g,ka=some ⟨g,0,none⟩/\g<w.heap.size/\w.cell? ⟨g,j,none⟩=some (.int .i64 (a:Nat))) (E:xs.length<=kc) (I:∀a ∈ xs,TC w b o P a) (Z:xs.length<=1000) (B:(xs.map (Inf.szT P.ts P.D)).sum<=1000) :
 Calls Tryz.prog 37 #[.pointer (some ⟨b,o,none⟩),.slice ka xs.length kc] w fun e w'=>e= .returned (.string (Inf.sp 6 (xs.map (Inf.txT P.ts P.D))))/\Below w.heap.size w w':=by
 rcases List.eq_nil_or_concat xs with rfl|⟨l,a,rfl⟩
 .show Calls _ _ #[_,.slice ka 0 kc] _ _
  go_enter Tryz.func37,Tryz.ntmps37
  go_wp2_with fail
  go_returns;exact⟨rfl,jB⟩
 .rw[List.concat_eq_append]at *
  have hl:(l ++[a]).length=l.length+1:=by rw[Yg];rfl
  rw[hl]at E Z ⊢;obtain⟨g,h1,hg,U⟩:=O l.length a (by rw[Ud jN,Nat.sub_self];rfl);subst h1;rw[Km,List.sum_append]at B;simp only[Kt,List.map_nil,List.sum_cons,List.sum_nil]at B;have C:=jvP K (xs:=l) (by omega) ⟨#[44]⟩ jN;have Y:=Inf.tx_size K a;have CL:=jH (jyX (kc:=kc) (fun j z hj=>O j z (by rw[Kb (jG hj).1];exact hj)) (fun z hz=>I z (Uj _ hz)) (by omega) ⟨#[44]⟩ (fun j=>by have:=C j;omega));have CT:=jH (I a (by simp))
  have R:Inf.sp 6 ((l ++[a]).map (Inf.txT P.ts P.D))=⟨#[40]⟩ ++Inf.jnF ⟨#[44]⟩ (l.map (Inf.txT P.ts P.D)) ++⟨#[45,62]⟩ ++Inf.txT P.ts P.D a ++⟨#[41]⟩:=by
   rw[Km];exact Inf.sp6 _ _
  rw[R];have F:=C l.length;rw[show(l.map (Inf.txT P.ts P.D)).take l.length=l.map (Inf.txT P.ts P.D)from Yw (by simp)]at F
  obtain⟨t,ht⟩:∃t,Inf.jnF ⟨#[44]⟩ (l.map (Inf.txT P.ts P.D))=t:=⟨_,rfl⟩
  obtain⟨y,hy⟩:∃y,Inf.txT P.ts P.D a=y:=⟨_,rfl⟩
  rw[ht]at CL F ⊢;unfold TC at CT;rw[hy]at CT Y ⊢
  obtain⟨n,hn⟩:∃n,l.length=n:=⟨_,rfl⟩
  rw[hn]at CL E Z U ⊢;have h3:t.size<=20000:=by omega
  have h2:y.size<=20000:=by omega
  have u0:¬(kc<n):=by omega
  clear O I hl C Y ht hy hn R K B F
  go_enter Tryz.func37,Tryz.ntmps37
  go_upto_region 5 with(go_at_call 36;refine CL.o.mono ?_;rintro _ w1 ⟨rfl,A⟩;have c1:=(A.cell (p:=⟨g,n,none⟩) hg).trans U;have h4:=Yj hg A.size;have H:=jH A;clear A)
  go_wp2_with (go_at_call 20;refine(CT.o _ H.o).mono ?_;rintro _ w2 ⟨rfl,h0⟩)
  go_returns;exact⟨rfl,H.o.trans (h0.mono H.o.size)⟩
theorem jcj {f:Nat->Nat}:∀{l:List Nat}{a:Nat},a ∈ l->f a<=(l.map f).sum
 |b ::l,a,h=>by
  rw[Kt,List.sum_cons];rcases Kk.1 h with rfl|h
  .omega
  .have:=jcj (f:=f) h;omega
set_option maxRecDepth 100000 in
theorem jBN {o:Nat}(Y:Pn ns P):∀i,i<ns.length->Inf.szT P.ts P.D i<=1000->∀w,GM w κ b o v ns->
 Calls Tryz.prog 20 #[.pointer (some ⟨b,o,none⟩),.int .i64 (i:Nat)] w fun e w'=>e= .returned (.string (Inf.txT P.ts P.D i))/\Below w.heap.size w w':=by
 intro i
 induction Y.ok.2 i with
 |intro i _ ih=>
  intro hi h6 w h;obtain⟨k,f,xs,ka,kc,C⟩:=jAs h Y hi;have K:(xs.map (Inf.szT P.ts P.D)).sum<=1000:=by have:=C.sz;omega
  have h0:∀W,Below w.heap.size w W->∀a ∈ xs,TC W b o P a:=fun W hW a ha V hV=>by
   refine ih a (C.sub a ha) (C.lt a ha) ?_ V ((h.on hW).on hV);have:=jcj (f:=Inf.szT P.ts P.D) ha;omega
  have h2:∀W,Below w.heap.size w W->∀j a,xs[j]? =some a->∃g,ka=some ⟨g,0,none⟩/\g<W.heap.size/\W.cell? ⟨g,j,none⟩=some (.int .i64 (a:Nat)):=fun W hW j a hj=>by
   obtain⟨g,e,hg,hc⟩:=C.cell j a hj;exact⟨g,e,Yj hg hW.size,(hW.cell (p:=⟨g,j,none⟩) hg).trans hc⟩
  have h1:=jvP Y.ok K;have O:=jH (show ∀W,Below w.heap.size w W->∀s:ByteArray,s.size<=1->Calls Tryz.prog 36 #[.pointer (some ⟨b,o,none⟩),.slice ka xs.length kc,.string s] W fun e w'=>e= .returned (.string (Inf.jnF s (xs.map (Inf.txT P.ts P.D))))/\Below W.heap.size W w' from fun W hW s hs=>jyX (h2 W hW) (h0 W hW) C.len s (fun j=>by have:=h1 s hs j;omega));have U:=jH (show ∀W,Below w.heap.size w W->Calls Tryz.prog 37 #[.pointer (some ⟨b,o,none⟩),.slice ka xs.length kc] W fun e w'=>e= .returned (.string (Inf.sp 6 (xs.map (Inf.txT P.ts P.D))))/\Below W.heap.size W w' from fun W hW=>jGk Y.ok (h2 W hW) C.kc (h0 W hW) C.len K)
  have h4:∀s:ByteArray,s.size<=1->(Inf.jnF s (xs.map (Inf.txT P.ts P.D))).size<=20000:=fun s hs=>by
   have:=h1 s hs xs.length;rw[show(xs.map (Inf.txT P.ts P.D)).take xs.length=xs.map (Inf.txT P.ts P.D)from Yw (by simp)]at this;omega
  have Z:=jH h4;have h3:=C.tx;rw[h3];have I:=jH (C.call w jB)
  obtain⟨n,hn⟩:∃n,xs.length=n:=⟨_,rfl⟩
  obtain⟨ys,h5⟩:∃ys,xs.map (Inf.txT P.ts P.D)=ys:=⟨_,rfl⟩
  rw[hn]at I O U;rw[h5]at O U Z ⊢;have hl:=h.lt;clear h C K h0 h2 h1 h4 h3 hn h5 ih h6
  by_cases hk:k=2\/k=3\/k=4\/k=5\/k=6
  .rcases hk with rfl|rfl|rfl|rfl|rfl
   .go_enter Tryz.func20,Tryz.ntmps20
    go_wp2_with (go_at_call 35;refine I.o.mono ?_;rintro _ R ⟨rfl,B⟩;have A:=jH B;clear B)
    go_returns;exact⟨rfl,A.o.alloc A.o.size _⟩
   .go_enter Tryz.func20,Tryz.ntmps20
    go_wp2_with (go_at_call 35;refine I.o.mono ?_;rintro _ R ⟨rfl,B⟩;have A:=jH B;clear B)
    go_returns;exact⟨rfl,A.o.alloc A.o.size _⟩
   .have hjj:=Z.o ⟨#[]⟩ (Yi _)
    obtain⟨t,ht⟩:∃t,Inf.jnF ⟨#[]⟩ ys=t:=⟨_,rfl⟩
    have CL1:=jH (fun W hW=>O.o W hW ⟨#[]⟩ (Yi _));rw[ht]at CL1 hjj;have E:Inf.sp 4 ys=t ++⟨#[32,97,114,114,97,121]⟩:=by rw[<-ht];rfl
    rw[E];clear ht E
    go_enter Tryz.func20,Tryz.ntmps20
    go_wp2_with (first
     |(go_at_call 35;refine I.o.mono ?_;rintro _ R ⟨rfl,B⟩;have A:=jH B;clear B)
     |(go_at_call 36;refine(CL1.o _ (A.o.alloc A.o.size _)).mono ?_;rintro _ w2 ⟨rfl,F⟩;have H:=jH F;clear F))
    go_returns;exact⟨rfl,(A.o.alloc A.o.size _).trans (H.o.mono (A.o.alloc A.o.size _).size)⟩
   .have hjj:=Z.o ⟨#[42]⟩ jN
    obtain⟨t,ht⟩:∃t,Inf.jnF ⟨#[42]⟩ ys=t:=⟨_,rfl⟩
    have CL1:=jH (fun W hW=>O.o W hW ⟨#[42]⟩ jN);rw[ht]at CL1 hjj;have E:Inf.sp 5 ys=⟨#[40]⟩ ++t ++⟨#[41]⟩:=by rw[<-ht];rfl
    rw[E];clear ht E
    go_enter Tryz.func20,Tryz.ntmps20
    go_wp2_with (first
     |(go_at_call 35;refine I.o.mono ?_;rintro _ R ⟨rfl,B⟩;have A:=jH B;clear B)
     |(go_at_call 36;refine(CL1.o _ (A.o.alloc A.o.size _)).mono ?_;rintro _ w2 ⟨rfl,F⟩;have H:=jH F;clear F))
    go_returns;exact⟨rfl,(A.o.alloc A.o.size _).trans (H.o.mono (A.o.alloc A.o.size _).size)⟩
   .go_enter Tryz.func20,Tryz.ntmps20
    go_wp2_with (first
     |(go_at_call 35;refine I.o.mono ?_;rintro _ R ⟨rfl,B⟩;have A:=jH B;clear B)
     |(go_at_call 37;refine(U.o _ (A.o.alloc A.o.size _)).mono ?_;rintro _ w2 ⟨rfl,F⟩;have H:=jH F;clear F))
    go_returns;exact⟨rfl,(A.o.alloc A.o.size _).trans (H.o.mono (A.o.alloc A.o.size _).size)⟩
  .have q2:((k:Int) == 2)=false:=by rw[Kl];omega
   have q3:((k:Int) == 3)=false:=by rw[Kl];omega
   have q4:((k:Int) == 4)=false:=by rw[Kl];omega
   have q5:((k:Int) == 5)=false:=by rw[Kl];omega
   have q6:((k:Int) == 6)=false:=by rw[Kl];omega
   have E:Inf.sp k ys=⟨#[105,110,116]⟩:=by
    unfold Inf.sp
    split <;> first|rfl|(exfalso;omega)
   rw[E];clear hk E
   go_enter Tryz.func20,Tryz.ntmps20
   go_wp2_with (go_at_call 35;refine I.o.mono ?_;rintro _ R ⟨rfl,B⟩;have A:=jH B;clear B)
   go_returns;exact⟨rfl,A.o.alloc A.o.size _⟩
theorem jzF (i:Nat):fnN [] i=i:=rfl
theorem pn0:Pn [] Inf.P0:=by
 refine⟨⟨fun i m h=>by simp at h,fun i=>rfl,fun i m h=>by simp at h⟩,rfl,⟨fun i j=>⟨fun e=>?_,fun e=>Inf.rel_nil e⟩,fun i=>rfl,fun i k xs h=>by simp[Inf.P0]at h⟩,Inf.ok_nil,fun i _=>rfl,fun i k xs a h=>by simp[Inf.P0]at h,fun p hp=>(by cases hp),fun b hb=>(by cases hb),jN,fun b hb=>(by cases hb),rfl⟩;rw[jzF,jzF]at e;rw[e];exact .refl _
structure TT (w:World) (ps:List CP) (vs:List (Value × Value)) (pv:Value):Prop where
 at':jnZ w 0 pv ps vs
 big:ps.length<=100000
def kap (b:Nat):Kp:=fun k=>if k=b then some (0,0) else none
theorem jrU {k:Nat}(h:k≠b):kap b k=none:=by unfold kap;rw[if_neg h]
variable {ps:List CP}{vs:List (Value × Value)}{pv:Value}
theorem st0 (h:TT w ps vs pv) {wb:Nat}(I:w.heap.size<=wb) (C:Below w.heap.size w W) (F:W.heap.size=wb+1) (A:W.heap[wb]? =some (.cells #[pv,.slice none 0 0,.slice none 0 0,.int .i64 0,.int .i64 0] 70 (0,0))):ST ⟨ps,vs,wb,pv⟩ W (kap wb) Inf.P0 0:=by
 have E:=jb A;refine⟨⟨h.at'.below C,h.big,fun b A=>?_,fun i v hv=>?_⟩,.slice none 0 0,.slice none 0 0,[],jN,.inl ⟨⟨A,⟨ja A 1 rfl,E,TR.nil _ _ _ _ _,fun i m h=>by simp at h,by simp,by unfold kap;rw[if_pos rfl],fun p hp=>?_,fun i m h=>by simp at h⟩⟩,⟨TR.nil _ _ _ _ _,by simp[Inf.P0],fun i b h=>by simp[Inf.P0]at h⟩,pn0⟩⟩
 .have:=(h.at'.own.lt b A).2
  exact jrU (by omega)
 .have hl':i<vs.length:=(jG hv).1
  have e:=(jG hv).2;have B:=h.at'.rows i (by have:=h.at'.len;show i<ps.length;omega) hl';have H:vs[i]=v:=e;rw[H]at B;exact⟨fun b A=>jrU (by have:=(B.names.lt b A).2;omega),fun b A=>jrU (by have:=(B.kids.lt b A).2;omega)⟩
 .exact jrU (by omega)
theorem jIU {w':World}{κ C:Kp}{wb:Nat}(A:Below w.heap.size w W) (E:w.heap.size<=wb) (B:Fr SW (kap wb) C W w'):Below w.heap.size w w':=by
 refine⟨B.low.os.trans A.os,B.low.tape.trans A.tape,B.low.output.trans A.output,Ym A.size B.low.size,fun k hk=>?_⟩;rw[B.rest k (Yj hk A.size) (fun t ht=>by rw[jrU (by omega)]at ht;cases ht)];exact A.block k hk
def WKP (ps:List CP) (vs:List (Value × Value)) (pv:Value) (x:Inf.X) (w:World) (e:Ending) (w':World):Prop:=
 ∃(wb:Nat) (κ':Kp),e= .returned (.pointer (some ⟨wb,0,none⟩))/\ST ⟨ps,vs,wb,pv⟩ w' κ' (Inf.pP 1 x (-1) Inf.P0) (1+16*Inf.sz x)/\Below w.heap.size w w'/\∀b,b<w.heap.size->κ' b=none
set_option maxRecDepth 100000 in
theorem jA9 {x:Inf.X}(h:TT w ps vs pv) (hn:1<=ps.length) (hA:XA ps (ps.length-1) x) (hx:Inf.WZ x) (hN:1+16*Inf.sz x<=90000) :
 Calls Tryz.prog 18 #[.agg #[pv]] w (WKP ps vs pv x w):=by
 obtain⟨a,cp,h2⟩:=joG h.at'.own;subst h2;have HT:=jH h;have HA:=jH hA;have HX:=jH hx;have HB:=jH h.big
 obtain⟨n,H⟩:∃n,ps.length=n:=⟨_,rfl⟩
 have HP:=jH H;rw[H]at hn HT HB HA ⊢;have h5:=jH (fun W=>jDj (a:=a) (c:=cp) hn HB.o W);clear h hA hx H
 go_enter Tryz.func18,Tryz.ntmps18
 go_upto_region 2 with fail
 generalize hW1:World.alloc w _=W1;obtain⟨B,F⟩:=jmo hW1;have Z:W1.heap.size=w.heap.size+1:=by rw[<-hW1,Ya]
 have e1:=ja F 0 rfl;have O:=jb F;generalize hW2:World.alloc _ _=W2;obtain⟨C,A⟩:=jmo hW2;have E:W2.heap.size=W1.heap.size+1:=by rw[<-hW2,Ya]
 have e2:=(C.cell (p:=⟨w.heap.size,0,none⟩) O).trans e1;have h3:=jb A
 obtain⟨wb,K⟩:∃wb,w.heap.size+1=wb:=⟨_,rfl⟩
 have hB:Below w.heap.size w W2:=B.trans (C.mono B.size);have h7:w.heap.size<W2.heap.size:=by omega
 rw[Z,K]at A E h3;rw[K];have R:=jH hB;have h0:w.heap.size<=wb:=by omega
 have HS:=jH (st0 HT.o h0 hB E A);clear hW1 hW2 B F C A Z E e1 O hB K
 go_wp2_with (first
  |(go_at_call 34;refine(h5.o _).mono ?_;rintro _ w3 ⟨rfl,Y⟩;have I:=jH Y;clear Y)
  |(go_at_call 33;refine(jrZ (k:=1) (jBc _ _ x jN HX.o) (HS.o.on I.o) HA.o (fun _=>⟨by omega,by simp[Inf.P0]⟩) rfl (by omega)).mono ?_;rintro _ w4 ⟨rfl,κ4,U,h4,h6⟩))
 go_returns
 exact⟨wb,κ4,rfl,h4.mono (by omega),jIU (κ:=κ4) R.o h0 ((Fr.of I.o).trans U),fun b hb=>by
  have h1:=(Fr.of (S:=SW) (κ:=kap wb) I.o).trans U;rw[h1.old b (Yj hb R.o.size)]
  exact jrU (by omega)⟩
def WLP (x:Inf.X) (w:World) (e:Ending) (w':World):Prop:=
 Below w.heap.size w w'/\((∃u p,(Inf.pP 1 x (-1) Inf.P0).st=some (u,p)/\e= .returned (.tuple #[.agg #[.slice none 0 0,.slice none 0 0],.int .i64 (eN u),.int .i64 p]))\/
  ∃(κ:Kp) (wb:Nat) (pv bv v:Value) (ns:List NM),WM w' κ wb pv bv 0 0 v ns/\BM w' κ bv (Inf.pP 1 x (-1) Inf.P0).bs/\Pn ns (Inf.pP 1 x (-1) Inf.P0)/\ns.length<=90000/\e= .returned (.tuple #[.agg #[v,bv],.int .i64 0,.int .i64 0]))
theorem jxe {A:Array Value}{r:Nat}{B C:Value}{a b:Int}{Q:Ending->World->Prop}(ht:A.getD 2 undef= .pointer (some ⟨r,0,none⟩)) (F:A.getD 3 undef= .int .i64 a) (I:A.getD 4 undef= .int .i64 b) (E:W.heap[r]? =some (.cells #[B,C] 46 (0,0))) (H:Q (.returned (.tuple #[.agg #[B,C],.int .i64 a,.int .i64 b])) W) :
 bodyPost Tryz.prog Tryz.f10 Q Exit.ret {tmps:=A,defers:=[]} W:=by
 have c0:=ja E 0 rfl;have c1:=ja E 1 rfl;simp only[Yz,Yp,List.getElem_cons_succ]at c0 c1;have O:A[2]?.getD undef= .pointer (some ⟨r,0,none⟩):=by simpa using ht
 have R:A[3]?.getD undef= .int .i64 a:=by simpa using F
 have K:A[4]?.getD undef= .int .i64 b:=by simpa using I
 exact bodyPost_ret (v:=.tuple #[.agg #[B,C],.int .i64 a,.int .i64 b]) (by simp[results,Tryz.results10,go_sem,O,R,K,c0,c1]) rfl H
set_option maxRecDepth 100000 in
theorem walk_u {x:Inf.X}(h:TT w ps vs pv) (hn:1<=ps.length) (hA:XA ps (ps.length-1) x) (hx:Inf.WZ x) (hN:1+16*Inf.sz x<=90000) :
 Calls Tryz.prog 10 #[.agg #[pv]] w (WLP x w):=by
 obtain⟨a,cp,h7⟩:=joG h.at'.own;have CW:=jH (show ∀W,Below w.heap.size w W->Calls Tryz.prog 18 #[.agg #[pv]] W (WKP ps vs pv x W)from fun W hW=>jA9 ⟨h.at'.below hW,h.big⟩ hn hA hx hN)
 obtain⟨n,h8⟩:∃n,ps.length=n:=⟨_,rfl⟩
 rw[h8]at h7;subst h7;clear h hn hA hx h8
 go_enter Tryz.func10,Tryz.ntmps10
 go_upto_region 1 with fail
 generalize hW1:World.alloc w _=W1;obtain⟨K,R⟩:=jmo hW1;have k2:W1.heap.size=w.heap.size+1:=by rw[<-hW1,Ya]
 have e1:=ja R 0 rfl;have h2:=jb R;generalize hW2:World.alloc _ _=W2;obtain⟨C,F⟩:=jmo hW2;have e2:=(C.cell (p:=⟨w.heap.size,0,none⟩) h2).trans e1;have O:=jb F;have hB:Below w.heap.size w W2:=K.trans (C.mono K.size);have r2:w.heap.size<W2.heap.size:=by have:=C.size;omega
 obtain⟨rb,U⟩:∃rb,w.heap.size+1=rb:=⟨_,rfl⟩
 rw[k2,U]at F O;have H:w.heap.size<=rb:=by omega
 rw[U];have I:=jH hB;have k7:=jH F;have q5:=jH (CW.o W2 hB);clear hW1 hW2 K R C F k2 e1 h2 hB U
 go_upto_region 2 with(go_at_call 18;refine q5.o.mono ?_;rintro _ w3 ⟨wb,κ3,rfl,h6,h0,h9⟩;have q4:=jH (h9 rb O);clear h9;have q6:=jH h6;have h4:=jH h0;have B:=(h0.block rb O).trans k7.o;clear h6 h0)
 have q0:=ja B 0 rfl;have q1:=ja B 1 rfl;have y0:=je B 0;have y1:=je B 1;have r1:=jb B;obtain⟨ht,bv,v,ns,q9,A⟩:=q6.o
 rcases A with A|⟨u,p,hs,A⟩
 .obtain⟨va,vc,hv,_⟩:=A.wm.gm.form
  obtain⟨ba,bc,E,_⟩:=A.bm.row.any;have c1:=ja A.wm.blk 1 rfl;have c2:=ja A.wm.blk 2 rfl;have c3:=ja A.wm.blk 3 rfl;have k4:=jb A.wm.blk;simp only[Yz,Yp,List.getElem_cons_succ]at c1 c2 c3
  obtain⟨nl,h5⟩:∃nl,ns.length=nl:=⟨_,rfl⟩
  obtain⟨bl,h1⟩:∃bl,(Inf.pP 1 x (-1) Inf.P0).bs.length=bl:=⟨_,rfl⟩
  rw[h5]at hv;rw[h1]at E;rw[hv]at c1;rw[E]at c2;have Y:=jH A;have HV:=jH hv;have q8:=jH E;clear A hv E h5 h1 ht
  go_wp2_with fail
  go_region
  go_wp2_with fail
  refine jxe rfl rfl rfl (by exact jf (jf B 0 _) 1 _) ?_;have q7:Below w.heap.size w ((w3.setCell ⟨rb,0,none⟩ (.slice va nl vc)).setCell ⟨rb,1,none⟩ (.slice ba bl bc)).drew:=(((I.o.trans (h4.o.mono I.o.size)).setCell (p:=⟨rb,0,none⟩) H _).setCell (p:=⟨rb,1,none⟩) H _).drew
  have hO:Oth κ3 w3 ((w3.setCell ⟨rb,0,none⟩ (.slice va nl vc)).setCell ⟨rb,1,none⟩ (.slice ba bl bc)).drew:=by
   refine⟨by show w3.heap.size<=((w3.setCell _ _).setCell _ _).heap.size;rw[jy,jy];exact jN,fun b hb hk=>?_⟩;have h3:b≠rb:=fun e=>hk (by rw[e];exact q4.o);show((w3.setCell _ _).setCell _ _).heap[b]? =_;rw[Kh _ _ _ _ h3,Kh _ _ _ _ h3]
  exact⟨q7,.inr ⟨κ3,wb,_,bv,v,ns,Y.o.wm.other hO,Y.o.bm.other hO,Y.o.pn,by omega,by rw[HV.o,q8.o]⟩⟩
 .have c3:=ja A.blk 3 rfl
  have c4:=ja A.blk 4 rfl;have k4:=jb A.blk;simp only[Yz,Yp,List.getElem_cons_succ]at c3 c4;have k5:(eN u != 0)=true:=by simpa using jtU u
  obtain⟨eu,Z⟩:∃eu,eN u=eu:=⟨_,rfl⟩
  have k9:=jH Z;rw[Z]at c3 k5;have k8:=jH hs;clear A ht Z hs
  go_wp2_with fail
  go_region
  go_wp2_with fail
  refine jxe rfl rfl rfl (by exact jf (jf B 0 _) 1 _) ?_;exact⟨(((I.o.trans (h4.o.mono I.o.size)).setCell (p:=⟨rb,0,none⟩) H _).setCell (p:=⟨rb,1,none⟩) H _).drew,.inl ⟨u,p,k8.o,by rw[k9.o]⟩⟩
end Tg
namespace Inf
def nmT (sz:Nat->Nat) (tx:Nat->ByteArray):List (ByteArray × Nat × Int)->ByteArray->ByteArray × Int × Int
 |[],s=>(s,0,0)
 |(x,t,p) ::r,s=>if 40<sz t then(⟨#[]⟩,8,p) else nmT sz tx r (s ++(x ++⟨#[58]⟩ ++tx t ++⟨#[10]⟩))
end Inf
namespace Tg
open Go.RowKit
def tri (b:Inf.Bd):ByteArray × Nat × Int:=(b.x,b.t,b.p)
theorem GM.box {w W:World}{κ:Kp}{wb o nb:Nat}{v:Value}{ns:List NM}{C:Array Value}{t:TypeId}(h:GM w κ wb o v ns) (B:Below w.heap.size w W) (H:w.heap.size<=nb) (A:W.heap[nb]? =some (.cells C t (0,0))) (E:C[0]? =some v):GM W (jq κ nb (0,0)) nb 0 v ns:=by
 have F:=h.on B;obtain⟨q1,q2⟩:=h.lts;have I:=jb A;refine⟨ja A 0 E,I,⟨F.row.own,fun p hp=>?_⟩,fun i m hi=>⟨(F.kds i m hi).own,fun p hp=>?_⟩,h.big,by unfold jq;rw[if_pos rfl],fun p hp=>?_,h.kb⟩
 .have:=q1 p hp
  unfold jq;rw[if_neg (by omega)];exact h.row.tag p hp
 .have:=q2 i m p hi hp
  unfold jq;rw[if_neg (by omega)];exact(h.kds i m hi).tag p hp
 .unfold jq;rw[if_neg (by omega)];exact h.top p (by have:=B.size;omega)
theorem jzW {α:Type}{l:List α}{j:Nat}{a:α}(h:l[j]? =some a):l.drop j=a ::l.drop (j+1):=by
 have A:=(jG h).1;have e:=(jG h).2;rw[Ki A,e]
set_option maxRecDepth 100000 in
theorem namesText_u {w0 w:World}{κ:Kp}{wb:Nat}{pv bv v:Value}{ns:List NM}{P:Inf.PS}(hM:WM w0 κ wb pv bv 0 0 v ns) (U:BM w0 κ bv P.bs) (hP:Pn ns P) (hw:Below w0.heap.size w0 w) :
 Calls Tryz.prog 11 #[.agg #[v,bv]] w fun e w'=>e= .returned (.tuple #[.string (Inf.nmT (Inf.szT P.ts P.D) (Inf.txT P.ts P.D) (P.bs.map tri) ⟨#[]⟩).1,.int .i64 (Inf.nmT (Inf.szT P.ts P.D) (Inf.txT P.ts P.D) (P.bs.map tri) ⟨#[]⟩).2.1,.int .i64 (Inf.nmT (Inf.szT P.ts P.D) (Inf.txT P.ts P.D) (P.bs.map tri) ⟨#[]⟩).2.2])/\Below w.heap.size w w':=by
 obtain⟨R,hR⟩:∃R,Inf.nmT (Inf.szT P.ts P.D) (Inf.txT P.ts P.D) (P.bs.map tri) ⟨#[]⟩=R:=⟨_,rfl⟩
 rw[hR];obtain⟨Rs,Re,Rp⟩:=R;simp only;obtain⟨va,vc,hv,_⟩:=hM.gm.form;obtain⟨ba,bc,h1,r4⟩:=U.row.any
 obtain⟨n,hn⟩:∃n,P.bs.length=n:=⟨_,rfl⟩
 obtain⟨nl,h8⟩:∃nl,ns.length=nl:=⟨_,rfl⟩
 have hg:=hM.gm.on hw;have k9:=U.on hw;have r5:=jH hg;have r9:=jH k9;have HP:=jH hP;have HR:=jH hR;have HN:=jH hn;have x6:=jH h8;have q6:=U.big;rw[hn]at q6;rw[h8]at hv;rw[hn]at h1;have HV:=jH hv;have x0:=jH h1;rw[hv,h1];clear hM U hP hw hg k9 hR hn h8 hv h1 r4
 go_enter Tryz.func11,Tryz.ntmps11
 go_upto_region 1 with fail
 generalize hW:World.alloc _ _=W;obtain⟨hB,hb⟩:=jmo hW
 obtain⟨nb,k4⟩:∃nb,w.heap.size=nb:=⟨_,rfl⟩
 have h9:=hb;rw[<-HV.o]at h9;have HG:=jH (r5.o.box hB jN h9 rfl);have Z:=jH hB;rw[k4]at hb HG ⊢;have e0:=ja hb 0 rfl;have e1:=ja hb 1 rfl;have y0:=jH hb;have hl:=jb hb;have x5:w.heap.size<=nb:=by omega
 have x4:=jH k4;clear hW hB hb h9 k4
 go_wp2_with fail
 go_loopg [5,7,11] n (fun gh s5 s7 s11 (wr:World)=>∃(j:Nat) (s:ByteArray),j<=n/\gh=n-j/\s11= .int .i64 (j:Nat)/\s5= .string s/\s.size<=j*3000/\Inf.nmT (Inf.szT P.ts P.D) (Inf.txT P.ts P.D) ((P.bs.map tri).drop j) s=(Rs,Re,Rp)/\Below W.heap.size W wr)
 case atStart=>exact⟨0,⟨#[]⟩,by omega,rfl,rfl,rfl,Yi _,HR.o,jB⟩
 case round=>
  obtain⟨j,s,hj,x9,rfl,rfl,y1,A,Y⟩:=hrel;have HB:=jH Y;have q5:=Y.size;have r0:=(Y.cell (p:=⟨nb,0,none⟩) hl).trans e0;have r1:=(Y.cell (p:=⟨nb,1,none⟩) hl).trans e1;have x7:nb<wr.heap.size:=by omega
  have k7:=jH A;clear Y A
  by_cases r7:j<n
  .have u1:(j:Int)<(n:Int):=by omega
   obtain⟨b,h2⟩:∃b,P.bs[j]? =some b:=⟨_,Yb (by rw[HN.o];exact r7)⟩
   obtain⟨g,cap,e,h3,h4,d0,d1,d2,d3⟩:=(r9.o.on Z.o).cells h2;rw[HN.o]at e h3;have e':=x0.o.symm.trans e;cases e';have k0:=(HB.o.cell (p:=⟨g,j*4,none⟩) h4).trans d0;have k1:=(HB.o.cell (p:=⟨g,j*4+1,none⟩) h4).trans d1;have k2:=(HB.o.cell (p:=⟨g,j*4+2,none⟩) h4).trans d2;have k3:=(HB.o.cell (p:=⟨g,j*4+3,none⟩) h4).trans d3;have x8:g<wr.heap.size:=by omega
   have h0:=Yo h2;have h5:=HP.o.bt b h0;have r6:=HP.o.bx b h0;rw[<-HP.o.n]at h5;have A:=k7.o;rw[jzW (l:=P.bs.map tri) (a:=tri b) (by rw[Yr,h2];rfl)]at A;obtain⟨bx,bp,bt,bo⟩:=b;simp only at k0 k1 k2 k3 h5 r6;unfold Inf.nmT tri at A;simp only at A;have q8:=Inf.sz_pos HP.o.ok bt;have h7:=Inf.tx_size HP.o.ok bt;have k8:=jH h5;have CS:=jH (show ∀V,Below W.heap.size W V->Calls Tryz.prog 19 #[.pointer (some ⟨nb,0,none⟩),.int .i64 (bt:Nat),.int .i64 40] V fun e w'=>e= .returned (.int .i64 ((min (Inf.szT P.ts P.D bt) 41:Nat):Int))/\Below V.heap.size V w' from fun V hV=>jCi HP.o bt k8.o 40 (by omega) V (HG.o.on hV));clear d0 d1 d2 d3 h2 h0 e h5
   by_cases O:40<Inf.szT P.ts P.D bt
   .rw[if_pos O]at A
    rw[Nat.min_eq_right (by omega)]at CS;obtain⟨rfl,rfl,rfl⟩:⟨#[]⟩=Rs/\(8:Int)=Re/\bp=Rp:=by injection A with a b;injection b with b c;exact⟨a,b,c⟩
    clear A
    go_upto_region 5 with fail
    generalize hV:World.alloc _ _=V;obtain⟨I,F⟩:=jmo hV;have f1:=ja F 1 rfl;have f2:=ja F 2 rfl;have H:=jb F;have E:=jH (HB.o.trans (I.mono q5));clear hV F;have r8:=I.size
    go_upto_region 6 with(go_at_call 19;refine(CS.o _ E.o).mono ?_;rintro _ w2 ⟨rfl,C⟩;have g1:=(C.cell (p:=⟨wr.heap.size,1,none⟩) H).trans f1;have h6:=Yj H C.size;have K:=jH C;clear C)
    go_quiet (fail)
    go_wp2_with fail
    go_returns;refine⟨rfl,?_⟩;have hA:=Z.o.trans ((E.o.trans (K.o.mono E.o.size)).mono Z.o.size);exact⟨hA.os,hA.tape,hA.output,hA.size,hA.block⟩
   .rw[if_neg O]at A
    rw[Nat.min_eq_left (by omega)]at CS;have k5:=jH A
    obtain⟨z,hz⟩:∃z,Inf.szT P.ts P.D bt=z:=⟨_,rfl⟩
    have x1:z<=40:=by omega
    have CT:=jH (show ∀V,Below W.heap.size W V->Calls Tryz.prog 20 #[.pointer (some ⟨nb,0,none⟩),.int .i64 (bt:Nat)] V fun e w'=>e= .returned (.string (Inf.txT P.ts P.D bt))/\Below V.heap.size V w' from fun V hV=>jBN HP.o bt k8.o (by omega) V (HG.o.on hV))
    obtain⟨y,hy⟩:∃y,Inf.txT P.ts P.D bt=y:=⟨_,rfl⟩
    rw[hz]at CS h7;rw[hy]at CT k5 h7;have x3:y.size<=1000:=by omega
    clear A hz hy O h7 q8
    go_upto_region 5 with fail
    generalize hV:World.alloc _ _=V;obtain⟨I,F⟩:=jmo hV;have f2:=ja F 2 rfl;have f0:=ja F 0 rfl;have H:=jb F;have E:=jH (HB.o.trans (I.mono q5));clear hV F;have r8:=I.size
    obtain⟨vb,q4⟩:∃vb,wr.heap.size=vb:=⟨_,rfl⟩
    rw[q4]at f2 f0 H ⊢;have q7:nb<V.heap.size:=by omega
    clear I q4
    go_upto_region 7 with(go_at_call 19;refine(CS.o _ E.o).mono ?_;rintro _ w2 ⟨rfl,C⟩;have g0:=(C.cell (p:=⟨vb,0,none⟩) H).trans f0;have g2:=(C.cell (p:=⟨vb,2,none⟩) H).trans f2;have h6:=Yj H C.size;have x2:=Yj q7 C.size;have K:=jH (E.o.trans (C.mono E.o.size));clear C)
    have p0:∀B:Wd w2.heap.size w2,B.v.cell? ⟨vb,0,none⟩=some (.string bx):=wd_at g0 h6;have p2:∀B:Wd w2.heap.size w2,B.v.cell? ⟨vb,2,none⟩=some (.int .i64 (bt:Nat)):=wd_at g2 h6;have r3:=jH (show ∀B:Wd w2.heap.size w2,Calls Tryz.prog 20 #[.pointer (some ⟨nb,0,none⟩),.int .i64 (bt:Nat)] B.v fun e w'=>e= .returned (.string y)/\Below B.v.heap.size B.v w' from fun B=>CT.o B.v (K.o.trans (B.h.mono K.o.size)));have v1:¬(9223372036854775807<bx.size+1):=by omega
    have v2:¬(9223372036854775807<bx.size+1+y.size):=by omega
    have v3:¬(9223372036854775807<bx.size+1+y.size+1):=by omega
    have v4:¬(9223372036854775807<s.size+(bx.size+1+y.size+1)):=by omega
    haveI:=Wd.ne;refine jP 11 12 (by kernel_rfl) (by kernel_rfl) (by decide) ?_;simp only[TkD];refine jd (by decide) (by rfl) (v:=?v0) ?hv0 ?_
    case hv0=>(intro B;go_simp;all_goals with_reducible rfl)
    simp only[Act.put,SsT];refine jd (by decide) (by rfl) (v:=?v1) ?hv1 ?_
    case hv1=>(intro B;go_simp;all_goals with_reducible rfl)
    simp only[Act.put,SsT];refine jd (by decide) (by rfl) (v:=?v2) ?hv2 ?_
    case hv2=>(intro B;go_simp;all_goals with_reducible rfl)
    simp only[Act.put,SsT];refine jd (by decide) (by rfl) (v:=?v3) ?hv3 ?_
    case hv3=>(intro B;go_simp;all_goals with_reducible rfl)
    simp only[Act.put,SsT];refine jd (by decide) (by rfl) (v:=?v4) ?hv4 ?_
    case hv4=>(intro B;go_simp;all_goals with_reducible rfl)
    simp only[Act.put,SsT];refine jd (by decide) (by rfl) (v:=?v5) ?hv5 ?_
    case hv5=>(intro B;go_simp;all_goals with_reducible rfl)
    simp only[Act.put,SsT];refine jd (by decide) (by rfl) (v:=?v6) ?hv6 ?_
    case hv6=>(intro B;go_simp;all_goals with_reducible rfl)
    simp only[Act.put,SsT];refine jd (by decide) (by rfl) (v:=?v7) ?hv7 ?_
    case hv7=>(intro B;go_simp;exact r3.o B)
    simp only[Act.put,SsT];refine jd (by decide) (by rfl) (v:=?v8) ?hv8 ?_
    case hv8=>(intro B;go_simp;all_goals with_reducible rfl)
    simp only[Act.put,SsT];refine jd (by decide) (by rfl) (v:=?v9) ?hv9 ?_
    case hv9=>(intro B;go_simp;all_goals with_reducible rfl)
    simp only[Act.put,SsT];refine jd (by decide) (by rfl) (v:=?v10) ?hv10 ?_
    case hv10=>(intro B;go_simp;all_goals with_reducible rfl)
    simp only[Act.put,SsT];refine js ?_;intro B;have q9:=jH B.h
    go_wp2_with fail
    go_roundg (n-(j+1))
    case measure=>omega
    case rel=>
     refine⟨j+1,_,by omega,rfl,by go_num,rfl,?_,k5.o,K.o.trans (q9.o.mono K.o.size)⟩;simp only[Ky];show s.size+(bx.size+1+y.size+1)<=(j+1)*3000;omega
  .have:j=n:=by omega
   subst this;have r2:(P.bs.map tri).drop j=[]:=Ui (by rw[Ua,HN.o];omega);have A:=k7.o;rw[r2]at A;unfold Inf.nmT at A;obtain⟨rfl,rfl,rfl⟩:s=Rs/\(0:Int)=Re/\(0:Int)=Rp:=by injection A with a b;injection b with b c;exact⟨a,b,c⟩
   clear A
   go_wp2_with fail
   go_returns;exact⟨rfl,Z.o.trans (HB.o.mono Z.o.size)⟩
end Tg
end Go.Proofs.YtlpmpelnhdoboaaGreatDoor
