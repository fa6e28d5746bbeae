import Derived.Test.YtlpmpelnhdoboaaGreatDoorS16
import Derived.Test.YtlpmpelnhdoboaaGreatDoorS19
import Derived.Test.YtlpmpelnhdoboaaGreatDoorS24
set_option linter.unusedVariables false
set_option linter.unusedSimpArgs false
set_option maxHeartbeats 20000000
namespace Go.Proofs.YtlpmpelnhdoboaaGreatDoor
namespace Inf
inductive WM1:X->Prop where
 |nd {k:Nat}{p:Int}{xs:List ByteArray}{kids:List X}(h12:k=12->1<=xs.length) (hk:∀y ∈ kids,WM1 y):WM1 (.nd k p xs kids)
def Ar (ts:Tys):Prop:=∀t ∈ ts,(t.k=4->t.xs.length=1)/\(t.k=5->1<=t.xs.length)/\(t.k=6->2<=t.xs.length)
variable {S:DS}
theorem Ar.put (h:Ar S.ts) (k:Nat) (xs:List Nat) (hk:(k=4->xs.length=1)/\(k=5->1<=xs.length)/\(k=6->2<=xs.length)):Ar (S.put k xs).ts:=fun t ht=>by
 rcases Yq.1 ht with ht|ht
 .exact h t ht
 .have:t=⟨k,xs⟩:=by simpa using ht
  subst this;exact hk
theorem Ar.p0 (h:Ar S.ts) (k:Nat) (xs:List Nat) (hk:k<4):Ar (S.put k xs).ts:=h.put k xs ⟨fun e=>by omega,fun e=>by omega,fun e=>by omega⟩
theorem Ar.dem (h:Ar S.ts) (a b:Nat) (p:Int):Ar (S.dem a b p).ts:=h
theorem Ar.bad {S:DS}(h:Ar S.ts) (p:Int):Ar (S.bad p).ts:=h
theorem Ar.note (h:Ar S.ts) (x:ByteArray) (p:Int):Ar (S.note x p).ts:=h.p0 0 [] (by omega)
theorem Ar.each:∀{S:DS}(xs:List ByteArray) (p:Int),Ar S.ts->Ar (S.each xs p).ts
 |S,[],p,h=>h
 |S,x ::r,p,h=>by rw[DS.each];exact Ar.each r p (h.note x p)
theorem rng_len (n m:Nat):(rng n m).length=m:=by unfold rng;simp
def AW (x:X):Prop:=∀env S,Ar S.ts->Ar (dW x env S).2.ts
theorem AW.p {x:X}(h:AW x) {env:Env}(k:Nat) (hk:k<4) (A:Ar S.ts):Ar (dP k x env S).ts:=by
 rw[dP];exact(h env _ (A.p0 k [] hk)).dem _ _ _
theorem AW.e {x:X}(h:AW x) {env:Env}{S:DS}(A:Ar S.ts):Ar (dE x env S).2.ts:=by
 rw[dE];exact(((h env S A).p0 0 [] (by omega)).put 4 _ ⟨fun _=>rfl,fun e=>by omega,fun e=>by omega⟩).dem _ _ _
theorem aws:∀(l:List X),(∀y ∈ l,AW y)->∀env S,Ar S.ts->Ar (dWs l env S).2.ts
 |[],_,env,S,h=>by rw[dWs];exact h
 |x ::l,hl,env,S,h=>by
  rw[dWs];exact aws l (fun y hy=>hl y (Yv _ hy)) env _ (hl x (by simp) env S h)
theorem jI4:∀(n:Nat) (x:X),SizeOf.sizeOf x<=n->WZ x->WM1 x->AW x:=by
 intro n
 induction n with
 |zero=>intro x h;cases x;simp at h
 |succ n ih=>
  intro x hs K O env S A
  cases K with
  |@nd k p xs kids h hxx h6 k6 h5 h9 h10 h19 hk=>
   cases O with
   |nd h12 hk'=>
    have C:∀y ∈ kids,AW y:=fun y hy=>ih y (by have:=List.sizeOf_lt_of_mem hy;simp at hs;omega) (hk y hy) (hk' y hy)
    cases h with
    |leaf h=>
     rcases h with rfl|rfl|rfl|rfl|rfl|rfl <;> simp only[dW]
     .exact A.p0 _ _ (by omega)
     .exact A.p0 _ _ (by omega)
     .exact A.p0 _ _ (by omega)
     .exact A.p0 _ _ (by omega)
     .split
      .exact A
      .exact(A.bad p).p0 _ _ (by omega)
     .exact A.p0 _ _ (by omega)
    |@un _ _ a h=>
     have B:=C a (by simp);rcases h with rfl|rfl|rfl|rfl|rfl <;> simp only[dW]
     .exact(B.p 1 (by omega) A).p0 _ _ (by omega)
     .exact(B.p 2 (by omega) A).p0 _ _ (by omega)
     .exact(B.p 1 (by omega) A).p0 _ _ (by omega)
     .exact(B.e A).p0 _ _ (by omega)
     .exact(B _ _ (A.each xs p)).put _ _ ⟨fun e=>by omega,fun e=>by omega,fun _=>by rw[Yg,rng_len];have:=h12 rfl;simp;omega⟩
    |@two _ _ a b h=>
     have B:=C a (by simp);have E:=C b (by simp);rcases h with rfl|rfl|rfl|rfl|rfl|rfl|rfl <;> simp only[dW]
     .exact(E.p 1 (by omega) (B.p 1 (by omega) A)).p0 _ _ (by omega)
     .exact(E.p 1 (by omega) (B.p 1 (by omega) A)).p0 _ _ (by omega)
     .exact(E.p 1 (by omega) (B.p 1 (by omega) A)).p0 _ _ (by omega)
     .exact E _ _ (B.p 3 (by omega) A)
     .exact E _ _ ((B _ _ ((A.each xs p).put 5 _ ⟨fun e=>by omega,fun _=>by rw[rng_len];have:=h10 rfl;omega,fun e=>by omega⟩)).dem _ _ _)
     .exact E.p 1 (by omega) (B.e A)
     .exact(E _ _ (B.p 1 (by omega) A)).put 4 _ ⟨fun _=>rfl,fun e=>by omega,fun e=>by omega⟩
    |@lt _ a b h=>
     simp only[dW];exact C b (by simp) _ _ ((C a (by simp) _ _ (A.each xs p)).dem _ _ _)
    |@rc _ a b h=>
     simp only[dW];exact C b (by simp) _ _ ((C a (by simp) _ _ ((((A.each xs p).p0 0 [] (by omega)).put 6 _ ⟨fun e=>by omega,fun e=>by omega,fun _=>by rw[Yg,rng_len];have:=h9 rfl;simp;omega⟩).dem _ _ _)).dem _ _ _)
    |@three _ _ a b c h=>
     have B:=C a (by simp);have E:=C b (by simp);have H:=C c (by simp);rcases h with rfl|rfl <;> simp only[dW]
     .exact(H _ _ (E _ _ (B.p 2 (by omega) A))).dem _ _ _
     .exact((H _ _ (E.p 1 (by omega) (B.e A))).dem _ _ _).p0 _ _ (by omega)
    |@many _ _ a l h=>
     have I:=aws (a ::l) C env S A;have F:=dWs_len env (a ::l) S;rcases h with rfl|rfl <;> simp only[dW]
     .exact((I.p0 0 [] (by omega)).put 6 _ ⟨fun e=>by omega,fun e=>by omega,fun _=>by rw[Yg,List.length_tail,F];have:=h19 rfl;simp at this ⊢;omega⟩).dem _ _ _
     .exact I.put 5 _ ⟨fun e=>by omega,fun _=>by rw[F];simp,fun e=>by omega⟩
theorem ar_text {x:X}(A:WZ x) (B:WM1 x):Ar (dP 1 x [] ⟨[],[],[]⟩).ts:=(jI4 _ x jN A B).p 1 (by omega) (fun t ht=>by cases ht)
theorem Ar.kd {ts:Tys}(h:Ar ts) (i:Nat):(kd ts i=4->(kids ts i).length=1)/\(kd ts i=5->1<=(kids ts i).length)/\(kd ts i=6->2<=(kids ts i).length):=by
 unfold Inf.kd kids
 cases e :ts[i]? with
 |none=>refine⟨fun h=>?_,fun h=>?_,fun h=>?_⟩ <;> cases h
 |some t=>exact h t (Yo e)
section
variable {ts:Tys}{D:Dem}{c:Nat->Nat}
theorem jxG {i y z:Nat}(A:Rel ts D i y) (h:Sub ts D z y):Sub ts D z i:=by
 obtain⟨B,k,xs,a,C,E⟩:=h;exact⟨B,k,xs,a,A.trans C,E⟩
theorem jDS {i y x:Nat}(A:Rel ts D i y) (h:Pl (Sub ts D) y x):Pl (Sub ts D) i x:=by
 cases h with
 |one h=>exact .one (jxG A h)
 |more h h'=>exact .more (jxG A h) h'
open Classical in
noncomputable def rkT (n:Nat) (ts:Tys) (D:Dem) (c:Nat->Nat) (i:Nat):Nat:=(List.range n).countP fun x=>decide (¬∃y,c y=x/\Pl (Sub ts D) y i)
theorem rk_le (n:Nat) (i:Nat):rkT n ts D c i<=n:=by
 unfold rkT;refine Ym List.countP_le_length ?_;rw[List.length_range];exact jN
open Classical in
theorem rk_lt {n i a:Nat}(he:∀i j,c i=c j↔Rel ts D i j) (A:Fin ts D) (B:c i<n) (h:Sub ts D a i):rkT n ts D c a<rkT n ts D c i:=by
 unfold rkT;refine Tg.countP_lt (a:=c i) (Ub.2 B) (fun x _ hx=>?_) (decide_eq_true ?_) (decide_eq_false ?_)
 .have hx:=of_decide_eq_true hx
  exact decide_eq_true (fun⟨y,e,hp⟩=>hx ⟨y,e,hp.snoc h⟩)
 .rintro ⟨y,e,hp⟩
  exact jAA (A i) (jDS ((he _ _).1 e.symm) hp)
 .exact fun hc=>hc ⟨i,rfl,.one h⟩
end
end Inf
namespace Pl
open Go.RowKit Sl Tg
mutual
theorem wm_of:∀(c:T) (f:Nat->Int),wf c->Inf.WM1 (toX c f)
 | .nd b k s n xs kids,f,hw=>by
   rw[wf]at hw;rw[toX];have A:=jw5 k s kids 0 (fun i=>f (b+((pre k s n xs).length+i))) hw.2.2.2;refine .nd (fun e=>?_) (fun y hy=>?_)
   .subst e
    rw[if_neg (by decide)];have h:=hw.1;simp only[arB,Yc,Yd,Yn]at h;omega
   .split at hy
    .exact A y (List.mem_of_mem_tail hy)
    .exact A y hy
theorem jw5:∀(k s:Nat) (l:List T) (i:Nat) (f:Nat->Int),wfs k i l->∀y ∈ jni k s i l f,Inf.WM1 y
 |k,s,[],i,f,_,y,A=>by rw[jni]at A;cases A
 |k,s,c ::r,i,f,hw,y,A=>by
  rw[wfs]at hw;rw[jni]at A;rcases Kk.1 A with rfl|A
  .exact wm_of c _ hw.1
  .exact jw5 k s r (i+1) _ hw.2.2.2 y A
end
end Pl
namespace Dm
open Go.RowKit Tg
section
variable {ts:Inf.Tys}{D:Inf.Dem}{cl:List Nat}
theorem jzw {x i:Nat}(A:cl[i]? =some x) (E:∀i,cl[i]? =some x->Inf.kd ts i=0) (C:cl.length=ts.length) (he:∀i j,cf cl i=cf cl j↔Inf.Rel ts D i j):∀j,Inf.Rel ts D i j->Inf.kd ts j=0:=fun j hj=>Yt fun hk=>by
 have B:=jpq (cl:=cl) (i:=j) (by rw[C];exact kd_lt hk);rw[<-(he i j).2 hj,jqF A]at B;exact hk (E j B)
theorem jFP {x i g:Nat}(A:cl[i]? =some x) (B:cl[g]? =some x) (he:∀i j,cf cl i=cf cl j↔Inf.Rel ts D i j):Inf.Rel ts D i g:=(he i g).1 (by rw[jqF A,jqF B])
end
structure Kn (S:Inf.DS) (ds:List DT) (cl:List Nat) (D:Inf.Dem):Prop where
 cr:Cr cl
 ln:cl.length=S.ts.length
 kl:∀i a,a ∈ Inf.kids S.ts i->a<ds.length
 he:∀i j,cf cl i=cf cl j↔Inf.Rel S.ts D i j
 ok:Inf.Ok S.ts D
structure Hg (w:World) (κ:Tg.Kp) (S:Inf.DS) (n:Nat) (cl:List Nat) (D:Inf.Dem) (tg i g dk:Nat) (va:Option Addr) (vc:Nat) (xs:List Nat):Prop where
 lt:g<n
 k6:dk<=6
 k0:dk≠0
 len:xs.length<=1000
 c0:w.cell? ⟨tg,g*2,none⟩=some (.string (kS dk))
 c1:w.cell? ⟨tg,g*2+1,none⟩=some (.slice va xs.length vc)
 kt:KT w κ (.slice va xs.length vc) xs
 xl:∀a ∈ xs,a<n
 sub:∀a ∈ xs,Inf.Sub S.ts D a i
 kd:Inf.kd S.ts g=dk
 kids:Inf.kids S.ts g=xs
 sz:Inf.szT S.ts D i=1+(xs.map (Inf.szT S.ts D)).sum
 tx:Inf.txT S.ts D i=Inf.sp dk (xs.map (Inf.txT S.ts D))
theorem jzv {w:World}{κ:Tg.Kp}{cb tg:Nat}{Z:Nat}{U R O:Value}{B:List DT}{S:Inf.DS}{cl:List Nat}{D:Inf.Dem}(h:DK w κ cb (.slice (some ⟨tg,0,none⟩) B.length Z) U R O B S cl) (E:Kn S B cl D) {i x g:Nat}(Y:cl[i]? =some x) (K:cl[g]? =some x) (hk:Inf.kd S.ts g≠0):∃dk va vc xs,Hg w κ S B.length cl D tg i g dk va vc xs:=by
 have F:g<B.length:=by have:=(jG K).1;rw[h.ln]at this;exact this
 obtain⟨d,hd⟩:∃d,B[g]? =some d:=⟨_,Yb F⟩
 obtain⟨H,h0,W⟩:=h.dc.kds g d hd;obtain⟨va,vc,hv⟩:=H.slice;have C:=h.kd hd;have A:=h.kids hd;have I:=jFP Y K E.he;have c0:=h.dc.tr.cell (JR (f:=dtC) (c:=2) (fun _=>rfl) hd (k:=0) (by omega));have c1:=h.dc.tr.cell (JR (f:=dtC) (c:=2) (fun _=>rfl) hd (k:=1) (by omega));refine⟨d.k,va,vc,d.xs,F,h0,by rw[<-C];exact hk,W,c0,c1.trans (by show some d.v=_;rw[hv]),by rw[<-hv];exact H,fun a ha=>E.kl g a (by rw[A];exact ha),fun a ha=>Inf.sub_of I hk (by rw[A];exact ha),C,A,by rw[Inf.sz_mk E.ok I hk,A],by rw[Inf.tx_mk E.ok I hk,A,C]⟩
def PtQ (w:World) (z r:Nat) (e:Ending) (w':World):Prop:=∃m:Nat,e= .returned (.int .i64 (m:Nat))/\Below w.heap.size w w'/\(z<=40->m=z)/\(40<z->40<m)/\m<=1+40*r
set_option maxRecDepth 100000 in
theorem jD0 {κ:Tg.Kp}{cb:Nat}{tv av nv cv:Value}{E:List DT}{S:Inf.DS}{cl:List Nat}{D:Inf.Dem}(A:Kn S E cl D) (h9:E.length<=90000):∀i,i<E.length->∀w,DK w κ cb tv av nv cv E S cl->
 Calls Tryz.prog 14 #[.pointer (some ⟨cb,0,none⟩),.int .i64 (i:Nat)] w (PtQ w (Inf.szT S.ts D i) (Inf.rkT E.length S.ts D (cf cl) i)):=by
 intro i
 induction A.ok.2 i with
 |intro i _ ih=>
  intro hi w h;have HI:=jH ih;have HD:=jH h;have Y:=jH A;have v5:=Inf.rk_le (ts:=S.ts) (D:=D) (c:=cf cl) E.length i;have v6:=fun a (ha:Inf.Sub S.ts D a i)=>Inf.rk_lt (n:=E.length) A.he A.ok.2 (by rw[<-h.ln];exact jpU A.cr (by rw[h.ln];exact hi)) ha;have v2:=jH v6;have hx:=jpq (cl:=cl) (i:=i) (by rw[h.ln];exact hi)
  obtain⟨x,v3⟩:∃x,cf cl i=x:=⟨_,rfl⟩
  rw[v3]at hx;have HX:=jH hx;obtain⟨cg,cc,x4,y1,_,z0⟩:=h.cr.at (by rw[h.ln];omega);obtain⟨tg,tc,x1,v7,_,y4⟩:=h.dc.tr.at (by omega);subst x4;subst x1;have k1:=h.cr.cell (jqV hx);have c0:=ja h.dc.blk 0 rfl;have c3:=ja h.dc.blk 3 rfl;have y5:=h.dc.lt;have CH:=jH (fun(z:Int) (hz:z=(x:Nat))=>jtG (x:=x) h hz)
  obtain⟨R,hR⟩:∃R,Inf.rkT E.length S.ts D (cf cl) i=R:=⟨_,rfl⟩
  obtain⟨Z,hZ⟩:∃Z,Inf.szT S.ts D i=Z:=⟨_,rfl⟩
  rw[hR]at v5 v2 ⊢;rw[hZ];have HZ:=jH hZ;have k7:=h.ln;have y8:=jH k7
  obtain⟨n,hn⟩:∃n,E.length=n:=⟨_,rfl⟩
  rw[k7,hn]at c3 y1;rw[hn]at c0 hi h9 v5 v7;have HN:=jH hn;have u0:(i:Int)<(n:Int):=by omega
  clear ih h A v6 hx v3 hR hZ k7 hn
  go_enter Tryz.func14,Tryz.ntmps14
  go_upto_region 2 with(go_at_call 28;refine(CH.o _ rfl).mono ?_;rintro _ w' ⟨h4,r,rfl,q6⟩;have k8:=jH q6;have h4:=h4.symm;subst h4;clear q6)
  rcases k8.o with⟨k9,q8⟩|⟨g,k9,q9,k4⟩
  .subst k9
   have q4:=Inf.sz_opn Y.o.ok (jzw HX.o q8 Y.o.ln Y.o.he);rw[HZ.o]at q4;have r4:=jH q4;clear q8 q4 k8
   go_wp2_with fail
   go_returns;exact⟨1,rfl,jB,fun _=>r4.o.symm,fun h=>by have:=r4.o;omega,by omega⟩
  .subst k9
   obtain⟨dk,va,vc,xs,hg⟩:=jzv HD.o Y.o HX.o q9 k4;have HG:=jH hg;have d1:=hg.c1;have v9:=hg.lt;have x7:=hg.len
   obtain⟨H,A⟩:∃H,xs.length=H:=⟨_,rfl⟩
   rw[A]at d1 x7;rw[HN.o]at v9;have W:=hg.sz;rw[HZ.o]at W
   obtain⟨B,h2⟩:∃B,B=xs.map (Inf.szT S.ts D):=⟨_,rfl⟩
   rw[<-h2]at W;have v1:=jH h2;have h3:=jH W;have O:=jH A;have u1:((g:Nat):Int)<(n:Int):=by omega
   clear q9 k4 k8 hg A h2 W
   go_upto_region 6 with fail
   go_loopg [6,8,9] H (fun gh s6 s8 s9 (wr:World)=>∃(j q:Nat),j<=H/\gh=H-j/\s8= .int .i64 (j:Nat)/\s6= .int .i64 (q:Nat)/\Below w.heap.size w wr/\(1+(B.take j).sum<=40->q=1+(B.take j).sum)/\(40<1+(B.take j).sum->40<q)/\q<=1+40*R)
   case atStart=>exact⟨0,1,by omega,rfl,rfl,rfl,jB,fun _=>by simp,fun h=>by simp at h,by omega⟩
   case round=>
    obtain⟨j,q,hj,y6,rfl,rfl,hb,C,F,q5⟩:=hrel;have HB:=jH hb;have x9:=hb.size;have K:=juR B j;clear hb
    by_cases v8:j<H
    .have u2:(j:Int)<(H:Int):=by omega
     by_cases hq:q<=40
     .have u3:(q:Int)<=40:=by omega
      obtain⟨a,ha⟩:∃a,xs[j]? =some a:=⟨_,Yb (by rw[O.o];exact v8)⟩
      have U:=Yo ha;have h5:=HG.o.kt;rw[O.o]at h5;obtain⟨kg,ko,x2,y7,y9,k2⟩:=h5.cell O.o (Tg.Fr.of (S:=fun _=>False) (κ:=κ) HB.o) ha;subst x2;have q7:B[j]? =some (Inf.szT S.ts D a):=by rw[v1.o,Yr,ha];rfl
      have I:=jxE q7;have CR:=jH (HI.o a (HG.o.sub a U) (HG.o.xl a U) wr (HD.o.on HB.o));have h0:=v2.o a (HG.o.sub a U)
      obtain⟨za,r6⟩:∃za,Inf.szT S.ts D a=za:=⟨_,rfl⟩
      obtain⟨ra,k5⟩:∃ra,Inf.rkT E.length S.ts D (cf cl) a=ra:=⟨_,rfl⟩
      rw[r6]at I CR;rw[k5]at h0 CR
      have h8:q=1+(B.take j).sum:=by
       refine C (Yt fun h=>?_);have:=F (by omega);omega
      obtain⟨t0,r7⟩:∃t0,(B.take j).sum=t0:=⟨_,rfl⟩
      obtain⟨t1,h7⟩:∃t1,(B.take (j+1)).sum=t1:=⟨_,rfl⟩
      rw[r7]at h8 I K;rw[h7]at I;have r8:=jH h7;have v4:=jH h8;have r2:=jH I;have x0:=jH h0;have y3:ra<90000:=by omega
      clear C F h8 I h0 r6 k5 ha U h5 q7 r7 h7 K
      go_upto_region 9 with(go_at_call 14;refine CR.o.mono ?_;rintro _ w2 ⟨m,rfl,r9,r1,r5,y2⟩;have r3:=jH r1;have x6:=jH r5;have y0:=jH r9;clear r1 r5 r9)
      have yw:IntKind.i64.wrap ((q:Int)+(m:Int))=(q:Int)+(m:Int):=by rw[IntKind.wrap_i64];omega
      go_wp2_with fail
      go_roundg (H-(j+1))
      case measure=>omega
      case rel=>
       refine⟨j+1,q+m,by omega,rfl,by go_num,by go_num,HB.o.trans (y0.o.mono x9),?_,?_,?_⟩
       .intro h;rw[r8.o]at h ⊢;have e1:=v4.o;have e2:=r2.o;have e3:=r3.o;omega
       .intro h;rw[r8.o]at h;have e1:=v4.o;have e2:=r2.o;have e3:=r3.o;have e4:=x6.o;omega
       .have:=x0.o;omega
     .have u3:¬((q:Int)<=40):=by omega
      have u4:decide ((q:Int)<=40)=false:=decide_eq_false u3
      have h6:40<Z:=by
       have h1:¬(1+(B.take j).sum<=40):=fun h=>by have:=C h;omega
       have:=h3.o;omega
      have x8:=jH h6;clear C F h6
      go_wp2_with fail
      go_returns;exact⟨q,rfl,HB.o,fun h=>by have:=x8.o;omega,fun _=>by omega,q5⟩
    .have:j=H:=by omega
     subst this;have v0:B.take j=B:=Yw (by rw[v1.o,Ua,O.o];omega);rw[v0]at C F;have x3:=jH C;have x5:=jH F;clear C F v0 K
     go_wp2_with fail
     go_returns;exact⟨q,rfl,HB.o,fun h=>by have:=x3.o;have:=h3.o;omega,fun h=>by have:=x5.o;have:=h3.o;omega,q5⟩
end Dm
end Go.Proofs.YtlpmpelnhdoboaaGreatDoor
