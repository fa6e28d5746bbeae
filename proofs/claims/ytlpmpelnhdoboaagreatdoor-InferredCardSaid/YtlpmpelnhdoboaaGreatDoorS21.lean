import Derived.Test.YtlpmpelnhdoboaaGreatDoorS20
set_option linter.unusedVariables false
set_option linter.unusedSimpArgs false
set_option maxHeartbeats 20000000
namespace Go.Proofs.YtlpmpelnhdoboaaGreatDoor
namespace Dm
open Go.RowKit Tg
structure DK (w:World) (κ:Kp) (cb:Nat) (tv av nv cv:Value) (ds:List DT) (S:Inf.DS) (cl:List Nat):Prop where
 dc:DC w κ cb tv av nv cv ds S
 cr:TR w κ (4,0) 3 1 cv cl.length (nV' cl)
 ln:cl.length=ds.length
 n9:ds.length<=90000
variable {i a:Nat}
theorem jqV {l:List Nat}(h:l[i]? =some a):(nV' l)[i]? =some (.int .i64 (a:Nat)):=by unfold nV';rw[Yr,h];rfl
theorem jy4 {k:Nat}(h:k<=6):((kS k).toList == ([]:List UInt8))=decide (k=0):=by
 have:∀k:Fin 7,((kS k.val).data.toList == ([]:List UInt8))=decide (k.val=0):=by decide
 have:=this ⟨k,by omega⟩;rw[Ye];exact this
theorem DK.kd {w:World}{κ:Kp}{cb:Nat}{tv av nv cv:Value}{ds:List DT}{S:Inf.DS}{cl:List Nat}(h:DK w κ cb tv av nv cv ds S cl) {i:Nat}{d:DT}(hi:ds[i]? =some d):Inf.kd S.ts i=d.k:=by
 unfold Inf.kd;rw[<-h.dc.ts,Yr,hi];rfl
def HdR (ts:Inf.Tys) (cl:List Nat) (x:Nat) (r:Int):Prop:=(r= -1/\∀i,cl[i]? =some x->Inf.kd ts i=0)\/∃i:Nat,r=(i:Nat)/\cl[i]? =some x/\Inf.kd ts i≠0
variable {w:World}{κ:Kp}{cb x:Nat}{tv av nv cv:Value}{ds:List DT}{S:Inf.DS}{cl:List Nat}
set_option maxRecDepth 100000 in
theorem jtG {z:Int}(h:DK w κ cb tv av nv cv ds S cl) (hz:z=(x:Nat)) :
 Calls Tryz.prog 28 #[.pointer (some ⟨cb,0,none⟩),.int .i64 z] w fun e w'=>w'=w/\∃r,e= .returned (.int .i64 r)/\HdR S.ts cl x r:=by
 subst hz;have H:=jH h;have k8:=h.dc.lt;obtain⟨ta,tc,h5,h4⟩:=h.dc.tr.any;obtain⟨ca,cc,h9,h8⟩:=h.cr.any;subst h5;subst h9;have c0:=ja h.dc.blk 0 rfl;have c3:=ja h.dc.blk 3 rfl;have h7:=h.ln;have h3:=h.n9
 obtain⟨n,K⟩:∃n,ds.length=n:=⟨_,rfl⟩
 have F:cl.length=n:=by rw[h.ln,K]
 have HN:=jH K;have HC:=jH F;simp only[K,F,Yz,Yp,List.getElem_cons_succ]at c0 c3;rw[K]at h3;clear h h4 h8 h7 K F
 go_enter Tryz.func28,Tryz.ntmps28
 go_wp2_with fail
 go_loopg [5] n (fun gh s5 (wr:World)=>∃(j:Nat),j<=n/\gh=n-j/\s5= .int .i64 (j:Nat)/\wr=w/\∀i,i<j->cl[i]? =some x->Inf.kd S.ts i=0)
 case atStart=>exact⟨0,by omega,rfl,rfl,rfl,fun i hi=>by omega⟩
 case round=>
  obtain⟨j,hj,k4,rfl,rfl,I⟩:=hrel;have HA:=jH I;clear I
  by_cases W:j<n
  .have u1:(j:Int)<(n:Int):=by omega
   obtain⟨d,hd⟩:∃d,ds[j]? =some d:=⟨_,Yb (by rw[HN.o];exact W)⟩
   obtain⟨y,hy⟩:∃y,cl[j]? =some y:=⟨_,Yb (by rw[HC.o];exact W)⟩
   have A:=H.o.dc.tr;have B:=H.o.cr;rw[HN.o]at A;rw[HC.o]at B;obtain⟨tg,k2,R,_,_,k7⟩:=A.at (by omega);obtain⟨cg,k1,U,_,_,k5⟩:=B.at (by omega);have Z:=R;have Y:=U;injection R with R _ _
   injection U with U _ _
   subst R;subst U;rw[Z]at A;rw[Y]at B;have e1:=B.cell (jqV hy);have e2:=A.cell (JR (f:=dtC) (c:=2) (fun _=>rfl) hd (k:=0) (by omega));have e2:wr.cell? ⟨tg,j*2,none⟩=some (.string (kS d.k)):=e2;have h6:=(H.o.dc.kds j d hd).2.1;have h1:=H.o.kd hd;have C:=jy4 h6;have HY:=jH hy;have h2:=jH h1;clear A B Z Y hy hd h1
   by_cases O:y=x
   .subst O
    by_cases E:d.k=0
    .have hb:((kS d.k).toList == ([]:List UInt8))=true:=by rw[C,E];rfl
     have H0:=jH E;clear C E
     go_wp2_with fail
     go_roundg (n-(j+1))
     case measure=>omega
     case rel=>exact⟨j+1,by omega,rfl,by go_num,rfl,fun i hi hc=>by
      by_cases e:i=j
      .rw[e,h2.o];exact H0.o
      .exact HA.o i (by omega) hc⟩
    .have hb:((kS d.k).toList == ([]:List UInt8))=false:=by rw[C];exact decide_eq_false E
     have H0:=jH E;clear C E
     go_wp2_with fail
     go_returns;exact⟨rfl,_,rfl,.inr ⟨j,rfl,HY.o,by rw[h2.o];exact H0.o⟩⟩
   .have hb:((y:Nat):Int)≠((x:Nat):Int):=by omega
    have HX:=jH O;clear C O
    go_wp2_with fail
    go_roundg (n-(j+1))
    case measure=>omega
    case rel=>exact⟨j+1,by omega,rfl,by go_num,rfl,fun i hi hc=>by
     by_cases e:i=j
     .exfalso;rw[e,HY.o]at hc;exact HX.o (Uf hc)
     .exact HA.o i (by omega) hc⟩
  .have hjn:j=n:=by omega
   subst hjn
   go_wp2_with fail
   go_returns;exact⟨rfl,_,rfl,.inl ⟨rfl,fun i hc=>HA.o i (by have:=(jG hc).1;rw[HC.o]at this;exact this) hc⟩⟩
theorem DK.set {w:World}{κ:Kp}{cb:Nat}{tv av nv:Value}{g cap:Nat}{ds:List DT}{S:Inf.DS}{cl:List Nat}(h:DK w κ cb tv av nv (.slice (some ⟨g,0,none⟩) cl.length cap) ds S cl) (j x:Nat):DK (w.setCell ⟨g,j,none⟩ (.int .i64 (x:Nat))) κ cb tv av nv (.slice (some ⟨g,0,none⟩) cl.length cap) ds S (cl.set j x)/\Fr (· =(4,0)) κ κ w (w.setCell ⟨g,j,none⟩ (.int .i64 (x:Nat))):=by
 obtain⟨A,f⟩:=h.cr.set j (.int .i64 (x:Nat));have hs:(w.setCell ⟨g,j,none⟩ (.int .i64 (x:Nat))).heap.size=w.heap.size:=jy ..;have hd:=h.dc;refine⟨⟨⟨(f.rest cb hd.lt (fun t ht e=>by rw[hd.tg]at ht;cases ht;cases e)).trans hd.blk,hd.tr.keep f (by intro e;cases e),hd.ar.keep f (by intro e;cases e),hd.nr.keep f (by intro e;cases e),fun i d hi=>⟨(hd.kds i d hi).1.keep f,(hd.kds i d hi).2⟩,hd.ts,hd.tg,fun p hp=>hd.top p (by rw[hs]at hp;exact hp),fun b n hb=>by rw[hs];exact hd.n5 b n hb⟩,?_,by rw[List.length_set];exact h.ln,h.n9⟩,f⟩;rw[List.length_set,show nV' (cl.set j x)=(nV' cl).set j (.int .i64 (x:Nat)) by unfold nV';rw[List.map_set]];exact A
def jl (y x:Nat) (l:List Nat):List Nat:=l.map fun v=>if v=y then x else v
theorem jpQ (y x:Nat) (l:List Nat):(jl y x l).length=l.length:=by simp[jl]
def jp (y x j:Nat) (cl:List Nat):List Nat:=jl y x (cl.take j) ++cl.drop j
theorem jFu (y x j:Nat) (cl:List Nat):(jp y x j cl).length=cl.length:=by unfold jp;simp[jl];omega
variable {y j v:Nat}
theorem jy6 (h:cl[j]? =some v):(jp y x j cl)[j]? =some v:=by
 have A:=(jG h).1;unfold jp;rw[Ud (by rw[jpQ,List.length_take];omega),jpQ,List.length_take,List.getElem?_drop,show j+(j-min j cl.length)=j by omega];exact h
theorem jFt (h:cl[j]? =some v):jp y x (j+1) cl=(jp y x j cl).set j (if v=y then x else v):=by
 have A:=(jG h).1;have e:=(jG h).2;unfold jp;rw[List.set_append_right _ _ (by rw[jpQ,List.length_take];omega),jpQ,List.length_take,show j-min j cl.length=0 by omega,Ki A,List.set_cons_zero,Uc A,e];unfold jl;rw[Km,Yu];rfl
theorem jCs {l:List Nat}(h:l[j]? =some v):l.set j v=l:=by
 have A:=(jG h).1;have e:=(jG h).2;rw[<-e,List.set_getElem_self]
variable {b:Nat}
set_option maxRecDepth 100000 in
theorem jy7 {z1 z2:Int}(h:DK w κ cb tv av nv cv ds S cl) (k2:z1=(a:Nat)) (h4:z2=(b:Nat)) (Y:cl[a]? =some x) (W:cl[b]? =some y) :
 Calls Tryz.prog 25 #[.pointer (some ⟨cb,0,none⟩),.int .i64 z1,.int .i64 z2] w fun e w'=>e= .returned (.bool (decide (x≠y)))/\DK w' κ cb tv av nv cv ds S (jl y x cl)/\Fr (· =(4,0)) κ κ w w':=by
 subst k2;subst h4;have k9:=(jG Y).1;have k4:=(jG W).1;have q8:=h.dc.lt;obtain⟨U,A,k8,_,_,k7⟩:=h.cr.at (by omega);subst k8;have c3:=ja h.dc.blk 3 rfl;have e1:=h.cr.cell (jqV Y);have e2:=h.cr.cell (jqV W);have h3:=h.n9;rw[<-h.ln]at h3;have H0:=jH (show DK w κ cb tv av nv (.slice (some ⟨U,0,none⟩) cl.length A) ds S (jp y x 0 cl)from by unfold jp jl;simpa using h)
 obtain⟨n,hn⟩:∃n,cl.length=n:=⟨_,rfl⟩
 have HN:=jH hn;simp only[hn,Yz,Yp,List.getElem_cons_succ]at c3;rw[hn]at H0 h3 k9 k4 ⊢;have u1:(a:Int)<(n:Int):=by omega
 have u2:(b:Int)<(n:Int):=by omega
 clear h Y W hn
 go_enter Tryz.func25,Tryz.ntmps25
 go_wp2_with fail
 clear e1 e2 c3
 go_loopg [9] n (fun gh s9 (wr:World)=>∃(j:Nat),j<=n/\gh=n-j/\s9= .int .i64 (j:Nat)/\DK wr κ cb tv av nv (.slice (some ⟨U,0,none⟩) n A) ds S (jp y x j cl)/\Fr (· =(4,0)) κ κ w wr)
 case atStart=>exact⟨0,by omega,rfl,rfl,H0.o,Fr.refl _ _ _⟩
 case round=>
  obtain⟨j,hj,q7,rfl,E,I⟩:=hrel;have O:=jH E;have HF:=jH I;have q6:=E.dc.lt;have c3:=ja E.dc.blk 3 rfl;have k1:(jp y x j cl).length=n:=by rw[jFu,HN.o]
  have K:=jH k1;have q5:U<wr.heap.size:=Yj k7 I.low.size;clear E I k1
  by_cases k5:j<n
  .have u3:(j:Int)<(n:Int):=by omega
   obtain⟨v,hv⟩:∃v,cl[j]? =some v:=⟨_,Yb (by rw[HN.o];exact k5)⟩
   have Z:=O.o.cr;rw[K.o]at Z;have e1:=Z.cell (jqV (jy6 (y:=y) (x:=x) hv));have f1:=Z.frz j;have h2:=O.o;have B:=(show DK wr κ cb tv av nv (.slice (some ⟨U,0,none⟩) (jp y x j cl).length A) ds S (jp y x j cl)from by rw[K.o];exact h2).set j x;rw[K.o]at B;have R:=jH B;have h5:=jH (jFt (y:=y) (x:=x) hv);have q4:=jH (jy6 (y:=y) (x:=x) hv);clear Z h2 B hv
   by_cases F:v=y
   .have h8:=jH F
    subst F
    go_wp2_with fail
    go_roundg (n-(j+1))
    case measure=>omega
    case rel=>
     refine⟨j+1,by omega,rfl,by go_num,?_,HF.o.trans R.o.2⟩;have H:=h5.o
     first|rw[if_pos rfl]at H|simp only[if_true]at H
     rw[H];exact R.o.1
   .have hb:((v:Nat):Int)≠((y:Nat):Int):=by omega
    have h8:=jH F;clear F
    go_wp2_with fail
    go_roundg (n-(j+1))
    case measure=>omega
    case rel=>
     refine⟨j+1,by omega,rfl,by go_num,?_,HF.o⟩;have H:=h5.o;rw[if_neg h8.o,jCs q4.o]at H;rw[H];exact O.o
  .have hjn:j=n:=by omega
   subst hjn;have h1:jp y x j cl=jl y x cl:=by unfold jp;rw[Yw (by rw[HN.o];omega),List.drop_of_length_le (by rw[HN.o];omega),Kd]
   have h0:=jH h1;clear h1
   by_cases C:x=y
   .have h6:=jH C
    subst C
    go_wp2_with fail
    go_returns;exact⟨by simp,h0.o ▸ O.o,HF.o⟩
   .have hb:((x:Nat):Int)≠((y:Nat):Int):=by omega
    have h6:=jH C;clear C
    go_wp2_with fail
    go_returns;exact⟨by have h7:=h6.o;simp[h7];omega,h0.o ▸ O.o,HF.o⟩
def cf (cl:List Nat) (i:Nat):Nat:=(cl[i]?).getD i
theorem jqF (h:cl[i]? =some x):cf cl i=x:=by unfold cf;rw[h];rfl
theorem jtZ (h:cl.length<=i):cf cl i=i:=by unfold cf;rw[Ue h];rfl
theorem jpq (h:i<cl.length):cl[i]? =some (cf cl i):=by unfold cf;rw[Yb h];rfl
theorem jIs (n:Nat):cf (List.range n)=id:=by
 funext i
 rcases Kg i n with h|h
 .exact jqF (by rw[List.getElem?_range h];rfl)
 .exact jtZ (by simpa using h)
def Cr (cl:List Nat):Prop:=∀(i x:Nat),cl[i]? =some x->x<cl.length
theorem jHP (n:Nat):Cr (List.range n):=fun i x h=>by
 have A:=(jG h).1;have e:=(jG h).2;simp at A e ⊢;omega
theorem jza (h:cl[i]? =some v):(jl y x cl)[i]? =some (if v=y then x else v):=by unfold jl;rw[Yr,h];rfl
theorem jAh (A:y<cl.length):cf (jl y x cl)=Inf.jn (cf cl) y x:=by
 funext i
 rcases Kg i cl.length with h|h
 .rw[jqF (jza (jpq h))]
  rfl
 .rw[jtZ (by rw[jpQ];exact h),Inf.jn_new (by rw[jtZ h];omega),jtZ h]
theorem jtX (h:Cr cl) (B:x<cl.length):Cr (jl y x cl):=fun i v A=>by
 rw[jpQ];have C:i<cl.length:=by have:=(jG A).1;rw[jpQ]at this;exact this
 rw[jza (jpq C)]at A;have A:=Uf A;subst A
 split
 .exact B
 .exact h i _ (jpq C)
variable {ts:Inf.Tys}
theorem kd_lt (h:Inf.kd ts i≠0):i<ts.length:=by
 rcases Kg i ts.length with A|A
 .exact A
 .exfalso;apply h;unfold Inf.kd;rw[Ue A];rfl
theorem jFQ (B:cl.length=ts.length) (A:∀h,cl[h]? =some (cf cl i)->Inf.kd ts h=0):∀h,¬Inf.Hd ts (cf cl) i h:=fun h ⟨e,hk⟩=>hk (A h (by rw[<-e];exact jpq (by rw[B];exact kd_lt hk)))
theorem jvY {h:Nat}(e:cl[h]? =some (cf cl i)) (hk:Inf.kd ts h≠0):Inf.Hd ts (cf cl) i h:=⟨jqF e,hk⟩
def nc (cl:List Nat):Nat:=(List.range cl.length).countP fun v=>decide (v ∈ cl)
theorem jyP :v ∈ jl y x cl↔∃u ∈ cl,(if u=y then x else u)=v:=by unfold jl;rw[Uh]
theorem jyE (E:y<cl.length) (C:x ∈ cl) (F:y ∈ cl) (A:x≠y):nc (jl y x cl)<nc cl:=by
 unfold nc;rw[jpQ];refine countP_lt (a:=y) (Ub.2 E) (fun v _ hv=>?_) (decide_eq_true F) (decide_eq_false ?_)
 .obtain⟨u,B,e⟩:=jyP.1 (of_decide_eq_true hv)
  refine decide_eq_true ?_
  split at e
  .rw[<-e];exact C
  .rw[<-e];exact B
 .intro h
  obtain⟨u,B,e⟩:=jyP.1 h
  split at e
  .exact A e
  .rename_i h';exact h' e
theorem jvQ (x:Nat) (cl:List Nat):jl x x cl=cl:=by
 unfold jl
 conv=>rhs;rw[<-List.map_id cl]
 refine List.map_congr_left fun v _=>?_
 split
 .rename_i h;rw[h];rfl
 .rfl
def jf (cl:List Nat):List (Nat × Nat)->List Nat
 |[]=>cl
 |(a,b) ::ps=>jf (jl (cf cl b) (cf cl a) cl) ps
theorem jzb (a b:Nat):∀(ps:List (Nat × Nat)) (cl:List Nat),jf cl (ps ++[(a,b)])=jl (cf (jf cl ps) b) (cf (jf cl ps) a) (jf cl ps)
 |[],cl=>rfl
 |(c,d) ::ps,cl=>by rw[Ka,jf,jzb a b ps,jf]
theorem jzc:∀(ps:List (Nat × Nat)) (cl:List Nat),(jf cl ps).length=cl.length
 |[],cl=>rfl
 |(c,d) ::ps,cl=>by rw[jf,jzc ps,jpQ]
theorem jpU (h:Cr cl) (A:a<cl.length):cf cl a<cl.length:=h a _ (jpq A)
theorem jvS:∀(ps:List (Nat × Nat)) (cl:List Nat),Cr cl->(∀p ∈ ps,p.1<cl.length/\p.2<cl.length)->Cr (jf cl ps)
 |[],cl,h,_=>h
 |(c,d) ::ps,cl,h,hp=>by
  rw[jf];exact jvS ps _ (jtX h (jpU h (hp _ (Kx ..)).1)) (fun p q=>by rw[jpQ];exact hp p (Yv _ q))
theorem jzd:∀(ps:List (Nat × Nat)) (cl:List Nat),Cr cl->(∀p ∈ ps,p.1<cl.length/\p.2<cl.length)->Inf.Jo (cf cl) ps (cf (jf cl ps))
 |[],cl,h,_=>.nil _
 |(c,d) ::ps,cl,h,hp=>by
  have A:=hp _ (Kx ..);refine .cons ?_;rw[jf,<-jAh (jpU h A.2)];exact jzd ps _ (jtX h (jpU h A.1)) (fun p q=>by rw[jpQ];exact hp p (Yv _ q))
theorem jvR:∀(ps:List (Nat × Nat)) (cl:List Nat),(∀p ∈ ps,cf cl p.1=cf cl p.2)->jf cl ps=cl
 |[],cl,_=>rfl
 |(c,d) ::ps,cl,hp=>by
  have A:cf cl c=cf cl d:=hp _ (Kx ..);rw[jf,A,jvQ];exact jvR ps cl (fun p q=>hp p (Yv _ q))
theorem jt0 (h:a<cl.length):cf cl a ∈ cl:=Yo (jpq h)
theorem jEA (h:Cr cl) (B:a<cl.length) (A:b<cl.length):nc (jl (cf cl b) (cf cl a) cl)<=nc cl:=by
 by_cases e:cf cl a=cf cl b
 .rw[e,jvQ];exact jN
 .exact Ug (jyE (jpU h A) (jt0 B) (jt0 A) e)
theorem jyF:∀(ps:List (Nat × Nat)) (cl:List Nat),Cr cl->(∀p ∈ ps,p.1<cl.length/\p.2<cl.length)->nc (jf cl ps)<=nc cl
 |[],cl,_,_=>jN
 |(c,d) ::ps,cl,h,hp=>by
  have A:=hp _ (Kx ..);rw[jf];exact Ym (jyF ps _ (jtX h (jpU h A.1)) (fun p q=>by rw[jpQ];exact hp p (Yv _ q))) (jEA h A.1 A.2)
def SC (t:Tag):Prop:=t=(4,0)\/t=(6,0)
def iV (l:List Int):List Value:=l.map (.int .i64 ·)
theorem jzn {l:List Int}{a:Int}(h:l[i]? =some a):(iV l)[i]? =some (.int .i64 a):=by unfold iV;rw[Yr,h];rfl
theorem jFL (l:List Int) (i:Nat) (a:Int):iV (l.set i a)=(iV l).set i (.int .i64 a):=by unfold iV;rw[List.map_set]
theorem DK.keep {S0:Tag->Prop}{w w':World}{κ B:Kp}{cb:Nat}{tv av nv cv:Value}{ds:List DT}{S:Inf.DS}{cl:List Nat}(h:DK w κ cb tv av nv cv ds S cl) (A:Fr S0 κ B w w') (hs:∀t,S0 t->t=(6,0)) (ht:∀p,w'.heap.size<=p->B p=none) (C:∀b n,B b=some (5,n)->n<w'.heap.size):DK w' B cb tv av nv cv ds S cl:=by
 have hd:=h.dc;exact⟨⟨(A.rest cb hd.lt (fun t ht e=>by rw[hd.tg]at ht;cases ht;cases hs _ e)).trans hd.blk,hd.tr.keep A (fun e=>by cases hs _ e),hd.ar.keep A (fun e=>by cases hs _ e),hd.nr.keep A (fun e=>by cases hs _ e),fun i d hi=>⟨(hd.kds i d hi).1.keep A,(hd.kds i d hi).2⟩,hd.ts,(A.old cb hd.lt).trans hd.tg,ht,C⟩,h.cr.keep A (fun e=>by cases hs _ e),h.ln,h.n9⟩
theorem DK.on {w':World}(h:DK w κ cb tv av nv cv ds S cl) (A:Below w.heap.size w w'):DK w' κ cb tv av nv cv ds S cl:=
 h.keep (S0:=fun _=>False) (.of A) (fun _ e=>e.elim) (fun p hp=>h.dc.top p (Ym A.size hp)) (fun b n hb=>Yj (h.dc.n5 b n hb) A.size)
theorem DK.row {W:World}{n:Nat}{xs:List Value}{e:TypeId}(h:DK w κ cb tv av nv cv ds S cl) (C:w.alloc (.cells xs.toArray e (0,0))=W) (B:xs.length=n) (H:n<=100000) :
 ∃κ',DK W κ' cb tv av nv cv ds S cl/\TR W κ' (6,0) e 1 (.slice (some ⟨w.heap.size,0,none⟩) n n) n xs/\Fr (· =(6,0)) κ κ' w W:=by
 have F:Below w.heap.size w W:=by rw[<-C];exact jB.alloc jN _
 have A:W.heap[w.heap.size]? =some (.cells xs.toArray e (0,0)):=by rw[<-C];exact jg w _
 have I:W.heap.size=w.heap.size+1:=by rw[<-C,Ya]
 have E:Fr (· =(6,0)) κ (jq κ w.heap.size (6,0)) w W:=(Fr.of F).tags (fun b A=>JG A);refine⟨_,h.keep E (fun _ e=>e) (fun p hp=>jmx h.dc.top (by omega) hp) (fun b m A=>?_),⟨⟨by rw[B,Nat.mul_one],.inr ⟨w.heap.size,n,xs.toArray,rfl,Yi _,A,jN,by unfold maxLen;omega,?_,?_⟩⟩,fun b A=>?_⟩,E⟩
 .unfold jq at A
  split at A
  .cases A
  .exact Yj (h.dc.n5 b m A) F.size
 .simp[B]
 .simp[B,Yw (Nat.le_of_eq B)]
 .cases A
  unfold jq;rw[if_pos rfl]
theorem jFr (B:a<=6) (A:b<=6):((kS a).toList == (kS b).toList)=decide (a=b):=by
 have:∀a b:Fin 7,((kS a.val).data.toList == (kS b.val).data.toList)=decide (a.val=b.val):=by decide
 have:=this ⟨a,by omega⟩ ⟨b,by omega⟩;rw[Ye,Ye];exact this
theorem DK.kids {w:World}{κ:Kp}{cb:Nat}{tv av nv cv:Value}{ds:List DT}{S:Inf.DS}{cl:List Nat}(h:DK w κ cb tv av nv cv ds S cl) {i:Nat}{d:DT}(hi:ds[i]? =some d):Inf.kids S.ts i=d.xs:=by
 unfold Inf.kids;rw[<-h.dc.ts,Yr,hi];rfl
def Mt (ts:Inf.Tys) (c:Nat->Nat) (H:Nat->Nat) (i:Nat):Prop:=Inf.Hd ts c i (H (c i))/\Inf.kd ts i=Inf.kd ts (H (c i))/\(Inf.kids ts i).length=(Inf.kids ts (H (c i))).length/\∀p ∈ (Inf.kids ts i).zip (Inf.kids ts (H (c i))),c p.1=c p.2
theorem jHO {c H:Nat->Nat}(h:∀i,Inf.kd ts i≠0->Mt ts c H i):Inf.Cs ts c true c:=
 .stop fun i j e hi hj=>⟨H (c i),(h i hi).1,(h i hi).2,by rw[e];exact(h j hj).2⟩
def hdN (rs:List Int) (x:Nat):Nat:=((rs[x]?).getD 0).toNat
theorem jFO {A:List Int}(B:cl[i]? =some x) (hk:Inf.kd ts i≠0) (h:∃r,A[x]? =some r/\HdR ts cl x r):∃g,A[x]? =some ((g:Nat):Int)/\hdN A x=g/\cl[g]? =some x/\Inf.kd ts g≠0/\Inf.Hd ts (cf cl) i (hdN A (cf cl i)):=by
 obtain⟨r,F,⟨_,C⟩|⟨g,rfl,C,E⟩⟩:=h
 .exact absurd (C i B) hk
 .have e:hdN A x=g:=by unfold hdN;rw[F];rfl
  refine⟨g,F,e,C,E,?_⟩;rw[jqF B,e];exact jvY (by rw[jqF B];exact C) E
theorem jxy {xs ys:List Nat}{k:Nat}(B:xs[k]? =some a) (A:ys[k]? =some b):(xs.zip ys).take (k+1)=(xs.zip ys).take k ++[(a,b)]:=by
 have:(xs.zip ys)[k]? =some (a,b):=by rw[List.getElem?_zip_eq_some];exact⟨B,A⟩
 rw[List.take_add_one,this];rfl
end Dm
end Go.Proofs.YtlpmpelnhdoboaaGreatDoor
