import Derived.Test.YtlpmpelnhdoboaaGreatDoorS22
import Derived.Test.YtlpmpelnhdoboaaGreatDoorS23
set_option linter.unusedVariables false
set_option linter.unusedSimpArgs false
set_option maxHeartbeats 20000000
namespace Go.Proofs.YtlpmpelnhdoboaaGreatDoor
namespace Dm
open Go.RowKit Tg
theorem Tryz.kiBo:(Tryz.prog.info? 4).map (fun i=>(i.zero,i.size,i.bytes))=some (some (.bool false),1,1):=by kernel_rfl
theorem Tryz.kuBo:Tryz.prog.underlying 125=some (.slice 4):=by kernel_rfl
theorem jEV (n:Nat) (E:n<=100000) (w:World):(Instr.makeSlice 125 (.int .i64 (n:Int)) (.int .i64 (n:Int))).run Tryz.prog w= .ok (.slice (some ⟨w.heap.size,0,none⟩) n n) (w.alloc (.cells (List.replicate n (Value.bool false)).toArray 4)):=by
 obtain⟨i,hi,B,hs,C⟩:=info_parts Tryz.kiBo;have A:=run_make (P:=Tryz.prog) w 125 4 i _ Tryz.kuBo hi B .i64 .i64 n (n:Int) (by omega) (by omega) (by rw[C];omega) (by omega);rw[hs]at A;simp only[Int.toNat_natCast,Nat.mul_one]at A
 have e:madeCells (Value.bool false).cells n=(List.replicate n (Value.bool false)).toArray:=by
  apply Array.toList_inj.1;rw[show(Value.bool false).cells=#[.bool false] from rfl,toList_madeCells_one]
 rw[e]at A;exact A
def FnQ (κ:Kp) (cb:Nat) (tv av nv cv:Value) (ds:List DT) (S:Inf.DS) (cl:List Nat) (D:Inf.Dem) (w:World) (e:Ending) (w':World):Prop:=∃r κ',e= .returned (.bool r)/\DK w' κ' cb tv av nv cv ds S cl/\(r=true↔Inf.Fin S.ts D)/\Fr SC κ κ' w w'
structure FN1 (w:World) (κ κ2:Kp) (cb hb n:Nat) (tv av nv cv:Value) (ds:List DT) (S:Inf.DS) (cl:List Nat) (D:Inf.Dem) (wr:World) (gl:List Bool):Prop where
 dk:DK wr κ2 cb tv av nv cv ds S cl
 row:TR wr κ2 (6,0) 4 1 (.slice (some ⟨hb,0,none⟩) n n) n (bV gl)
 ln:gl.length=n
 fr:Fr SC κ κ2 w wr
 fg:Inf.Fg S.ts D (cf cl) (gN gl)
theorem FN1.on {w:World}{κ B:Kp}{cb E n:Nat}{tv I F C:Value}{H:List DT}{S:Inf.DS}{cl:List Nat}{D:Inf.Dem}{wr W:World}{gl:List Bool}(h:FN1 w κ B cb E n tv I F C H S cl D wr gl) (A:Below wr.heap.size wr W):FN1 w κ B cb E n tv I F C H S cl D W gl:=
 ⟨h.dk.on A,h.row.keep (S:=fun _=>False) (.of A) id,h.ln,h.fr.trans (.of A),h.fg⟩
def Bad (ts:Inf.Tys) (cl:List Nat) (gl:List Bool) (x:Nat):Prop:=gN gl x=false->∃i,cl[i]? =some x/\Inf.kd ts i≠0/\∃a ∈ Inf.kids ts i,gN gl (cf cl a)=false
set_option maxRecDepth 100000 in
theorem jGx {w:World}{κ:Kp}{cb:Nat}{tv av nv cv:Value}{ds:List DT}{S:Inf.DS}{cl:List Nat}{D:Inf.Dem}(h:DK w κ cb tv av nv cv ds S cl) (q9:Cr cl) (hK:∀i a,a ∈ Inf.kids S.ts i->a<ds.length) (he:∀i j,cf cl i=cf cl j↔Inf.Rel S.ts D i j) (hc:¬Inf.Clash S.ts D) :
 Calls Tryz.prog 27 #[.pointer (some ⟨cb,0,none⟩)] w (FnQ κ cb tv av nv cv ds S cl D w):=by
 have HK:=jH hK;have H0:=jH h;have h6:=jH q9;have HE:=jH he;have x1:=jH hc;obtain⟨ta,tc,y5,H2⟩:=h.dc.tr.any;obtain⟨ca,cc,z2,K7⟩:=h.cr.any
 obtain⟨n,hn⟩:∃n,ds.length=n:=⟨_,rfl⟩
 have K2:=h.n9;have q4:=h.ln;have x7:cl.length=S.ts.length:=by rw[h.ln,<-h.dc.ts,Ua]
 have q7:=jH x7;rw[hn]at K2 y5 q4 H2;rw[q4]at z2 K7;subst y5;subst z2;have HN:=jH hn;have E:=jH q4;have N5:=jEV n (by omega);have x0:=h.dc.lt;have c0:=ja h.dc.blk 0 rfl;clear h q9 hK he hc hn q4 x7
 go_enter Tryz.func27,Tryz.ntmps27
 go_upto_region 2 with fail
 generalize hWW:World.alloc _ _=W;obtain⟨κ2,y4,h4,x5⟩:=H0.o.row (n:=n) (xs:=List.replicate n (.bool false)) hWW (by simp) (by omega);have y3:=jH (show FN1 w κ κ2 cb w.heap.size n (.slice ta n tc) av nv (.slice ca n cc) ds S cl D W (List.replicate n false)from⟨y4,by unfold bV;rw[List.map_replicate];exact h4,by simp,x5.mono fun t h=>.inr h,by have:=jGF q7.o h6.o HE.o;rw[E.o]at this;exact this⟩)
 obtain⟨K,y2⟩:∃K,w.heap.size=K:=⟨_,rfl⟩
 rw[y2]at y3 ⊢;clear hWW y4 h4 x5 c0 x0 y2
 go_wp2_with fail
 go_loopg [4,5,6,7,8,9] (2*n+1) (fun gh s4 s5 s6 s7 s8 s9 (wr:World)=>∃(m:Bool) (gl:List Bool),s4= .bool m/\FN1 w κ κ2 cb K n (.slice ta n tc) av nv (.slice ca n cc) ds S cl D wr gl/\2*nb gl+(if m then 1 else 0)<=gh/\(m=false->∀x,x<n->Bad S.ts cl gl x))
 case atStart=>
  refine⟨true,_,rfl,y3.o,?_,fun h=>by cases h⟩;have:=jEB (List.replicate n false);rw[List.length_replicate]at this;simp;omega
 case round=>
  obtain⟨m,gl,rfl,hC,k7,r3⟩:=hrel
  obtain⟨w1,rfl⟩:∃w1,w1=wr:=⟨_,rfl⟩
  have HC:=jH hC;have y0:=jH r3
  cases m with
  |false=>
   have H:=jH hC.ln;clear hC k7 r3
   go_upto_region 22 with fail
   go_loopg [10] n (fun gh s10 (wr:World)=>∃(j:Nat),j<=n/\gh=n-j/\s10= .int .i64 (j:Nat)/\wr=w1/\∀x,x<j->gN gl x=true)
   case atStart=>exact⟨0,by omega,rfl,rfl,rfl,fun x h=>by omega⟩
   case round=>
    obtain⟨j,hj,H6,rfl,rfl,r2⟩:=hrel;have HA:=jH r2;clear r2
    by_cases k2:j<n
    .have u1:(j:Int)<(n:Int):=by omega
     have h0:gl[j]? =some (gN gl j):=jv4 (by rw[H.o];exact k2);have e1:=HC.o.row.cell (jwG h0)
     obtain⟨b,Z⟩:∃b,gN gl j=b:=⟨_,rfl⟩
     rw[Z]at e1;have HB:=jH Z;clear h0 Z
     cases b with
     |true=>
      go_wp2_with fail
      go_roundg (n-(j+1))
      case measure=>omega
      case rel=>exact⟨j+1,by omega,rfl,by go_num,rfl,fun x F=>by
       by_cases e:x=j
       .rw[e];exact HB.o
       .exact HA.o x (by omega)⟩
     |false=>
      go_wp2_with fail
      go_returns;refine⟨false,κ2,rfl,HC.o.dk,⟨fun h=>(by cases h),fun hF=>?_⟩,HC.o.fr⟩;exfalso;have h8:=y0.o (by first|rfl|trivial);obtain⟨i,hi,_⟩:=h8 j k2 HB.o;exact jEv hi HB.o ((jzN q7.o h6.o HE.o x1.o HC.o.fg (by rw[H.o,E.o]) (fun x F=>h8 x (by rw[E.o]at F;exact F))).2 hF)
    .have hjn:j=n:=by omega
     subst hjn
     go_wp2_with fail
     go_returns;refine⟨true,κ2,rfl,HC.o.dk,⟨fun _=>?_,fun _=>rfl⟩,HC.o.fr⟩;have h8:=y0.o (by first|rfl|trivial);exact(jzN q7.o h6.o HE.o x1.o HC.o.fg (by rw[H.o,E.o]) (fun x F=>h8 x (by rw[E.o]at F;exact F))).1 (all_good h6.o (by rw[H.o,E.o]) (fun x F=>HA.o x (by rw[H.o]at F;exact F)))
  |true=>
   have k7:2*nb gl+1<=gk:=by simpa using k7
   have x4:=jH k7;clear hC k7 r3
   go_upto_region 6 with fail
   go_loopg [4,5,6,7,8,9] n (fun gh s4 s5 s6 s7 s8 s9 (wr:World)=>∃(j:Nat) (m:Bool) (A:List Bool),j<=n/\gh=n-j/\s5= .int .i64 (j:Nat)/\s4= .bool m/\FN1 w κ κ2 cb K n (.slice ta n tc) av nv (.slice ca n cc) ds S cl D wr A/\(m=false->A=gl/\∀x,x<j->Bad S.ts cl gl x)/\(m=true->nb A<nb gl))
   case atStart=>exact⟨0,false,gl,by omega,rfl,rfl,rfl,HC.o,fun _=>⟨rfl,fun x h=>by omega⟩,fun h=>by cases h⟩
   case round=>
    obtain⟨j,m,A,hj,H6,rfl,rfl,h5,x9,y6⟩:=hrel
    obtain⟨w2,rfl⟩:∃w2,w2=wr:=⟨_,rfl⟩
    have B:=jH h5;have I:=jH x9;have q8:=jH y6;have x0:=h5.dk.dc.lt;have c0:=ja h5.dk.dc.blk 0 rfl;have c3:=ja h5.dk.dc.blk 3 rfl;have H:=jH h5.ln;clear h5 x9 y6
    by_cases k2:j<n
    .have u1:(j:Int)<(n:Int):=by omega
     have h0:A[j]? =some (gN A j):=jv4 (by rw[H.o];exact k2);have e1:=B.o.row.cell (jwG h0)
     obtain⟨b,Z⟩:∃b,gN A j=b:=⟨_,rfl⟩
     rw[Z]at e1 h0;have HB:=jH Z;have K0:=jH h0;clear h0 Z
     cases b with
     |true=>
      go_wp2_with fail
      go_roundg (n-(j+1))
      case measure=>omega
      case rel=>
       refine⟨j+1,m,A,by omega,rfl,by go_num,rfl,B.o,fun h=>⟨(I.o h).1,fun x F=>?_⟩,q8.o⟩
       by_cases e:x=j
       .intro hf;rw[<-(I.o h).1,e,HB.o]at hf;cases hf
       .exact(I.o h).2 x (by omega)
     |false=>
      have f1:=B.o.row.frz j;have CH:=jH (fun(z:Int) (hz:z=(j:Nat))=>jtG (x:=j) B.o.dk hz)
      have r7:Hid (∀W,Below w2.heap.size w2 W->((∀i,cl[i]? =some j->Inf.kd S.ts i=0)\/∃i,cl[i]? =some j/\Inf.kd S.ts i≠0/\∀a ∈ Inf.kids S.ts i,gN A (cf cl a)=true)->FN1 w κ κ2 cb K n (.slice ta n tc) av nv (.slice ca n cc) ds S cl D (W.setCell ⟨K,j,none⟩ (.bool true)) (A.set j true)/\nb (A.set j true)<nb gl):=fun W hW hh=>by
       have h9:=B.o.on hW;obtain⟨h1,h2⟩:=h9.row.set j (.bool true);refine⟨⟨h9.dk.keep h2 (fun _ e=>e) (fun p hp=>h9.dk.dc.top p (by rw[jy]at hp;exact hp)) (fun b m K=>by rw[jy];exact h9.dk.dc.n5 b m K),by rw[jI0];exact h1,by rw[List.length_set];exact H.o,h9.fr.trans (h2.mono fun t h=>.inr h),jGG q7.o h6.o HE.o x1.o B.o.fg (by rw[H.o,E.o]) (by rw[E.o];exact k2) hh⟩,?_⟩;have h3:=jyG K0.o
       cases m with
       |true=>have:=q8.o rfl;omega
       |false=>rw[(I.o rfl).1]at h3 ⊢;omega
      go_upto_region 10 with(go_at_call 28;refine(CH.o _ rfl).mono ?_;rintro _ w' ⟨r4,r,rfl,x6⟩;have x2:=jH x6;have r4:=r4.symm;subst r4;clear x6)
      rcases x2.o with⟨R,x8⟩|⟨g,R,Y,r6⟩
      .subst R
       have k4:=jH (r7.o w2 jB (.inl x8));clear x8 x2
       go_wp2_with fail
       go_roundg (n-(j+1))
       case measure=>omega
       case rel=>exact⟨j+1,true,A.set j true,by omega,rfl,by go_num,rfl,k4.o.1,fun h=>(by cases h),fun _=>k4.o.2⟩
      .subst R
       have z6:=jH Y;have z4:=jH r6;have z9:g<n:=by have:=(jG Y).1;rw[E.o]at this;exact this
       obtain⟨d,hd⟩:∃d,ds[g]? =some d:=⟨_,Yb (by rw[HN.o];exact z9)⟩
       have h7:=B.o.dk.kids hd;obtain⟨k5,_,k9⟩:=B.o.dk.dc.kds g d hd;obtain⟨va,vc,k8⟩:=k5.slice
       obtain⟨xs,z1⟩:∃xs,d.xs=xs:=⟨_,rfl⟩
       obtain⟨U,r5⟩:∃U,xs.length=U:=⟨_,rfl⟩
       rw[z1]at h7 k5 k9 k8;rw[r5]at k9 k8;rw[k8]at k5;have R:=B.o.dk.dc.tr;rw[HN.o]at R;obtain⟨tg,N2,te,K8,_,N4⟩:=R.at (by omega);have h4:=B.o.dk.cr;rw[E.o]at h4;obtain⟨cg,N1,ce,K9,_,K6⟩:=h4.at (by omega);have K4:=te;have H4:=ce;injection te with te _ te2
       injection ce with ce _ ce2
       subst te te2 ce ce2;have d1:=R.cell (JR (f:=dtC) (c:=2) (fun _=>rfl) hd (k:=1) (by omega));replace d1:w2.cell? ⟨tg,g*2+1,none⟩=some (.slice va U vc):=d1.trans (by show some d.v=_;rw[k8]);have u2:((g:Nat):Int)<(n:Int):=by omega
       have H7:=jH k5;have x3:=jH r5;have r1:=jH h7;have K1:=jH h4;have q6:=jH ((B.o.row.own.lt K rfl).2);clear Y r6 x2 h7 k5 k8 z1 r5 R h4 K4 H4 hd
       go_upto_region 14 with fail
       go_loopg [7,9] U (fun gh s7 s9 (wr:World)=>∃(k:Nat) (b:Bool),k<=U/\gh=U-k/\s9= .int .i64 (k:Nat)/\s7= .bool b/\Below w2.heap.size w2 wr/\(b=true->∀(x a:Nat),x<k->xs[x]? =some a->gN A (cf cl a)=true)/\(b=false->∃a ∈ xs,gN A (cf cl a)=false))
       case atStart=>exact⟨0,true,by omega,rfl,rfl,rfl,jB,fun _ x a h=>by omega,fun h=>by cases h⟩
       case round=>
        obtain⟨k,b,hk,N0,rfl,rfl,q5,z0,y9⟩:=hrel;have O:=jH q5;have H9:=q5.size;have y8:=(q5.cell (p:=⟨cb,3,none⟩) x0).trans c3;clear q5;have z5:=jH z0;have z7:=jH y9;clear z0 y9
        by_cases H3:k<U
        .have u3:(k:Int)<(U:Int):=by omega
         obtain⟨a,ha⟩:∃a,xs[k]? =some a:=⟨_,Yb (by rw[x3.o];exact H3)⟩
         obtain⟨kg,ko,H8,N6,K5,k1⟩:=H7.o.cell x3.o (Fr.of (S:=fun _=>False) (κ:=κ2) O.o) ha;subst H8;have y7:a<n:=by have:=HK.o g a (by rw[r1.o];exact Yo ha);rw[HN.o]at this;exact this
         have r8:=jpq (cl:=cl) (i:=a) (by rw[E.o];exact y7)
         obtain⟨x,F⟩:∃x,cf cl a=x:=⟨_,rfl⟩
         have H1:x<n:=by have:=jpU h6.o (a:=a) (by rw[E.o];exact y7);rw[F,E.o]at this;exact this
         rw[F]at r8;have e2:=(O.o.cell (p:=⟨cg,a,none⟩) K6).trans (K1.o.cell (jqV r8))
         obtain⟨bx,r9⟩:∃bx,gN A x=bx:=⟨_,rfl⟩
         have Y:A[x]? =some (gN A x):=jv4 (by rw[H.o];exact H1);rw[r9]at Y;have e3:=(O.o.cell (p:=⟨K,x,none⟩) q6.o).trans (B.o.row.cell (jwG Y));have HA:=jH ha;have HX:=jH F;have y1:=jH r9;have u4:(a:Int)<(n:Int):=by omega
         have u5:(x:Int)<(n:Int):=by omega
         have v3:∀C:Wd wr.heap.size wr,C.v.cell? ⟨cb,3,none⟩=_:=wd_at y8 (by omega);have v1:∀C:Wd wr.heap.size wr,C.v.cell? ⟨kg,ko+k,none⟩=_:=wd_at k1 K5;have v2:∀C:Wd wr.heap.size wr,C.v.cell? ⟨cg,a,none⟩=_:=wd_at e2 (by omega);have v4:∀C:Wd wr.heap.size wr,C.v.cell? ⟨K,x,none⟩=_:=wd_at e3 (by have:=q6.o;omega);haveI:=Wd.ne wr.heap.size wr;clear ha F r9 Y r8
         go_upto_region 16 with fail
         refine jP 13 14 (by kernel_rfl) (by kernel_rfl) (by decide) ?_;simp only[TkD];refine jd (by decide) (by rfl) (v:=?v0) ?hv0 ?_
         case hv0=>(intro C;go_simp;all_goals with_reducible rfl)
         simp only[Act.put,SsT];refine jd (by decide) (by rfl) (v:=?v1) ?hv1 ?_
         case hv1=>(intro C;go_simp;all_goals with_reducible rfl)
         simp only[Act.put,SsT];refine jd (by decide) (by rfl) (v:=?v2) ?hv2 ?_
         case hv2=>(intro C;go_simp;all_goals with_reducible rfl)
         simp only[Act.put,SsT];refine jd (by decide) (by rfl) (v:=?v3) ?hv3 ?_
         case hv3=>(intro C;go_simp;all_goals with_reducible rfl)
         simp only[Act.put,SsT];refine jd (by decide) (by rfl) (v:=?v4) ?hv4 ?_
         case hv4=>(intro C;go_simp;all_goals with_reducible rfl)
         simp only[Act.put,SsT];refine jd (by decide) (by rfl) (v:=?v5) ?hv5 ?_
         case hv5=>(intro C;go_simp;all_goals with_reducible rfl)
         simp only[Act.put,SsT];refine jd (by decide) (by rfl) (v:=?v6) ?hv6 ?_
         case hv6=>(intro C;go_simp;all_goals with_reducible rfl)
         simp only[Act.put,SsT];refine jd (by decide) (by rfl) (v:=?v7) ?hv7 ?_
         case hv7=>(intro C;go_simp;all_goals with_reducible rfl)
         simp only[Act.put,SsT];refine jd (by decide) (by rfl) (v:=?v8) ?hv8 ?_
         case hv8=>(intro C;go_simp;all_goals with_reducible rfl)
         simp only[Act.put,SsT];refine jd (by decide) (by rfl) (v:=?v9) ?hv9 ?_
         case hv9=>(intro C;go_simp;all_goals with_reducible rfl)
         simp only[Act.put,SsT];refine jd (by decide) (by rfl) (v:=?v10) ?hv10 ?_
         case hv10=>(intro C;go_simp;all_goals with_reducible rfl)
         simp only[Act.put,SsT];refine jd (by decide) (by rfl) (v:=?v11) ?hv11 ?_
         case hv11=>(intro C;go_simp;all_goals with_reducible rfl)
         simp only[Act.put,SsT];refine jd (by decide) (by rfl) (v:=?v12) ?hv12 ?_
         case hv12=>(intro C;go_simp;all_goals with_reducible rfl)
         simp only[Act.put,SsT];refine js ?_;intro C;have z3:=jH (O.o.trans (C.h.mono H9))
         cases bx with
         |true=>
          go_wp2_with fail
          go_roundg (U-(k+1))
          case measure=>omega
          case rel=>
           refine⟨k+1,b,by omega,rfl,by go_num,rfl,z3.o,fun hb3 y a' hy hya=>?_,z7.o⟩
           by_cases e:y=k
           .subst e;rw[HA.o]at hya;cases hya;rw[HX.o];exact y1.o
           .exact z5.o hb3 y a' (by omega) hya
         |false=>
          go_wp2_with fail
          go_roundg (U-(k+1))
          case measure=>omega
          case rel=>exact⟨k+1,false,by omega,rfl,by go_num,rfl,z3.o,fun h=>(by cases h),fun _=>⟨a,Yo HA.o,by rw[HX.o];exact y1.o⟩⟩
        .have hkk:k=U:=by omega
         subst hkk;have f2:=(B.o.on O.o).row.frz j;have e5:=(O.o.cell (p:=⟨K,j,none⟩) q6.o).trans e1;have N3:K<wr.heap.size:=by have:=q6.o;omega
         cases b with
         |true=>
          have k4:=jH (r7.o wr O.o (.inr ⟨g,z6.o,z4.o,fun a ha=>by
           rw[r1.o]at ha;obtain⟨y,hy⟩:=List.getElem?_of_mem ha
           exact z5.o (by first|rfl|trivial) y a (by have:=(jG hy).1;rw[x3.o]at this;exact this) hy⟩))
          clear y8
          go_wp2_with fail
          go_roundg (n-(j+1))
          case measure=>omega
          case rel=>exact⟨j+1,true,A.set j true,by omega,rfl,by go_num,rfl,k4.o.1,fun h=>(by cases h),fun _=>k4.o.2⟩
         |false=>
          go_wp2_with fail
          go_roundg (n-(j+1))
          case measure=>omega
          case rel=>
           refine⟨j+1,m,A,by omega,rfl,by go_num,rfl,B.o.on O.o,fun h=>⟨(I.o h).1,fun x F=>?_⟩,q8.o⟩
           by_cases e:x=j
           .subst e
            intro hf;obtain⟨a,H5,z8⟩:=z7.o (by first|rfl|trivial);rw[(I.o h).1]at z8;exact⟨g,z6.o,z4.o,a,by rw[r1.o];exact H5,z8⟩
           .exact(I.o h).2 x (by omega)
    .have hjn:j=n:=by omega
     subst hjn
     go_wp2_with fail
     cases m with
     |true=>
      go_roundg (2*nb A+1)
      case measure=>have h1:=q8.o rfl;have h2:=x4.o;omega
      case rel=>exact⟨true,A,rfl,B.o,by simp,fun h=>by cases h⟩
     |false=>
      go_roundg (2*nb gl)
      case measure=>have h2:=x4.o;omega
      case rel=>exact⟨false,gl,rfl,(I.o rfl).1 ▸ B.o,by simp,fun _=>(I.o rfl).2⟩
end Dm
end Go.Proofs.YtlpmpelnhdoboaaGreatDoor
