import Derived.Test.YtlpmpelnhdoboaaGreatDoorS25
import Derived.BigQuiet
set_option linter.unusedVariables false
set_option linter.unusedSimpArgs false
set_option maxHeartbeats 20000000
namespace Go.Proofs.YtlpmpelnhdoboaaGreatDoor
namespace Dm
open Go.RowKit Tg
theorem Tryz.kiS:(Tryz.prog.info? 9).map (fun i=>(i.zero,i.size,i.bytes))=some (some (.string ⟨#[]⟩),1,16):=by kernel_rfl
theorem Tryz.kuS:Tryz.prog.underlying 87=some (.slice 9):=by kernel_rfl
theorem jth {w:World}{B g n cap:Nat}{ys:List ByteArray}(h:w.ownsRow B 9 1 (.slice (some ⟨g,0,none⟩) n cap) n (ys.map Value.string)) {j:Nat}{y:ByteArray}(C:ys[j]? =some y):w.cell? ⟨g,j,none⟩=some (.string y):=by
 have A:(ys.map Value.string)[j]? =some (.string y):=by rw[Yr,C];rfl
 have E:=(jG A).1;rw[h.cellAt j (by rw[<-h.1];exact E)];exact A
variable {k:Nat}
theorem kS_a (h:k<=6):((kS k).toList == ([97,114,114,97,121]:List UInt8))=decide (k=4):=by
 have:∀k:Fin 7,((kS k.val).data.toList == ([97,114,114,97,121]:List UInt8))=decide (k.val=4):=by decide
 have:=this ⟨k,by omega⟩;rw[Ye];exact this
theorem kS_t (h:k<=6):((kS k).toList == ([116,117,112,108,101]:List UInt8))=decide (k=5):=by
 have:∀k:Fin 7,((kS k.val).data.toList == ([116,117,112,108,101]:List UInt8))=decide (k.val=5):=by decide
 have:=this ⟨k,by omega⟩;rw[Ye];exact this
theorem kS_f (h:k<=6):((kS k).toList == ([102,117,110]:List UInt8))=decide (k=6):=by
 have:∀k:Fin 7,((kS k.val).data.toList == ([102,117,110]:List UInt8))=decide (k.val=6):=by decide
 have:=this ⟨k,by omega⟩;rw[Ye];exact this
set_option maxRecDepth 100000 in
theorem jBO {κ:Tg.Kp}{cb:Nat}{tv av nv cv:Value}{ds:List DT}{S:Inf.DS}{cl:List Nat}{D:Inf.Dem}(A:Kn S ds cl D) (r3:Inf.Ar S.ts) (h9:ds.length<=90000):∀i,i<ds.length->Inf.szT S.ts D i<=1000->∀w,DK w κ cb tv av nv cv ds S cl->
 Calls Tryz.prog 15 #[.pointer (some ⟨cb,0,none⟩),.int .i64 (i:Nat)] w fun e w'=>e= .returned (.string (Inf.txT S.ts D i))/\Below w.heap.size w w':=by
 intro i
 induction A.ok.2 i with
 |intro i _ ih=>
  intro hi v9 w h;obtain⟨i0,H6,y6,h3,z9⟩:=info_parts Tryz.kiS;have HI:=jH ih;have HD:=jH h;have R:=jH A;have z0:=jH r3;have hx:=jpq (cl:=cl) (i:=i) (by rw[h.ln];exact hi)
  obtain⟨x,x7⟩:∃x,cf cl i=x:=⟨_,rfl⟩
  rw[x7]at hx;have HX:=jH hx;obtain⟨cg,cc,H2,K4,_,R0⟩:=h.cr.at (by rw[h.ln];omega);obtain⟨tg,tc,z3,y7,_,K7⟩:=h.dc.tr.at (by omega);subst H2;subst z3;have k1:=h.cr.cell (jqV hx);have c0:=ja h.dc.blk 0 rfl;have c3:=ja h.dc.blk 3 rfl;have K8:=h.dc.lt;have CH:=jH (fun(z:Int) (hz:z=(x:Nat))=>jtG (x:=x) h hz);have y1:=h.ln
  obtain⟨n,hn⟩:∃n,ds.length=n:=⟨_,rfl⟩
  rw[y1,hn]at c3 K4;rw[hn]at c0 hi h9 y7;have HN:=jH hn;have H1:=jH v9;have u0:(i:Int)<(n:Int):=by omega
  obtain⟨TX,v0⟩:∃TX,Inf.txT S.ts D i=TX:=⟨_,rfl⟩
  rw[v0];have r6:=jH v0;clear ih h A r3 hx x7 y1 hn v9 v0
  go_enter Tryz.func15,Tryz.ntmps15
  go_upto_region 2 with(go_at_call 28;refine(CH.o _ rfl).mono ?_;rintro _ w' ⟨r7,r,rfl,x0⟩;have v7:=jH x0;have r7:=r7.symm;subst r7;clear x0)
  rcases v7.o with⟨v8,x1⟩|⟨g,v8,x2,v3⟩
  .subst v8
   have h3:=Inf.tx_opn R.o.ok (jzw HX.o x1 R.o.ln R.o.he);rw[r6.o]at h3;have z6:=jH h3;clear x1 h3 v7
   go_wp2_with fail
   go_returns;exact⟨by rw[z6.o];rfl,jB⟩
  .subst v8
   obtain⟨dk,va,vc,xs,H⟩:=jzv HD.o R.o HX.o x2 v3;have HG:=jH H;have d0:=H.c0;have d1:=H.c1;have z2:=H.lt;have H7:=H.len;have r2:=H.k6;have N0:=H.k0
   obtain⟨O,A⟩:∃O,xs.length=O:=⟨_,rfl⟩
   rw[A]at d1 H7;rw[HN.o]at z2;have h8:=H.tx;rw[r6.o]at h8;have h5:(xs.map (Inf.szT S.ts D)).sum<=1000:=by have:=H.sz;have:=H1.o;omega
   have r5:=jvP R.o.ok h5
   have v4:∀a ∈ xs,(Inf.txT S.ts D a).size<=20000:=fun a ha=>by
    have h1:=Inf.tx_size R.o.ok a;have h2:=jcj (f:=Inf.szT S.ts D) ha;omega
   have K2:=jH h5
   obtain⟨ys,Y⟩:∃ys,xs.map (Inf.txT S.ts D)=ys:=⟨_,rfl⟩
   rw[Y]at h8 r5;have B:ys.length=O:=by rw[<-Y,Ua,A]
   have q9:∀y ∈ ys,y.size<=20000:=fun y hy=>by
    rw[<-Y]at hy;obtain⟨a,ha,rfl⟩:=Uh.1 hy;exact v4 a ha
   have H4:=jH Y;have E:=jH B;have k7:=jH q9;have x9:=jH r5;have U:=jH h8;have q7:=jH A;have HA:=jH (z0.o.kd g);rw[H.kd,H.kids,A]at HA;have u1:((g:Nat):Int)<(n:Int):=by omega
   clear x2 v3 v7 H A h8 h5 r5 v4 Y B q9 r6 HX
   go_upto_region 5 with fail
   generalize hWA:World.alloc _ _=WA;obtain⟨x6,h0⟩:=jq0 hWA
   obtain⟨ab,q8⟩:∃ab,w.heap.size=ab:=⟨_,rfl⟩
   have h7:=jH x6;have z5:=jH h0;have N1:=jH q8;have v2:=jb h0;have e0:=ja h0 0 rfl;have e1:=ja h0 1 rfl;simp only[Yz,Yp,List.getElem_cons_succ]at e0 e1;rw[q8]at e0 e1 v2 z5 ⊢;have N6:ab<=w.heap.size:=by omega
   clear hWA x6 h0 q8 c0 c3 d0 d1 k1
   go_upto_region 7 with fail
   go_loopg [7,8,9] O (fun gh s7 s8 s9 (wr:World)=>∃(j c:Nat) (k9:Option Addr),j<=O/\gh=O-j/\s8= .int .i64 (j:Nat)/\s7= .slice k9 j c/\wr.ownsRow WA.heap.size 9 1 (.slice k9 j c) j ((ys.take j).map Value.string)/\Below WA.heap.size WA wr)
   case atStart=>exact⟨0,0,none,by omega,rfl,rfl,rfl,Uk _ _ _ _,jB⟩
   case round=>
    obtain⟨j,c7,k9,hj,N3,rfl,rfl,r8,hb⟩:=hrel;have HB:=jH hb;have HO:=jH r8;have H9:=hb.size;have r0:=(hb.cell (p:=⟨ab,0,none⟩) v2).trans e0;have r1:=(hb.cell (p:=⟨ab,1,none⟩) v2).trans e1;have N8:ab<wr.heap.size:=by omega
    clear hb r8
    by_cases y9:j<O
    .have u2:(j:Int)<(O:Int):=by omega
     obtain⟨a,ha⟩:∃a,xs[j]? =some a:=⟨_,Yb (by rw[q7.o];exact y9)⟩
     have k5:=Yo ha;have r9:=HG.o.kt;rw[q7.o]at r9;have K:=jH (h7.o.trans (HB.o.mono h7.o.size));obtain⟨kg,ko,z7,N4,N9,k2⟩:=r9.cell q7.o (Tg.Fr.of (S:=fun _=>False) (κ:=κ) K.o) ha;subst z7;have CR:=jH (HI.o a (HG.o.sub a k5) (HG.o.xl a k5) (by have:=jcj (f:=Inf.szT S.ts D) k5;have:=K2.o;omega) wr (HD.o.on K.o))
     obtain⟨y,hy⟩:∃y,Inf.txT S.ts D a=y:=⟨_,rfl⟩
     rw[hy]at CR;have x8:ys[j]? =some y:=by rw[<-H4.o,Yr,ha,<-hy];rfl
     have x4:=jH x8;clear ha k5 r9 hy x8
     go_upto_region 10 with(go_at_call 15;refine CR.o.mono ?_;rintro _ w2 ⟨rfl,k8⟩;have K0:=jH k8;have z8:=k8.size;have x3:=jH (own_below HO.o k8);clear k8)
     go_wp2_with (at_builtin;refine JO _ rfl (.tmp 47) (.tmp 49) 87 rfl WA.heap.size 9 i0 _ 1 16 Tryz.kuS H6 y6 h3 z9 rfl (by decide) (.slice k9 j c7) j ((ys.take j).map Value.string) rfl (x3.o.alloc _) ⟨w2.heap.size,0,none⟩ 1 1 [.string y] rfl rfl (Ja _ _ _ _ rfl) ?_ ?_ ?_ ?_ ?_;(intro u hu;simp at hu;subst hu;rfl);(unfold maxLen;omega);omega;(simp;omega);intro v6 w6 k4 W y5;have HP:=jH k4;have K1:=jH W;clear k4 W y5)
     go_roundg (O-(j+1))
     case measure=>omega
     case rel=>
      obtain⟨a6,c6,z1⟩:=joG HP.o;subst z1;refine⟨j+1,c6,a6,by omega,rfl,by go_num,rfl,?_,jmb (HB.o.trans (K0.o.mono H9)) (by omega) _ K1.o (jh7 x3.o)⟩;have hl:=(jG x4.o).1;have e:=(jG x4.o).2;rw[Uc hl,e,Km];exact HP.o
    .have hjk:j=O:=by omega
     subst hjk;have x5:ys.take j=ys:=Yw (by rw[E.o];omega);rw[x5]at HO
     obtain⟨w3,rfl⟩:∃w3,w3=wr:=⟨_,rfl⟩
     have K:=jH (h7.o.trans (HB.o.mono h7.o.size));clear x5;have q4:=kS_a r2;have q5:=kS_t r2;have q6:=kS_f r2
     by_cases hp:dk=4\/dk=5\/dk=6
     .have hj1:1<=j:=by have:=HA.o;omega
      obtain⟨sg,sc,H5,N7,z8,N5,N2⟩:=jnX HO.o hj1;injection H5 with hsv1 _ hsv2
      subst hsv1;subst hsv2
      obtain⟨Z,I⟩:∃Z,ys[0]? =some Z:=⟨_,Yb (by rw[E.o];omega)⟩
      have m0:=jth HO.o I;have K5:=k7.o Z (Yo I);have K9:=jH I;have v5:ys.take 1=[Z]:=by cases ys with|nil=>cases I|cons z r=>simp at I;subst I;rfl
      have h6:=jH v5;clear I v5;rcases hp with rfl|rfl|rfl <;> simp only[Nat.reduceEqDiff,decide_true,decide_false]at q4 q5 q6
      .have hj2:j=1:=HA.o.1 rfl
       have F:Hid (TX=Z ++⟨#[32,97,114,114,97,121]⟩):=by
        show _=_;rw[U.o];have hl:=E.o;rw[hj2]at hl;have:ys=[Z]:=by rw[<-h6.o,Yw (by omega)]
        rw[this];rfl
       clear hj2
       go_wp2_with fail
       go_returns;exact⟨by rw[F.o];rfl,K.o⟩
      .have F:Hid (TX=⟨#[40]⟩ ++Inf.jnF ⟨#[42]⟩ ys ++⟨#[41]⟩):=U.o
       go_upto_region 17 with fail
       go_loopg [10,11] (j-1) (fun gh s10 s11 (wr:World)=>∃(k:Nat) (t:ByteArray),1<=k/\k<=j/\gh=j-k/\s11= .int .i64 (k:Nat)/\s10= .string t/\t=Inf.jnF ⟨#[42]⟩ (ys.take k)/\wr=w3)
       case atStart=>exact⟨1,Z,by omega,by omega,by omega,rfl,rfl,by rw[h6.o];rfl,rfl⟩
       case round=>
        obtain⟨k,t,H0,H3,y4,rfl,rfl,ht,rfl⟩:=hrel;have v1:=x9.o ⟨#[42]⟩ jN k;rw[<-ht]at v1;have HT:=jH ht;clear ht
        by_cases y8:k<j
        .have u4:(k:Int)<(j:Int):=by omega
         obtain⟨yk,C⟩:∃yk,ys[k]? =some yk:=⟨_,Yb (by rw[E.o];omega)⟩
         have m1:=jth HO.o C;have y3:=k7.o yk (Yo C);have r4:=jH C;clear C
         go_wp2_with fail
         go_roundg (j-(k+1))
         case measure=>omega
         case rel=>exact⟨k+1,_,by omega,by omega,rfl,by go_num,rfl,by rw[jtA r4.o,if_neg (by omega),<-HT.o],rfl⟩
        .have hkj2:k=j:=by omega
         subst hkj2;have y2:t=Inf.jnF ⟨#[42]⟩ ys:=by rw[HT.o,Yw (by rw[E.o];omega)]
         have H8:=jH y2;clear y2
         go_wp2_with fail
         go_returns;exact⟨by rw[F.o,<-H8.o];rfl,K.o⟩
      .have hj2:2<=j:=HA.o.2.2 rfl
       obtain⟨yl,B⟩:∃yl,ys[j-1]? =some yl:=⟨_,Yb (by rw[E.o];omega)⟩
       have h4:ys=ys.take (j-1) ++[yl]:=by
        have hl:=(jG B).1;have e:=(jG B).2;have:ys.take (j-1+1)=ys.take (j-1) ++[yl]:=by rw[Uc hl,e]
        rw[show j-1+1=j by omega,Yw (by rw[E.o];omega)]at this;exact this
       have F:Hid (TX=⟨#[40]⟩ ++Inf.jnF ⟨#[44]⟩ (ys.take (j-1)) ++⟨#[45,62]⟩ ++yl ++⟨#[41]⟩):=by
        show _=_;rw[U.o]
        conv=>lhs;rw[h4]
        exact Inf.sp6 _ _
       obtain⟨jm,z4⟩:∃jm,j=jm+1:=⟨j-1,by omega⟩
       subst z4;rw[show jm+1-1=jm by omega]at B h4 F;have m9:=jth HO.o B;have K6:=k7.o yl (Yo B);have u5:((jm+1:Nat):Int)-1=(jm:Int):=by omega
       clear B h4
       go_upto_region 25 with fail
       go_loopg [13,14] (jm-1) (fun gh s13 s14 (wr:World)=>∃(k:Nat) (t:ByteArray),1<=k/\k<=jm/\gh=jm-k/\s14= .int .i64 (k:Nat)/\s13= .string t/\t=Inf.jnF ⟨#[44]⟩ (ys.take k)/\wr=w3)
       case atStart=>exact⟨1,Z,by omega,by omega,by omega,rfl,rfl,by rw[h6.o];rfl,rfl⟩
       case round=>
        obtain⟨k,t,H0,H3,y4,rfl,rfl,ht,rfl⟩:=hrel;have v1:=x9.o ⟨#[44]⟩ jN k;rw[<-ht]at v1;have HT:=jH ht;clear ht
        by_cases y8:k<jm
        .have u4:(k:Int)<(jm:Int):=by omega
         obtain⟨yk,C⟩:∃yk,ys[k]? =some yk:=⟨_,Yb (by rw[E.o];omega)⟩
         have m1:=jth HO.o C;have y3:=k7.o yk (Yo C);have r4:=jH C;clear C
         go_wp2_with fail
         go_roundg (jm-(k+1))
         case measure=>omega
         case rel=>exact⟨k+1,_,by omega,by omega,rfl,by go_num,rfl,by rw[jtA r4.o,if_neg (by omega),<-HT.o],rfl⟩
        .have hkj2:k=jm:=by omega
         subst hkj2
         go_wp2_with fail
         go_returns;exact⟨by rw[F.o,<-HT.o];rfl,K.o⟩
     .have hd:dk=1\/dk=2\/dk=3:=by omega
      have F:Hid (TX=kS dk):=by
       show _=_;rw[U.o];rcases hd with rfl|rfl|rfl <;> rfl
      clear hp;rcases hd with rfl|rfl|rfl <;> simp only[Nat.reduceEqDiff,decide_true,decide_false]at q4 q5 q6
      all_goals
       go_wp2_with fail
       go_returns;exact⟨by rw[F.o];rfl,K.o⟩
theorem jmi (s x c t d:ByteArray):s ++(x ++c ++t ++d)=s ++x ++c ++t ++d:=by
 rw[<-ByteArray.append_assoc,<-ByteArray.append_assoc,<-ByteArray.append_assoc]
set_option maxRecDepth 100000 in
theorem names_d {w:World}{κ:Tg.Kp}{cb:Nat}{tv av nv cv:Value}{ds:List DT}{S:Inf.DS}{cl:List Nat}{D:Inf.Dem}(h:DK w κ cb tv av nv cv ds S cl) (k4:Kn S ds cl D) (h8:Inf.Ar S.ts) (k1:∀q ∈ S.ns,q.2.1<S.n/\q.1.size<=1000) (q5:S.ns.length<=90000) :
 Calls Tryz.prog 8 #[.pointer (some ⟨cb,0,none⟩)] w fun e w'=>e= .returned (.tuple #[.string (Inf.nmT (Inf.szT S.ts D) (Inf.txT S.ts D) S.ns ⟨#[]⟩).1,.int .i64 (Inf.nmT (Inf.szT S.ts D) (Inf.txT S.ts D) S.ns ⟨#[]⟩).2.1,.int .i64 (Inf.nmT (Inf.szT S.ts D) (Inf.txT S.ts D) S.ns ⟨#[]⟩).2.2])/\Below w.heap.size w w':=by
 obtain⟨R,hR⟩:∃R,Inf.nmT (Inf.szT S.ts D) (Inf.txT S.ts D) S.ns ⟨#[]⟩=R:=⟨_,rfl⟩
 rw[hR];obtain⟨Rs,Re,Rp⟩:=R;simp only;have HD:=jH h;have k7:=jH k4;have v7:=jH h8;have r6:=jH k1;have HR:=jH hR;have h9:=h.n9;have h7:=h.dc.len;have r3:=jH h7;obtain⟨na,x5,q9,x0⟩:=h.dc.nr.any
 obtain⟨n,hn⟩:∃n,S.ns.length=n:=⟨_,rfl⟩
 have HN:=jH hn;rw[hn]at q9 x0 q5;subst q9;have c2:=ja h.dc.blk 2 rfl;have r9:=h.dc.lt;have H9:=jH h9;clear h k4 h8 k1 hR hn h7 h9
 go_enter Tryz.func8,Tryz.ntmps8
 go_upto_region 3 with fail
 go_loopg [5,6,7,8,9] n (fun gh s5 s6 s7 s8 s9 (wr:World)=>∃(j:Nat) (s:ByteArray),j<=n/\gh=n-j/\s6= .int .i64 (j:Nat)/\s5= .string s/\s.size<=j*3000/\Inf.nmT (Inf.szT S.ts D) (Inf.txT S.ts D) (S.ns.drop j) s=(Rs,Re,Rp)/\Below w.heap.size w wr)
 case atStart=>exact⟨0,⟨#[]⟩,by omega,rfl,rfl,rfl,Yi _,HR.o,jB⟩
 case round=>
  obtain⟨j,s,hj,y0,rfl,rfl,y1,C,Z⟩:=hrel;have HB:=jH Z;have q8:=Z.size;have r2:=(Z.cell (p:=⟨cb,2,none⟩) r9).trans c2;have x9:cb<wr.heap.size:=by omega
  have k8:=jH C;clear Z C
  by_cases v0:j<n
  .have u1:(j:Int)<(n:Int):=by omega
   obtain⟨q,hq⟩:∃q,S.ns[j]? =some q:=⟨_,Yb (by rw[HN.o];exact v0)⟩
   have hr:=(HD.o.on HB.o).dc.nr;rw[HN.o]at hr;obtain⟨ng,x3,e,_,_,x8⟩:=hr.at (by omega);have e':=e;injection e with e1 _ e2
   subst e1 e2;have d0:=hr.cell (JR (f:=ntC) (c:=3) (fun _=>rfl) hq (k:=0) (by omega));have d1:=hr.cell (JR (f:=ntC) (c:=3) (fun _=>rfl) hq (k:=1) (by omega));have d2:=hr.cell (JR (f:=ntC) (c:=3) (fun _=>rfl) hq (k:=2) (by omega));have q6:=r6.o q (Yo hq);have C:=k8.o;rw[jzW hq]at C;obtain⟨bx,bt,bp⟩:=q;replace d0:wr.cell? ⟨ng,j*3,none⟩=some (.string bx):=d0;replace d1:wr.cell? ⟨ng,j*3+1,none⟩=some (.int .i64 (bt:Nat)):=d1;replace d2:wr.cell? ⟨ng,j*3+2,none⟩=some (.int .i64 bp):=d2;unfold Inf.nmT at C;simp only at C q6;obtain⟨k2,x7⟩:=q6;rw[<-r3.o]at k2;have q4:=Inf.tx_size k7.o.ok bt;have k9:=jH k2;have q7:=Inf.rk_le (ts:=S.ts) (D:=D) (c:=cf cl) ds.length bt;have CS:=jH (show ∀V,Below w.heap.size w V->Calls Tryz.prog 14 #[.pointer (some ⟨cb,0,none⟩),.int .i64 (bt:Nat)] V (PtQ V (Inf.szT S.ts D bt) (Inf.rkT ds.length S.ts D (cf cl) bt))from fun V hV=>jD0 k7.o H9.o bt k9.o V (HD.o.on hV));have CT:=jH (show Inf.szT S.ts D bt<=40->∀V,Below w.heap.size w V->Calls Tryz.prog 15 #[.pointer (some ⟨cb,0,none⟩),.int .i64 (bt:Nat)] V fun e w'=>e= .returned (.string (Inf.txT S.ts D bt))/\Below V.heap.size V w' from fun h40 V hV=>jBO k7.o v7.o H9.o bt k9.o (by omega) V (HD.o.on hV))
   obtain⟨z,hz⟩:∃z,Inf.szT S.ts D bt=z:=⟨_,rfl⟩
   obtain⟨rk,Y⟩:∃rk,Inf.rkT ds.length S.ts D (cf cl) bt=rk:=⟨_,rfl⟩
   obtain⟨y,hy⟩:∃y,Inf.txT S.ts D bt=y:=⟨_,rfl⟩
   rw[hz,Y]at CS;rw[hz,hy]at CT;rw[hz,hy]at C q4;rw[Y]at q7;have h9:=H9.o;have x2:rk<=90000:=by omega
   have k5:=jH C;clear hr e' hq C hz Y hy k2 q7 h9
   by_cases E:40<z
   .have I:=k5.o
    rw[if_pos E]at I;obtain⟨rfl,rfl,rfl⟩:⟨#[]⟩=Rs/\(8:Int)=Re/\bp=Rp:=by injection I with a b;injection b with b c;exact⟨a,b,c⟩
    have v8:=jH E;clear I E
    go_upto_region 6 with fail
    generalize hV:World.alloc _ _=V;obtain⟨K,F⟩:=jq0 hV;have f1:=ja F 1 rfl;have f2:=ja F 2 rfl;have H:=jb F;have B:=jH (HB.o.trans (K.mono q8));have v9:=K.size
    obtain⟨O,U⟩:∃O,wr.heap.size=O:=⟨_,rfl⟩
    rw[U]at f1 f2 H ⊢;have h5:cb<V.heap.size:=by omega
    clear hV F K U
    go_upto_region 7 with(go_at_call 14;refine(CS.o _ B.o).mono ?_;rintro _ w2 ⟨m,rfl,A,h0,h2,r5⟩;have v5:=jH h2;have g2:=(A.cell (p:=⟨O,2,none⟩) H).trans f2;have h6:=Yj H A.size;have W:=jH A;clear A h0 h2)
    have h4:=v5.o v8.o;have u5:(40:Int)<(m:Int):=by omega
    go_upto_region 8 with fail
    go_quiet (fail)
    go_wp2_with fail
    go_returns;refine⟨rfl,?_⟩;have hA:=B.o.trans (W.o.mono B.o.size);exact⟨hA.os,hA.tape,hA.output,hA.size,hA.block⟩
   .have I:=k5.o
    rw[if_neg E]at I;have r4:=jH I;have r7:=jH (CT.o (by omega));have r1:z<=40:=by omega
    have x4:y.size<=1000:=by omega
    clear I E q4 CT
    go_upto_region 6 with fail
    generalize hV:World.alloc _ _=V;obtain⟨K,F⟩:=jq0 hV;have f1:=ja F 1 rfl;have f0:=ja F 0 rfl;have H:=jb F;have B:=jH (HB.o.trans (K.mono q8));have v9:=K.size
    obtain⟨O,U⟩:∃O,wr.heap.size=O:=⟨_,rfl⟩
    rw[U]at f1 f0 H ⊢;have h5:cb<V.heap.size:=by omega
    clear hV F K U
    go_upto_region 7 with(go_at_call 14;refine(CS.o _ B.o).mono ?_;rintro _ w2 ⟨m,rfl,A,h0,h2,r5⟩;have v6:=jH h0;have g0:=(A.cell (p:=⟨O,0,none⟩) H).trans f0;have g1:=(A.cell (p:=⟨O,1,none⟩) H).trans f1;have h6:=Yj H A.size;have x1:=Yj h5 A.size;have W:=jH (B.o.trans (A.mono B.o.size));clear A h0 h2)
    have h4:=v6.o r1;have u5:¬((40:Int)<(m:Int)):=by omega
    clear h4
    go_upto_region 10 with(go_at_call 15;refine(r7.o _ W.o).mono ?_;rintro _ w3 ⟨rfl,h1⟩;have k0:=(h1.cell (p:=⟨O,0,none⟩) h6).trans g0;have x6:=Yj h6 h1.size;have r8:=jH (W.o.trans (h1.mono W.o.size));clear h1)
    have v1:¬(9223372036854775807<s.size+bx.size):=by omega
    have v2:¬(9223372036854775807<s.size+bx.size+1):=by omega
    have v3:¬(9223372036854775807<s.size+bx.size+1+y.size):=by omega
    have v4:¬(9223372036854775807<s.size+bx.size+1+y.size+1):=by omega
    go_wp2_with fail
    go_roundg (n-(j+1))
    case measure=>omega
    case rel=>
     refine⟨j+1,s ++bx ++⟨#[58]⟩ ++y ++⟨#[10]⟩,by omega,rfl,by go_num,by first|rfl|simp,?_,?_,r8.o⟩
     .simp only[Ky]
      show s.size+bx.size+1+y.size+1<=(j+1)*3000;omega
     .rw[<-jmi];exact r4.o
  .have hjn:j=n:=by omega
   subst hjn;have I:=k8.o;rw[List.drop_of_length_le (by rw[HN.o];omega)]at I;unfold Inf.nmT at I;obtain⟨rfl,rfl,rfl⟩:s=Rs/\(0:Int)=Re/\(0:Int)=Rp:=by injection I with a b;injection b with b c;exact⟨a,b,c⟩
   clear I
   go_wp2_with fail
   go_returns;exact⟨rfl,HB.o⟩
end Dm
end Go.Proofs.YtlpmpelnhdoboaaGreatDoor
