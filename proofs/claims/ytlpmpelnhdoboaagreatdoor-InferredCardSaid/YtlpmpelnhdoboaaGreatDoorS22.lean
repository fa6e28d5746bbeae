import Derived.Test.YtlpmpelnhdoboaaGreatDoorS21
set_option linter.unusedVariables false
set_option linter.unusedSimpArgs false
set_option maxHeartbeats 20000000
namespace Go.Proofs.YtlpmpelnhdoboaaGreatDoor
namespace Dm
open Go.RowKit Tg
theorem KT.cell {S:Tag->Prop}{w w':World}{κ E:Kp}{a:Option Addr}{c n:Nat}{xs:List Nat}(h:KT w κ (.slice a n c) xs) (F:xs.length=n) (C:Fr S κ E w w') {j x:Nat}(A:xs[j]? =some x):∃g off,a=some ⟨g,off,none⟩/\n<=c/\g<w'.heap.size/\w'.cell? ⟨g,off+j,none⟩=some (.int .i64 (x:Nat)):=by
 subst F;have h:=h.keep C
 rcases h with⟨_,rfl⟩|⟨g,off,cap,B,K,O,I,H⟩
 .cases A
 .injection B with B _ h6
  subst h6;exact⟨g,off,B,K,I,H j x A⟩
def ClQ (κ:Kp) (cb:Nat) (tv av nv cv:Value) (ds:List DT) (S:Inf.DS) (cl:List Nat) (w:World) (e:Ending) (w':World):Prop:=∃r cl' κ',e= .returned (.bool r)/\DK w' κ' cb tv av nv cv ds S cl'/\Cr cl'/\Inf.Cs S.ts (cf cl) r (cf cl')/\Fr SC κ κ' w w'
structure CL1 (w:World) (κ:Kp) (cb:Nat) (tv av nv cv:Value) (ds:List DT) (S:Inf.DS) (cl:List Nat) (wr:World) (κ1:Kp) (cl1:List Nat):Prop where
 dk:DK wr κ1 cb tv av nv cv ds S cl1
 cr:Cr cl1
 fr:Fr SC κ κ1 w wr
 ch:∀r c',Inf.Cs S.ts (cf cl1) r c'->Inf.Cs S.ts (cf cl) r c'
theorem Tryz.infoKind:(Tryz.prog.info? 86).map (·.size)=some 2:=by kernel_rfl
set_option maxRecDepth 100000 in
theorem jIm {w:World}{κ:Kp}{cb:Nat}{tv av nv cv:Value}{ds:List DT}{S:Inf.DS}{cl:List Nat}(h:DK w κ cb tv av nv cv ds S cl) (R3:Cr cl) (hK:∀i a,a ∈ Inf.kids S.ts i->a<ds.length) :
 Calls Tryz.prog 26 #[.pointer (some ⟨cb,0,none⟩)] w (ClQ κ cb tv av nv cv ds S cl w):=by
 have HK:=jH hK;have H0:=jH h;have HCR:=jH R3;obtain⟨ta,tc,htv,htc⟩:=h.dc.tr.any;obtain⟨ca,cc,hcv,hcc⟩:=h.cr.any
 obtain⟨n,hn⟩:∃n,ds.length=n:=⟨_,rfl⟩
 have hn9:=h.n9;have H9:=h.ln;rw[hn]at hn9 htv H9 htc;rw[H9]at hcv hcc;subst htv;subst hcv;have HN:=jH hn;have HCN:=jH H9;have hmk:=jyU n (by omega);clear h R3 hK hn H9
 go_enter Tryz.func26,Tryz.ntmps26
 go_wp2_with fail
 go_loopg [3,4,5,6,7,8,9,10] (2*nc cl+1) (fun gh s3 s4 s5 s6 s7 s8 s9 s10 (wr:World)=>∃(m:Bool) (κ1:Kp) (A:List Nat),s3= .bool m/\CL1 w κ cb (.slice ta n tc) av nv (.slice ca n cc) ds S cl wr κ1 A/\gh=2*nc A+(if m then 1 else 0)/\(m=false->Inf.Cs S.ts (cf A) true (cf A)))
 case atStart=>exact⟨true,κ,cl,rfl,⟨H0.o,HCR.o,Fr.refl _ _ _,fun _ _ h=>h⟩,rfl,fun h=>by cases h⟩
 case round=>
  obtain⟨m,κ1,A,rfl,hC,x2,hst⟩:=hrel
  obtain⟨w1,rfl⟩:∃w1,w1=wr:=⟨_,rfl⟩
  have I:=jH hC;have x8:=jH x2;have HST:=jH hst;have q9:=hC.dk.dc.lt;have c0:=ja hC.dk.dc.blk 0 rfl;have H1:=hC.dk.ln;rw[HN.o]at H1;have h5:=jH H1;clear hC x2 hst H1
  cases m with
  |false=>
   go_wp2_with fail
   go_returns;exact⟨true,A,κ1,rfl,I.o.dk,I.o.cr,I.o.ch _ _ (HST.o (by first|rfl|trivial)),I.o.fr⟩
  |true=>
   have x2:gk=2*nc A+1:=by have:=x8.o;simpa using this
   clear x8;have x8:=jH x2;clear x2
   go_upto_region 5 with fail
   generalize hWW:World.alloc _ _=W;obtain⟨K,Y,q4,Y8⟩:=I.o.dk.row (n:=n) (xs:=List.replicate n (.int .i64 0)) hWW (by simp) (by omega);have HD2:=jH Y;have HR2:=jH (show TR W K (6,0) 3 1 (.slice (some ⟨w1.heap.size,0,none⟩) n n) n (iV (List.replicate n 0))from by unfold iV;rw[List.map_replicate];exact q4);have HF2:=jH (I.o.fr.trans (Y8.mono fun t h=>.inr h))
   obtain⟨hb,H5⟩:∃hb,w1.heap.size=hb:=⟨_,rfl⟩
   rw[H5]at HR2 ⊢;clear hWW Y q4 Y8 c0 q9 H5
   go_wp2_with fail
   go_loopg [5] n (fun gh s5 (wr:World)=>∃(j:Nat) (rs:List Int),j<=n/\gh=n-j/\s5= .int .i64 (j:Nat)/\rs.length=n/\(∀x,x<j->∃r,rs[x]? =some r/\HdR S.ts A x r)/\DK wr K cb (.slice ta n tc) av nv (.slice ca n cc) ds S A/\TR wr K (6,0) 3 1 (.slice (some ⟨hb,0,none⟩) n n) n (iV rs)/\Fr SC κ K w wr)
   case atStart=>exact⟨0,List.replicate n 0,by omega,rfl,rfl,by simp,fun x h=>by omega,HD2.o,HR2.o,HF2.o⟩
   case round=>
    obtain⟨j,rs,hj,hgk,rfl,hrl,hrs,K0,hr3,hf3⟩:=hrel;have x6:=jH K0;have y2:=jH hr3;have HF3:=jH hf3;have Y1:=jH hrl;have HRS:=jH hrs;have q9:=K0.dc.lt;have c0:=ja K0.dc.blk 0 rfl;clear K0 hr3 hf3 hrl hrs
    by_cases q8:j<n
    .have u1:(j:Int)<(n:Int):=by omega
     have f1:=y2.o.frz j
     obtain⟨r0,hr0⟩:∃r0,rs[j]? =some r0:=⟨_,Yb (by rw[Y1.o];exact q8)⟩
     have e1:=y2.o.cell (jzn hr0);have hhb3:=(y2.o.own.lt hb rfl).2;clear hr0;have CH:=jH (fun(z:Int) (hz:z=(j:Nat))=>jtG (x:=j) x6.o hz)
     go_wp2_with (go_at_call 28;refine(CH.o _ rfl).mono ?_;rintro _ w' ⟨N6,r,rfl,Y9⟩;have HHR:=jH Y9;have N6:=N6.symm;subst N6;clear Y9)
     go_roundg (n-(j+1))
     case measure=>omega
     case rel=>
      obtain⟨h1,h2⟩:=y2.o.set j (.int .i64 r);refine⟨j+1,rs.set j r,by omega,rfl,by go_num,by rw[List.length_set];exact Y1.o,fun x hx=>?_,x6.o.keep h2 (fun _ e=>e) (fun p F=>x6.o.dc.top p (by rw[jy]at F;exact F)) (fun b m hb=>by rw[jy];exact x6.o.dc.n5 b m hb),by rw[jFL];exact h1,HF3.o.trans (h2.mono fun t h=>.inr h)⟩
      by_cases e:x=j
      .subst e
       exact⟨r,by rw[List.getElem?_set_self (by rw[Y1.o];exact q8)],HHR.o⟩
      .rw[List.getElem?_set_ne (by omega)]
       exact HRS.o x (by omega)
    .have hjn:j=n:=by omega
     subst hjn
     obtain⟨w3,rfl⟩:∃w3,w3=wr:=⟨_,rfl⟩
     go_upto_region 10 with fail
     clear c0 q9
     go_loopg [3,6,7,8,9,10] j (fun gh s3 s6 s7 s8 s9 s10 (wr:World)=>∃(i:Nat),i<=j/\gh=j-i/\s6= .int .i64 (i:Nat)/\s3= .bool false/\(∀x,x<i->Inf.kd S.ts x≠0->Mt S.ts (cf A) (hdN rs) x)/\DK wr K cb (.slice ta j tc) av nv (.slice ca j cc) ds S A/\TR wr K (6,0) 3 1 (.slice (some ⟨hb,0,none⟩) j j) j (iV rs)/\Fr SC κ K w wr)
     case atStart=>exact⟨0,by omega,rfl,rfl,rfl,fun x h=>by omega,x6.o,y2.o,HF3.o⟩
     case round=>
      obtain⟨i,hi,hgk,rfl,rfl,hmt,x3,hr4,hf4⟩:=hrel
      obtain⟨w4,rfl⟩:∃w4,w4=wr:=⟨_,rfl⟩
      have R5:=jH hmt;have E:=jH x3;have K2:=jH hr4;have r3:=jH hf4;have q9:=x3.dc.lt;have c0:=ja x3.dc.blk 0 rfl;have c3:=ja x3.dc.blk 3 rfl;clear hmt x3 hr4 hf4
      by_cases q8:i<j
      .have u1:(i:Int)<(j:Int):=by omega
       obtain⟨d,hd⟩:∃d,ds[i]? =some d:=⟨_,Yb (by rw[HN.o];exact q8)⟩
       have Y6:=E.o.kd hd;have r6:=E.o.kids hd;obtain⟨r9,N2,y3⟩:=E.o.dc.kds i d hd;obtain⟨va,vc,x5⟩:=r9.slice
       obtain⟨dk,R6⟩:∃dk,d.k=dk:=⟨_,rfl⟩
       obtain⟨xs,hxs⟩:∃xs,d.xs=xs:=⟨_,rfl⟩
       obtain⟨O,N7⟩:∃O,xs.length=O:=⟨_,rfl⟩
       rw[hxs]at r6 r9 y3 x5;rw[N7]at y3 x5;rw[x5]at r9;rw[R6]at Y6 N2;have r2:=E.o.dc.tr;rw[HN.o]at r2;obtain⟨tg,tcap,te,htcap,_,htg⟩:=r2.at (by omega);have te':=te;injection te with te _ te2
       subst te te2;have d0:=r2.cell (JR (f:=dtC) (c:=2) (fun _=>rfl) hd (k:=0) (by omega));replace d0:w4.cell? ⟨tg,i*2,none⟩=some (.string (kS dk)):=d0.trans (by show some (Value.string (kS d.k))=_;rw[R6]);have d1:=r2.cell (JR (f:=dtC) (c:=2) (fun _=>rfl) hd (k:=1) (by omega));replace d1:w4.cell? ⟨tg,i*2+1,none⟩=some (.slice va O vc):=d1.trans (by show some d.v=_;rw[x5]);have K4:=jy4 N2;have h6:=jH Y6;have x7:=jH r6;have HKT:=jH r9;have r4:=jH N7;have HR1:=jH r2;clear Y6 r6 r9 x5 R6 hxs N7 r2 te' hd
       by_cases h0:dk=0
       .have hb':((kS dk).toList == ([]:List UInt8))=true:=by rw[K4,h0];rfl
        have y1:=jH h0;clear K4 h0
        go_wp2_with fail
        go_roundg (j-(i+1))
        case measure=>omega
        case rel=>
         refine⟨i+1,by omega,rfl,by go_num,rfl,fun x hx hk=>?_,E.o,K2.o,r3.o⟩
         by_cases e:x=i
         .exfalso;rw[e,h6.o]at hk;exact hk y1.o
         .exact R5.o x (by omega) hk
       .have hb':((kS dk).toList == ([]:List UInt8))=false:=by rw[K4];exact decide_eq_false h0
        have y1:=jH h0;have K6:=jpq (cl:=A) (i:=i) (by rw[h5.o];exact q8)
        obtain⟨x,hx⟩:∃x,cf A i=x:=⟨_,rfl⟩
        have hxl:x<j:=by have:=jpU I.o.cr (a:=i) (by rw[h5.o];exact q8);rw[hx,h5.o]at this;exact this
        rw[hx]at K6;obtain⟨g,hg1,R1,hg3,hg4,Y4⟩:=jFO K6 (by rw[h6.o];exact h0) (HRS.o x hxl);have hgl:g<j:=by have:=(jG hg3).1;rw[h5.o]at this;exact this
        obtain⟨d2,Y⟩:∃d2,ds[g]? =some d2:=⟨_,Yb (by rw[HN.o];exact hgl)⟩
        have y6:=E.o.kd Y;have k4:=E.o.kids Y;obtain⟨k5,R8,q6⟩:=E.o.dc.kds g d2 Y;obtain⟨vb,vd,h9⟩:=k5.slice
        obtain⟨r7,H2⟩:∃dk,d2.k=dk:=⟨_,rfl⟩
        obtain⟨ys,hys⟩:∃ys,d2.xs=ys:=⟨_,rfl⟩
        obtain⟨K1,y8⟩:∃O,ys.length=O:=⟨_,rfl⟩
        rw[hys]at k4 k5 q6 h9;rw[y8]at q6 h9;rw[h9]at k5;rw[H2]at y6 R8;have b0:=HR1.o.cell (JR (f:=dtC) (c:=2) (fun _=>rfl) Y (k:=0) (by omega));replace b0:w4.cell? ⟨tg,g*2,none⟩=some (.string (kS r7)):=b0.trans (by show some (Value.string (kS d2.k))=_;rw[H2]);have b1:=HR1.o.cell (JR (f:=dtC) (c:=2) (fun _=>rfl) Y (k:=1) (by omega));replace b1:w4.cell? ⟨tg,g*2+1,none⟩=some (.slice vb K1 vd):=b1.trans (by show some d2.v=_;rw[h9]);have q4:=E.o.cr;rw[h5.o]at q4;obtain⟨cg,ccap,ce,hccap,_,hcg⟩:=q4.at (by omega);have ce':=ce;injection ce with ce _ ce2
        subst ce ce2;have e2:=q4.cell (jqV K6);have e3:=K2.o.cell (jzn hg1);have H5:=(K2.o.own.lt hb rfl).2;have HX:=jH hx;have K8:=jH (show Inf.Hd S.ts (cf A) i g from by rw[hx,R1]at Y4;exact Y4);have HG2:=jH R1;have y7:=jH y6;have k7:=jH k4;have HKT2:=jH k5;have h4:=jH y8;have r5:=jFr N2 R8;have u2:(x:Int)<(j:Int):=by omega
        have u3:(g:Int)<(j:Int):=by omega
        clear K4 h0 K6 hx hg1 R1 hg3 hg4 Y4 y6 k4 k5 h9 H2 hys y8 Y q4 ce'
        go_upto_region 14 with fail
        generalize hWA:World.alloc _ _=WA;obtain⟨h3,hbA⟩:=jq0 hWA
        obtain⟨ab,H3⟩:∃ab,w4.heap.size=ab:=⟨_,rfl⟩
        have Y0:=h3.size;have HBA:=jH h3;have R7:=jH hbA;have v0:∀B:Wd WA.heap.size WA,B.v.cell? ⟨cb,0,none⟩=_:=wd_at ((h3.cell (p:=⟨cb,0,none⟩) q9).trans c0) (by omega);have v3:∀B:Wd WA.heap.size WA,B.v.cell? ⟨cb,3,none⟩=_:=wd_at ((h3.cell (p:=⟨cb,3,none⟩) q9).trans c3) (by omega);have v1:∀B:Wd WA.heap.size WA,B.v.cell? ⟨cg,i,none⟩=_:=wd_at ((h3.cell (p:=⟨cg,i,none⟩) hcg).trans e2) (by omega);have v2:∀B:Wd WA.heap.size WA,B.v.cell? ⟨hb,x,none⟩=_:=wd_at ((h3.cell (p:=⟨hb,x,none⟩) H5).trans e3) (by omega);have v4:∀B:Wd WA.heap.size WA,B.v.cell? ⟨tg,g*2,none⟩=_:=wd_at ((h3.cell (p:=⟨tg,g*2,none⟩) htg).trans b0) (by omega);have v5:∀B:Wd WA.heap.size WA,B.v.cell? ⟨tg,g*2+1,none⟩=_:=wd_at ((h3.cell (p:=⟨tg,g*2+1,none⟩) htg).trans b1) (by omega);haveI:=Wd.ne WA.heap.size WA;rw[H3]at R7 HBA Y0 ⊢;clear hWA h3 hbA;refine jbo 17 16 8 (.cells #[.string ⟨#[]⟩,.slice none 0 0] 86 (0,0)) _ (by kernel_rfl) (by kernel_rfl) (by kernel_rfl) (by decide) rfl rfl rfl ?_;simp only[TkD];refine jd (by decide) (by rfl) (v:=?v0) ?hv0 ?_
        case hv0=>(intro B;go_simp;all_goals with_reducible rfl)
        simp only[Act.put,SsT];refine jd (by decide) (by rfl) (v:=?v1) ?hv1 ?_
        case hv1=>(intro B;go_simp;all_goals with_reducible rfl)
        simp only[Act.put,SsT];refine jd (by decide) (by rfl) (v:=?v2) ?hv2 ?_
        case hv2=>(intro B;go_simp;all_goals with_reducible rfl)
        simp only[Act.put,SsT];refine jd (by decide) (by rfl) (v:=?v3) ?hv3 ?_
        case hv3=>(intro B;go_simp;all_goals with_reducible rfl)
        simp only[Act.put,SsT];refine jd (by decide) (by rfl) (v:=?v4) ?hv4 ?_
        case hv4=>(intro B;go_simp;all_goals with_reducible rfl)
        simp only[Act.put,SsT];refine jd (by decide) (by rfl) (v:=?v5) ?hv5 ?_
        case hv5=>(intro B;go_simp;all_goals with_reducible rfl)
        simp only[Act.put,SsT];refine jd (by decide) (by rfl) (v:=?v6) ?hv6 ?_
        case hv6=>(intro B;go_simp;all_goals with_reducible rfl)
        simp only[Act.put,SsT];refine jd (by decide) (by rfl) (v:=?v7) ?hv7 ?_
        case hv7=>(intro B;go_simp;all_goals with_reducible rfl)
        simp only[Act.put,SsT];refine jd (by decide) (by rfl) (v:=?v8) ?hv8 ?_
        case hv8=>(intro B;go_simp;all_goals with_reducible rfl)
        simp only[Act.put,SsT];refine jd (by decide) (by rfl) (v:=?v9) ?hv9 ?_
        case hv9=>(intro B;go_simp;all_goals with_reducible rfl)
        simp only[Act.put,SsT];refine jd (by decide) (by rfl) (v:=?v10) ?hv10 ?_
        case hv10=>(intro B;go_simp;all_goals with_reducible rfl)
        simp only[Act.put,SsT];refine jd (by decide) (by rfl) (v:=?v11) ?hv11 ?_
        case hv11=>(intro B;go_simp;all_goals with_reducible rfl)
        simp only[Act.put,SsT];refine jd (by decide) (by rfl) (v:=?v12) ?hv12 ?_
        case hv12=>(intro B;go_simp;all_goals with_reducible rfl)
        simp only[Act.put,SsT];refine jd (by decide) (by rfl) (v:=?v13) ?hv13 ?_
        case hv13=>(intro B;go_simp;all_goals with_reducible rfl)
        simp only[Act.put,SsT];refine jd (by decide) (by rfl) (v:=?v14) ?hv14 ?_
        case hv14=>(intro B;go_simp;all_goals with_reducible rfl)
        simp only[Act.put,SsT];refine jd (by decide) (by rfl) (v:=?v15) ?hv15 ?_
        case hv15=>(intro B;go_simp;all_goals with_reducible rfl)
        simp only[Act.put,SsT];refine Jh (by decide) (fun w=>by kernel_rfl) ?_;refine js ?_;intro bq B hbq hbk;refine Jv hbk rfl 86 (.tmp 8) (.tmp 73) rfl #[.string (kS r7),.slice vb K1 vd] rfl rfl rfl Tryz.infoKind (all_oneCell_toArray (by intro u hu;simp at hu;rcases hu with rfl|rfl <;> rfl)) ?_;intro w5 k8 hlo;have y9:=B.h.trans (hlo.below.mono hbq);have N1:=HBA.o.trans (y9.mono Y0);have H8:=jH (show Below w4.heap.size w4 w5 from by rw[H3];exact N1);have y0:=(y9.block ab (jb R7.o)).trans R7.o;have ka:K ab=none:=E.o.dc.top ab (by omega);have kb:K bq=none:=E.o.dc.top bq (by omega);have e0:=ja y0 0 rfl;have e1:=ja y0 1 rfl;have f0:=ja k8 0 rfl;have f1:=ja k8 1 rfl;simp only[Yz,Yp,List.getElem_cons_succ]at e0 e1 f0 f1;have hla:=jb y0;have hlq:=jb k8;have HA5:=jH y0;have HQ5:=jH k8;have HKA:=jH ka;have HKB:=jH kb;have R0:=jH (E.o.on H8.o);have HAB:=jH H3;clear v0 v1 v2 v3 v4 v5 y9 N1 y0 hbk k8 hlo ka kb c0 c3 d0 d1 b0 b1 e2 e3 H3 hbq Y0
        by_cases h7:dk=r7
        .have hq1:((kS dk).toList == (kS r7).toList)=true:=by rw[r5];exact decide_eq_true h7
         have H6:=jH h7;clear r5 h7
         by_cases N9:O=K1
         .subst N9
          obtain⟨U,Y5⟩:∃U,xs.zip ys=U:=⟨_,rfl⟩
          have h8:=jH Y5;have HZL:Hid (U.length=O):=by show _=_;rw[<-Y5,List.length_zip,r4.o,h4.o,Nat.min_self]
          have x1:Hid (∀p ∈ U,p.1<A.length/\p.2<A.length):=fun p F=>by
           rw[<-h8.o]at F;obtain⟨q1,q2⟩:=List.of_mem_zip F;rw[h5.o,<-HN.o];exact⟨HK.o i _ (by rw[x7.o];exact q1),HK.o g _ (by rw[k7.o];exact q2)⟩
          clear Y5
          go_upto_region 18 with fail
          clear e0 e1 f0 f1
          go_loopg [3,9,10] O (fun gh s3 s9 s10 (wr:World)=>∃(k:Nat) (m:Bool),k<=O/\gh=O-k/\s9= .int .i64 (k:Nat)/\s3= .bool m/\DK wr K cb (.slice (some ⟨tg,0,none⟩) j tc) av nv (.slice (some ⟨cg,0,none⟩) j cc) ds S (jf A (U.take k))/\Fr (· =(4,0)) K K w5 wr/\(m=false->∀p ∈ U.take k,cf A p.1=cf A p.2)/\(m=true->nc (jf A (U.take k))<nc A))
          case atStart=>exact⟨0,false,by omega,rfl,rfl,rfl,R0.o,Fr.refl _ _ _,fun _ p F=>by simp at F,fun h=>by cases h⟩
          case round=>
           obtain⟨k,m,hk,hgk3,rfl,rfl,hd6,y5,hm1,hm2⟩:=hrel
           obtain⟨Z,rfl⟩:∃Z,Z=wr:=⟨_,rfl⟩
           have r1:=jH hd6;have HF6:=jH y5;have H4:=jH hm1;have H7:=jH hm2;have N8:=y5.blk HA5.o HKA.o;have N4:=y5.blk HQ5.o HKB.o;have e0:=ja N8 1 rfl;have f0:=ja N4 1 rfl;simp only[Yz,Yp,List.getElem_cons_succ]at e0 f0;have hla6:=jb N8;have hlq6:=jb N4;have k9:=jH ((Fr.of (S:=(· =(4,0))) (κ:=K) H8.o).trans y5);clear hd6 y5 hm1 hm2 N8 N4
           by_cases hlk:k<O
           .have u4:(k:Int)<(O:Int):=by omega
            obtain⟨a,ha⟩:∃a,xs[k]? =some a:=⟨_,Yb (by rw[r4.o];exact hlk)⟩
            obtain⟨b,x0⟩:∃b,ys[k]? =some b:=⟨_,Yb (by rw[h4.o];exact hlk)⟩
            obtain⟨kg,ko,kva,kvc,kgl,k1⟩:=HKT.o.cell r4.o k9.o ha;obtain⟨kg2,ko2,kva2,kvc2,kgl2,k2⟩:=HKT2.o.cell h4.o k9.o x0;subst kva kva2
            obtain⟨C,R⟩:∃C,jf A (U.take k)=C:=⟨_,rfl⟩
            have hnx:jf A (U.take (k+1))=jl (cf C b) (cf C a) C:=by rw[<-h8.o,jxy ha x0,h8.o,jzb,R]
            have N3:C.length=A.length:=by rw[<-R,jzc]
            have Y2:Cr C:=by rw[<-R];exact jvS _ _ I.o.cr (fun p F=>x1.o p (List.mem_of_mem_take F))
            have N5:=x1.o (a,b) (by rw[<-h8.o];exact Inf.zip_at ha x0);have hnc:nc C<=nc A:=by rw[<-R];exact jyF _ _ I.o.cr (fun p F=>x1.o p (List.mem_of_mem_take F))
            have q5:Hid (a<C.length/\b<C.length):=by show _/\_;rw[N3];exact N5
            rw[R]at r1 H7
            obtain⟨x4,Y7⟩:∃x,cf C a=x:=⟨_,rfl⟩
            obtain⟨y4,Y3⟩:∃y,cf C b=y:=⟨_,rfl⟩
            have hxa:C[a]? =some x4:=by rw[<-Y7];exact jpq q5.o.1
            have hyb:C[b]? =some y4:=by rw[<-Y3];exact jpq q5.o.2
            obtain⟨bb,N0⟩:∃bb,decide (x4≠y4)=bb:=⟨_,rfl⟩
            have CJ:=jH (fun(B:Wd Z.heap.size Z) (z1 z2:Int) (h1:z1=(a:Nat)) (h2:z2=(b:Nat))=>jy7 (r1.o.on B.h) h1 h2 hxa hyb);rw[N0]at CJ;have HBB:=jH N0;have HNX:=jH hnx;have HCUR:=jH R;have HNC:=jH hnc;have R9:=jH Y7;have K9:=jH Y3;have HCR2:=jH Y2;have HZA:=jH (jxy ha x0);have v0:∀B:Wd Z.heap.size Z,B.v.cell? ⟨ab,1,none⟩=_:=wd_at e0 hla6;have v1:∀B:Wd Z.heap.size Z,B.v.cell? ⟨bq,1,none⟩=_:=wd_at f0 hlq6;have v2:∀B:Wd Z.heap.size Z,B.v.cell? ⟨kg,ko+k,none⟩=_:=wd_at k1 kgl;have v3:∀B:Wd Z.heap.size Z,B.v.cell? ⟨kg2,ko2+k,none⟩=_:=wd_at k2 kgl2;haveI:=Wd.ne Z.heap.size Z;clear ha x0 hnx N3 Y2 N5 hnc R Y7 Y3 hxa hyb N0
            go_upto_region 20 with fail
            refine jP 11 13 (by kernel_rfl) (by kernel_rfl) (by decide) ?_;simp only[TkD];refine jd (by decide) (by rfl) (v:=?z0) ?hz0 ?_
            case hz0=>(intro B;go_simp;all_goals with_reducible rfl)
            simp only[Act.put,SsT];refine jd (by decide) (by rfl) (v:=?z1) ?hz1 ?_
            case hz1=>(intro B;go_simp;all_goals with_reducible rfl)
            simp only[Act.put,SsT];refine jd (by decide) (by rfl) (v:=?z2) ?hz2 ?_
            case hz2=>(intro B;go_simp;all_goals with_reducible rfl)
            simp only[Act.put,SsT];refine jd (by decide) (by rfl) (v:=?z3) ?hz3 ?_
            case hz3=>(intro B;go_simp;all_goals with_reducible rfl)
            simp only[Act.put,SsT];refine jd (by decide) (by rfl) (v:=?z4) ?hz4 ?_
            case hz4=>(intro B;go_simp;all_goals with_reducible rfl)
            simp only[Act.put,SsT];refine jd (by decide) (by rfl) (v:=?z5) ?hz5 ?_
            case hz5=>(intro B;go_simp;all_goals with_reducible rfl)
            simp only[Act.put,SsT];refine jd (by decide) (by rfl) (v:=?z6) ?hz6 ?_
            case hz6=>(intro B;go_simp;all_goals with_reducible rfl)
            simp only[Act.put,SsT];refine jd (by decide) (by rfl) (v:=?z7) ?hz7 ?_
            case hz7=>(intro B;go_simp;all_goals with_reducible rfl)
            simp only[Act.put,SsT];refine jd (by decide) (by rfl) (v:=?z8) ?hz8 ?_
            case hz8=>(intro B;go_simp;all_goals with_reducible rfl)
            simp only[Act.put,SsT];refine jd (by decide) (by rfl) (v:=?z9) ?hz9 ?_
            case hz9=>(intro B;go_simp;all_goals with_reducible rfl)
            simp only[Act.put,SsT];refine jd (by decide) (by rfl) (v:=?z10) ?hz10 ?_
            case hz10=>(intro B;go_simp;all_goals with_reducible rfl)
            simp only[Act.put,SsT];refine js ?_;intro B;have hwy:=B.h;have HWY:=jH hwy;clear v0 v1 v2 v3 hwy;have K5:Hid (jl y4 x4 C=jf A (U.take (k+1))):=by show _=_;rw[HNX.o,R9.o,K9.o]
            cases bb with
            |true=>
             have q7:x4≠y4:=of_decide_eq_true HBB.o;have HLT7:Hid (nc (jl y4 x4 C)<nc A):=Yj (jyE (by rw[<-K9.o];exact jpU HCR2.o q5.o.2) (by rw[<-R9.o];exact jt0 q5.o.1) (by rw[<-K9.o];exact jt0 q5.o.2) q7) HNC.o;clear q7
             go_wp2_with (go_at_call 25;refine(CJ.o B _ _ rfl rfl).mono ?_;rintro _ w7 ⟨rfl,r8,x9⟩;have R2:=jH r8;have R4:=jH x9;clear r8 x9)
             go_roundg (O-(k+1))
             case measure=>omega
             case rel=>exact⟨k+1,true,by omega,rfl,by go_num,rfl,K5.o ▸ R2.o,(HF6.o.trans (.of HWY.o)).trans R4.o,fun h=>(by cases h),fun _=>K5.o ▸ HLT7.o⟩
            |false=>
             have q7:x4=y4:=by have:=of_decide_eq_false HBB.o;omega
             have HSM:Hid (jl y4 x4 C=C):=by show _=_;rw[q7,jvQ]
             have HEQ:=jH q7;clear q7
             go_wp2_with (go_at_call 25;refine(CJ.o B _ _ rfl rfl).mono ?_;rintro _ w7 ⟨rfl,r8,x9⟩;have R2:=jH r8;have R4:=jH x9;clear r8 x9)
             go_roundg (O-(k+1))
             case measure=>omega
             case rel=>
              refine⟨k+1,m,by omega,rfl,by go_num,rfl,K5.o ▸ R2.o,(HF6.o.trans (.of HWY.o)).trans R4.o,fun hm p F=>?_,fun hm=>by rw[<-K5.o,HSM.o];exact H7.o hm⟩;have h1:=H4.o hm;rw[<-h8.o,HZA.o,h8.o]at F;rcases Yq.1 F with F|F
              .exact h1 p F
              .have:p=(a,b):=by simpa using F
               subst this;have h2:=jvR _ _ h1;rw[HCUR.o]at h2;show cf A a=cf A b;rw[<-h2,R9.o,K9.o];exact HEQ.o
           .have h7:k=O:=by omega
            subst h7;have htk:U.take k=U:=Yw (by rw[HZL.o];omega);rw[htk]at r1 H4 H7;clear htk
            cases m with
            |true=>
             go_wp2_with fail
             go_roundg (2*nc (jf A U)+1)
             case measure=>have h1:=x8.o;have h2:=H7.o (by first|rfl|trivial);omega
             case rel=>
              refine⟨true,K,jf A U,rfl,⟨r1.o,jvS _ _ I.o.cr x1.o,r3.o.trans (k9.o.mono fun t h=>.inl h),fun r c' hc'=>I.o.ch r c' ?_⟩,by simp,fun h=>by cases h⟩;refine .go (i:=i) (h:=g) (by rw[h6.o];exact y1.o) K8.o (by rw[h6.o,y7.o];exact H6.o) (by rw[x7.o,k7.o,r4.o,h4.o]) ?_ hc';rw[x7.o,k7.o,h8.o];exact jzd _ _ I.o.cr x1.o
            |false=>
             have K7:=jvR U A (H4.o (by first|rfl|trivial));rw[K7]at r1;clear K7;have HR6:=jH (K2.o.keep k9.o (by intro e;cases e))
             go_wp2_with fail
             go_roundg (j-(i+1))
             case measure=>omega
             case rel=>
              refine⟨i+1,by omega,rfl,by go_num,rfl,fun y hy hky=>?_,r1.o,HR6.o,r3.o.trans (k9.o.mono fun t h=>.inl h)⟩
              by_cases e:y=i
              .subst e
               unfold Mt;rw[HX.o,HG2.o,h6.o,y7.o,x7.o,k7.o,h8.o,r4.o,h4.o];exact⟨K8.o,H6.o,rfl,H4.o (by first|rfl|trivial)⟩
              .exact R5.o y (by omega) hky
         .have u7:(O:Int)≠(K1:Int):=by omega
          have HLL:=jH N9;clear N9
          go_wp2_with fail
          go_returns;exact⟨false,A,K,rfl,R0.o,I.o.cr,I.o.ch _ _ (.bad (i:=i) (h:=g) (by rw[h6.o];exact y1.o) K8.o (.inr (by rw[x7.o,k7.o,r4.o,h4.o];exact HLL.o))),r3.o.trans (.of H8.o)⟩
        .have hq1:((kS dk).toList == (kS r7).toList)=false:=by rw[r5];exact decide_eq_false h7
         have H6:=jH h7;clear r5 h7
         go_wp2_with fail
         go_returns;exact⟨false,A,K,rfl,R0.o,I.o.cr,I.o.ch _ _ (.bad (i:=i) (h:=g) (by rw[h6.o];exact y1.o) K8.o (.inl (by rw[h6.o,y7.o];exact H6.o))),r3.o.trans (.of H8.o)⟩
      .have hij:i=j:=by omega
       subst hij
       go_wp2_with fail
       go_roundg (2*nc A)
       case measure=>have:=x8.o;omega
       case rel=>exact⟨false,K,A,rfl,⟨E.o,I.o.cr,r3.o,I.o.ch⟩,by simp,fun _=>jHO (H:=hdN rs) (fun y hk=>R5.o y (by have:=kd_lt hk;rw[<-E.o.dc.ts,Ua,HN.o]at this;exact this) hk)⟩
end Dm
end Go.Proofs.YtlpmpelnhdoboaaGreatDoor
