import Derived.Test.YtlpmpelnhdoboaaGreatDoorS06
import Derived.Test.YtlpmpelnhdoboaaGreatDoorS13
import Derived.Test.YtlpmpelnhdoboaaGreatDoorS17
import Derived.Lib.Hide
import Derived.Deep.RegionWith
import Derived.Deep.Cut
import Derived.Deep.CutRange
import Derived.Deep.DeepCutAuto
import Derived.Deep.LoopGhost
import Derived.Laws.CopyOwn
import Derived.Laws.CopyRow
set_option linter.unusedVariables false
set_option linter.unusedSimpArgs false
set_option maxHeartbeats 20000000
namespace Go.Proofs.YtlpmpelnhdoboaaGreatDoor
section
open Go.RowKit Sl
variable {w:World}{bt:Nat}
theorem jrT {form A:ByteArray}{pos num:Int}
 (B:w.heap[bt]? =some (.cells #[.string form,.int .i64 pos,.int .i64 num,.string A,.slice none 0 0,.slice none 0 0] 117 (0,0))) :
 HT w bt w.heap.size (.pointer (some ⟨bt,0,none⟩)) (.nd form pos num A [] []):=jty (joC.none w (bt+1)) (by omega) jN B
theorem jGb {K w2 w3:World}{E C:Nat}{a b:G}{pos:Int}{e:TypeId}(h1:Below w.heap.size w K) (h7:bt<w.heap.size) (h6:w.heap.size<=K.heap.size) (U:Below K.heap.size K w2) (H:Below w2.heap.size w2 w3)
 (Y:HT w2 K.heap.size w2.heap.size (.pointer (some ⟨E,0,none⟩)) a) (h0:HT w3 w2.heap.size w3.heap.size (.pointer (some ⟨C,0,none⟩)) b) :
 ∃v,Ending.returned (.pointer (some ⟨w3.heap.size+1,0,none⟩))= .returned v/\
  HT ((w3.alloc (.cells #[.pointer (some ⟨E,0,none⟩),.pointer (some ⟨C,0,none⟩)] e (0,0))).alloc (.cells #[.string jqY,.int .i64 pos,.int .i64 0,.string f_0,.slice none 0 0,.slice (some ⟨w3.heap.size,0,none⟩) 2 2] 117 (0,0))) bt
   ((w3.alloc (.cells #[.pointer (some ⟨E,0,none⟩),.pointer (some ⟨C,0,none⟩)] e (0,0))).alloc (.cells #[.string jqY,.int .i64 pos,.int .i64 0,.string f_0,.slice none 0 0,.slice (some ⟨w3.heap.size,0,none⟩) 2 2] 117 (0,0))).heap.size v (.nd jqY pos 0 f_0 [] [a,b])/\
  Below bt w ((w3.alloc (.cells #[.pointer (some ⟨E,0,none⟩),.pointer (some ⟨C,0,none⟩)] e (0,0))).alloc (.cells #[.string jqY,.int .i64 pos,.int .i64 0,.string f_0,.slice none 0 0,.slice (some ⟨w3.heap.size,0,none⟩) 2 2] 117 (0,0))):=by
 have h8:=U.size;have h3:=H.size
 obtain⟨A,F⟩:∃A,A=w3.alloc (.cells #[.pointer (some ⟨E,0,none⟩),.pointer (some ⟨C,0,none⟩)] e (0,0)):=⟨_,rfl⟩
 have I:=jnC w3 (.cells #[.pointer (some ⟨E,0,none⟩),.pointer (some ⟨C,0,none⟩)] e (0,0));have h4:Below w3.heap.size w3 A:=by rw[F];exact jB.alloc jN _
 have h2:A.heap.size=w3.heap.size+1:=by rw[F];simp
 rw[<-F]at I ⊢;clear F
 obtain⟨O,Z⟩:∃O:Obj,O= .cells #[.string jqY,.int .i64 pos,.int .i64 0,.string f_0,.slice none 0 0,.slice (some ⟨w3.heap.size,0,none⟩) 2 2] 117 (0,0):=⟨_,rfl⟩
 rw[<-Z];have B:=jnC A O;have W:Below A.heap.size A (A.alloc O):=jB.alloc jN _;have h5:(A.alloc O).heap.size=w3.heap.size+2:=by rw[Ya,h2]
 obtain⟨V,hV⟩:∃V,V=A.alloc O:=⟨_,rfl⟩
 rw[<-hV]at B W h5 ⊢;rw[Z,h2]at B;have R:Below w3.heap.size w3 V:=h4.trans (W.mono (by omega));refine⟨_,rfl,.nd (ps:=[.pointer (some ⟨E,0,none⟩),.pointer (some ⟨C,0,none⟩)]) (by omega) (by omega) B (Or.inl ⟨rfl,_,_,rfl⟩) (Or.inr ⟨w3.heap.size,0,2,rfl,by omega,by omega,by simp,fun i u hu=>?_⟩) (.cons ?_ (.cons ?_ .nil)),?_⟩
 .rw[W.cell (p:=⟨w3.heap.size,0+i,none⟩) (by show w3.heap.size<_;omega),(cells_of_block I (0+i)).1,Kc]
  simpa using hu
 .exact((Y.keep (jqH (H.trans (R.mono h3)) _))).wide (by omega) (by omega)
 .exact(h0.keep (jqH R _)).wide (by omega) (by omega)
 .exact((h1.mono (by omega)).trans (U.mono (by omega))).trans ((H.mono (by omega)).trans (R.mono (by omega)))
def Opd (L:List Tok) (p:Int) (g:G):Prop:=(jD L 0=1/\(jod (jm7 L 0).t=some (jm7 L 0).n/\(jm7 L 0).t.size<=1000)/\g= .nd jwi p (jm7 L 0).n f_0 [] [])\/(jD L 0=11/\g= .nd jr1 p 1 f_0 [] [])\/(jD L 0=12/\g= .nd jr1 p 0 f_0 [] [])\/(jD L 0=13/\g= .nd jwg p 0 f_0 [] [])\/(jD L 0=2/\g= .nd jwc p 0 (jm7 L 0).t [] [])\/(jD L 0=23/\1<L.length/\jnV 92 p (jm4 L 1 (L.length-1)) g)
variable {L:List Tok}{p:Int}{g:G}
set_option maxRecDepth 100000 in
theorem jJD (hx:ixL L=0) (hl:0<L.length) (hg:Opd L p g):jnV 79 p L g:=by
 intro n bl off cap bt w hn hL q7 q6 v6 h1 hr h3;subst hn;have Z:1<=L.length:=by omega
 have hk:=joJ hr h3 (i:=0) Z;have B:=joV h3 (i:=0) Z;simp only[Kv,Kz]at hk;have e1:=nk1 B;have H:=jrj B;have O:=jri B;have I:=jrh B;have e2:=nk2 B;have F:=joq B
 obtain⟨nm,k5⟩:∃nm,jC (jD L 0)=nm:=⟨_,rfl⟩
 rw[k5]at hk e1 H O I e2 F;have ht:=jsV hr (i:=0) (by omega);simp only[Kv,Kz]at ht;have HE:=jH (And.intro e1 (And.intro H (And.intro O (And.intro I (And.intro e2 F)))));have HG:=jH hg;have HT:=jH ht;have HR:=jH hr;have HK:=jH h3;have v7:=jH h1;have HX:=jH hx;clear hr h3 h1 hx k5 hg ht e1 H O I e2 F
 go_enter Tryz.func79,Tryz.ntmps79
 go_wp2_with (go_at_call 76;refine(jpJ L bl off cap w hL q7 (by omega) HR.o HK.o).mono ?_;rintro e w1 ⟨v,rfl,U,C⟩;obtain⟨gd,v9,rfl,v3,x7,k4,r8⟩:=jnX U Z)
 have x1:=k4;have v1:=jH U;have q5:Hid (RW w1 bl off L):=HR.o.below C (by omega);have x5:=C.size;have A:=jng v7.o C v6;clear U k4 r8 v3
 go_loop [6,7] (fun u v=>∃x y:Nat,1<=y/\y<=L.length/\x<=L.length/\ixN L (L.length-y) y x=0/\u= .int .i64 x/\v= .int .i64 y) (fun _ v=>L.length-(intOf v).toNat)
 case atStart=>exact⟨0,1,jN,Z,Yi _,HX.o,rfl,rfl⟩
 case round=>
  obtain⟨W,j,x6,hj,q9,hs,rfl,rfl⟩:=hrel;have h7:Hid (ixN L (L.length-j) j W=0):=hs;clear hs
  by_cases h6:j<L.length
  .obtain⟨c1,_,_⟩:=q5.o j h6
   obtain⟨q4,B⟩:=HK.o L[j] (by simp);have k8:=jpK v1.o j h6;rw[q4]at c1;have K:=jpO B
   obtain⟨kk,h9⟩:∃kk,L[j].k=kk:=⟨_,rfl⟩
   obtain⟨dv,h8⟩:∃dv,joz L j=dv:=⟨_,rfl⟩
   rw[h9]at c1 K;rw[h8]at k8
   have h2:Hid (ixN L (L.length-(j+1)) (j+1) (if dv=0/\kk=18 then j else W)=0):=by
    show _=_;have:=h7.o;rw[show L.length-j=(L.length-(j+1))+1 by omega,ixN,h8,joQ L j h6,h9]at this;exact this
   clear q4 h9 h8 B
   by_cases R:dv=0
   .rw[R]at k8 h2
    clear R
    by_cases E:kk=18
    .have e18:((jC kk).toList == [46,40])=true:=by rw[K];simpa using E
     have h5:=jH E;clear K E
     go_wp2_with fail
     go_round
     case rel=>exact⟨j,j+1,by omega,by omega,by omega,(by have h:=h2.o;rw[if_pos ⟨rfl,h5.o⟩]at h;exact h),rfl,by go_num⟩
     case measure=>simp[intOf];omega
    .have e18:((jC kk).toList == [46,40])=false:=by rw[K];simpa using E
     have h5:=jH E;clear K E
     go_wp2_with fail
     go_round
     case rel=>exact⟨W,j+1,by omega,by omega,by omega,(by have h:=h2.o;rw[if_neg (fun h'=>h5.o h'.2)]at h;exact h),rfl,by go_num⟩
     case measure=>simp[intOf];omega
   .have hd0':(dv == 0)=false:=by simpa using R
    have v4:=jH R;clear R K
    go_wp2_with fail
    go_round
    case rel=>exact⟨W,j+1,by omega,by omega,by omega,(by have h:=h2.o;rw[if_neg (fun h'=>v4.o h'.1)]at h;exact h),rfl,by go_num⟩
    case measure=>simp[intOf];omega
  .have hz:W=0:=by
    have:=h7.o;rw[show L.length-j=0 by omega,ixN]at this;exact this
   subst hz;clear h7 q9;have r9:=jmp A 0 rfl;have r6:=jmp A 2 rfl;have r5:=jmp A 3 rfl;have r4:=jne A 0;have r1:=jne A 2;have r7:=jne A 3;have x3:=(C.cell (p:=⟨bl,off,none⟩) (by show bl<_;omega)).trans hk;have k2:=(C.cell (p:=⟨bl,off+1,none⟩) (by show bl<_;omega)).trans HT.o;obtain⟨e1,H,O,I,e2,F⟩:=HE.o;rcases HG.o with⟨Y,⟨U,k9⟩,rfl⟩|⟨Y,rfl⟩|⟨Y,rfl⟩|⟨Y,rfl⟩|⟨Y,rfl⟩|⟨Y,x2,hs⟩ <;> rw[Y]at e1 H O I e2 F <;> simp only[Nat.reduceEqDiff,decide_true,decide_false]at e1 H O I e2 F <;> clear Y
   .obtain⟨t0,ht0⟩:∃t0:ByteArray,(jm7 L 0).t=t0:=⟨_,rfl⟩
    rw[ht0]at k2 U k9
    obtain⟨n0,h4⟩:∃n0:Nat,(jm7 L 0).n=n0:=⟨_,rfl⟩
    rw[h4]at U;have HV:=jH U;have q8:=jH h4;clear U h4 ht0
    go_wp2_with (go_at_call 43;refine(jux t0 k9 _).mono ?_;rintro e w2 ⟨x,rfl,v5,v8⟩;subst v8)
    go_ret;have v0:=v5 n0 HV.o;subst v0;rw[q8.o];exact⟨_,rfl,jrT (block_setCell (block_setCell (A) 0 _) 2 _),(C.mono (by omega)).trans (jnm.below (((jnm.refl bt w1).set _).set _))⟩
   .go_wp2_with fail
    go_ret;exact⟨_,rfl,jrT (block_setCell (block_setCell (A) 0 _) 2 _),(C.mono (by omega)).trans (jnm.below (((jnm.refl bt w1).set _).set _))⟩
   iterate 2
    .go_wp2_with fail
     go_ret;exact⟨_,rfl,jrT (block_setCell (A) 0 _),(C.mono (by omega)).trans (jnm.below ((jnm.refl bt w1).set _))⟩
   .obtain⟨t0,ht0⟩:∃t0:ByteArray,(jm7 L 0).t=t0:=⟨_,rfl⟩
    rw[ht0]at k2;have r2:=jH ht0;clear ht0
    go_wp2_with fail
    go_ret;rw[r2.o];exact⟨_,rfl,jrT (block_setCell (block_setCell (A) 0 _) 3 _),(C.mono (by omega)).trans (jnm.below (((jnm.refl bt w1).set _).set _))⟩
   .have HS:=jH hs
    have k1:Hid ((jm4 L 1 (L.length-1)).length=L.length-1-1):=jn1 L (by omega) (by omega);clear hs r9 r6 r5 r4 r1 r7
    go_wp2_with (go_at_call 92;refine(HS.o _ bl _ _ bt _ (by rw[k1.out]) (by rw[k1.out];omega) (by rw[k1.out];omega) q6 (by omega) (by exact A) (by exact q5.o.cut 1 (L.length-1)) (jo4 HK.o 1 (L.length-1))).mono ?_;rintro _ w2 ⟨v2,rfl,k7,r3⟩;obtain⟨p2,rfl,x4,x0⟩:=k7.ptr)
    go_ret;exact⟨_,rfl,k7,(C.mono (by omega)).trans r3⟩
theorem jEh (B:ixL L=0) (F:jD L 0=1) (E:jod (jm7 L 0).t=some (jm7 L 0).n) (A:(jm7 L 0).t.size<=1000) (C:0<L.length):jnV 79 p L (.nd jwi p (jm7 L 0).n f_0 [] []):=jJD B C (.inl ⟨F,⟨E,A⟩,rfl⟩)
theorem jEf (A:ixL L=0) (C:jD L 0=11) (B:0<L.length):jnV 79 p L (.nd jr1 p 1 f_0 [] []):=jJD A B (.inr (.inl ⟨C,rfl⟩))
theorem jEj (A:ixL L=0) (C:jD L 0=12) (B:0<L.length):jnV 79 p L (.nd jr1 p 0 f_0 [] []):=jJD A B (.inr (.inr (.inl ⟨C,rfl⟩)))
theorem jEg (A:ixL L=0) (C:jD L 0=13) (B:0<L.length):jnV 79 p L (.nd jwg p 0 f_0 [] []):=jJD A B (.inr (.inr (.inr (.inl ⟨C,rfl⟩))))
theorem jEe (A:ixL L=0) (C:jD L 0=2) (B:0<L.length):jnV 79 p L (.nd jwc p 0 (jm7 L 0).t [] []):=jJD A B (.inr (.inr (.inr (.inr (.inl ⟨C,rfl⟩)))))
theorem jEk (A:ixL L=0) (C:jD L 0=23) (B:1<L.length) (hs:jnV 92 p (jm4 L 1 (L.length-1)) g):jnV 79 p L g:=jJD A (by omega) (.inr (.inr (.inr (.inr (.inr ⟨C,B,hs⟩)))))
variable {i:Nat}
set_option maxRecDepth 100000 in
theorem jEi {a b:G}(hx:ixL L=i) (hi:0<i) (hl:i+2<L.length) (ha:jnV 79 (jm7 L 0).p (jm4 L 0 i) a) (hb:jno (jm4 L (i+1) (L.length-1)) b):jnV 79 p L (.nd jqY (jm7 L i).p 0 f_0 [] [a,b]):=by
 intro n bl off cap bt w hn hL q6 v0 k7 R hr W;subst hn;have O:1<=L.length:=by omega
 have hk:=joJ hr W (i:=0) O;have H:=joV W (i:=0) O;simp only[Kv,Kz]at hk;clear hk H;have hp:=jpv hr (i:=0) (by omega);simp only[Kv,Kz]at hp;have k5:=jpv hr (i:=i) (by omega)
 obtain⟨p0,k9⟩:∃p0:Int,((jm7 L 0).p:Int)=p0:=⟨_,rfl⟩
 obtain⟨pi,h6⟩:∃pi:Int,((jm7 L i).p:Int)=pi:=⟨_,rfl⟩
 rw[k9]at hp ha;rw[h6]at k5 ⊢;have HA:=jH ha;have HB:=jH hb;have h1:Hid ((jm4 L 0 i).length=i):=jn1 L (by omega) (by omega);have h0:Hid ((jm4 L (i+1) (L.length-1)).length=L.length-1-(i+1)):=jn1 L (by omega) (by omega);clear ha hb k9 h6;have HR:=jH hr;have HK:=jH W;have r5:=jH R;have HX:=jH hx;clear hr W R hx
 go_enter Tryz.func79,Tryz.ntmps79
 go_wp2_with (go_at_call 76;refine(jpJ L bl off cap w hL q6 (by omega) HR.o HK.o).mono ?_;rintro e I ⟨v,rfl,hv,E⟩;obtain⟨gd,r6,rfl,r3,x1,h9,q9⟩:=jnX hv O)
 have v4:=h9;have r2:=jH hv;have h8:Hid (RW I bl off L):=HR.o.below E (by omega);have k2:=E.size;have r9:=jng r5.o E k7;clear hv h9 q9 r3
 go_loop [6,7] (fun u v=>∃x y:Nat,1<=y/\y<=L.length/\x<=L.length/\ixN L (L.length-y) y x=i/\u= .int .i64 x/\v= .int .i64 y) (fun _ v=>L.length-(intOf v).toNat)
 case atStart=>exact⟨0,1,jN,O,Yi _,HX.o,rfl,rfl⟩
 case round=>
  obtain⟨A,j,v9,hj,q8,hs,rfl,rfl⟩:=hrel;have h3:Hid (ixN L (L.length-j) j A=i):=hs;clear hs
  by_cases h2:j<L.length
  .obtain⟨c1,_,_⟩:=h8.o j h2
   obtain⟨k8,H⟩:=HK.o L[j] (by simp);have k4:=jpK r2.o j h2;rw[k8]at c1;have F:=jpO H
   obtain⟨kk,h7⟩:∃kk,L[j].k=kk:=⟨_,rfl⟩
   obtain⟨Y,h4⟩:∃Y,joz L j=Y:=⟨_,rfl⟩
   rw[h7]at c1 F;rw[h4]at k4
   have U:Hid (ixN L (L.length-(j+1)) (j+1) (if Y=0/\kk=18 then j else A)=i):=by
    show _=_;have:=h3.o;rw[show L.length-j=(L.length-(j+1))+1 by omega,ixN,h4,joQ L j h2,h7]at this;exact this
   clear k8 h7 h4 H
   by_cases K:Y=0
   .rw[K]at k4 U
    clear K
    by_cases C:kk=18
    .have e18:((jC kk).toList == [46,40])=true:=by rw[F];simpa using C
     have Z:=jH C;clear F C
     go_wp2_with fail
     go_round
     case rel=>exact⟨j,j+1,by omega,by omega,by omega,(by have h:=U.o;rw[if_pos ⟨rfl,Z.o⟩]at h;exact h),rfl,by go_num⟩
     case measure=>simp[intOf];omega
    .have e18:((jC kk).toList == [46,40])=false:=by rw[F];simpa using C
     have Z:=jH C;clear F C
     go_wp2_with fail
     go_round
     case rel=>exact⟨A,j+1,by omega,by omega,by omega,(by have h:=U.o;rw[if_neg (fun h'=>Z.o h'.2)]at h;exact h),rfl,by go_num⟩
     case measure=>simp[intOf];omega
   .have hd0':(Y == 0)=false:=by simpa using K
    have r4:=jH K;clear K F
    go_wp2_with fail
    go_round
    case rel=>exact⟨A,j+1,by omega,by omega,by omega,(by have h:=U.o;rw[if_neg (fun h'=>r4.o h'.1)]at h;exact h),rfl,by go_num⟩
    case measure=>simp[intOf];omega
  .have hz:A=i:=by
    have:=h3.o;rw[show L.length-j=0 by omega,ixN]at this;exact this
   subst hz;clear h3 q8;have v8:=(E.cell (p:=⟨bl,off+2,none⟩) (by show bl<_;omega)).trans hp;clear hp
   go_upto_region 10 with fail
   go_cut [9] (fun s9 wx=>∃p1,s9= .pointer (some ⟨p1,0,none⟩)/\HT wx I.heap.size wx.heap.size s9 a/\Below I.heap.size I wx)
   case first=>
    go_region_with (go_at_call 79;refine(HA.o _ bl _ _ I.heap.size _ (by rw[h1.out]) (by rw[h1.out];omega) (by rw[h1.out];omega) (by omega) (by simp) (by exact jnC I _) (by exact(h8.o.alloc (by omega) _).cut 0 A) (jo4 HK.o 0 A)).mono ?_;rintro _ w2 ⟨v2,rfl,k1,B⟩;obtain⟨p2,rfl,v6,v1⟩:=k1.ptr)
    all_goals (try go_wp2_with fail)
    all_goals go_meet
    all_goals exact⟨_,rfl,k1,((Ko I.heap.size I).alloc jN _).trans ⟨B.os,B.tape,B.output,B.size,B.block⟩⟩
   case rest=>
    obtain⟨p1,rfl,q7,B⟩:=hcut;have v5:=B.size;have r1:Hid (RW wc bl off L):=h8.o.below B (by omega);have q5:=((E.trans (B.mono k2)).cell (p:=⟨bl,off+A*3+2,none⟩) (by show bl<_;omega)).trans k5
    go_wp2_with (go_at_call 23;refine(HB.o _ bl _ _ _ (by rw[h0.out]) (by rw[h0.out];omega) (by rw[h0.out];omega) (by omega) (by exact r1.o.cut (A+1) (L.length-1)) (jo4 HK.o (A+1) (L.length-1))).mono ?_;rintro _ w3 ⟨v3,rfl,q4,h5⟩;obtain⟨p3,rfl,x0,r8⟩:=q4.ptr;have r7:=(h5.cell (p:=⟨bl,off+A*3+2,none⟩) (by show bl<_;omega)).trans q5;have v7:=h5.size)
    go_ret;exact jGb E k7 k2 B h5 q7 q4
theorem Tryz.info31:(Tryz.prog.info? 31).map (fun i=>(i.zero,i.size,i.bytes))=some (some (.pointer none),1,8):=by kernel_rfl
def OKs (L:List Tok):List (Nat × Nat)->List G->Prop
 |[],[]=>True
 |q ::ls,g ::gs=>jno (jm4 L q.1 q.2) g/\OKs L ls gs
 |_,_=>False
variable {base:Nat}{kv:Value}{ps:List Value}{gs:List G}
theorem joC.below {B:World}(hk:joC w base kv ps gs) (A:Below w.heap.size w B):joC B base kv ps gs:=
 ⟨own_below hk.own A,hk.ht.keep A.size (fun b _ h2 _=>A.block b h2) (.inl rfl)⟩
theorem jua {w3:World}{o:Obj}{m:Nat}{e:TypeId}{X:Obj}(B:w.ownsRow base e 1 kv m ps) (F:bt<base) (A:w.heap[bt]? =some X) (E:(w.alloc o).grownBy w3 kv.ownBlock):w3.heap[bt]? =some X:=by
 have C:=lt_of_block A;rw[E.block bt (by rw[Ya];omega) (fun h=>by have:=(B.lt bt h.symm).1;omega),Kq _ _ _ C];exact A
set_option maxRecDepth 100000 in
theorem jIK :jnV 92 p [] (.nd jwd p 0 f_0 [] []):=by
 intro n bl off cap bt w I U E F O A H C;subst I;clear H C;have K:=jmp A 0 rfl;have R:=jne A 0;have B:=jH A;clear A
 go_enter Tryz.func92,Tryz.ntmps92
 go_wp2_with fail
 go_ret;exact⟨_,rfl,jrT (block_setCell B.o 0 _),jsK w bt 0 _⟩
def juG (F:Nat) (p:Int) (g:G) (gs:List G):G:=if F=0 then g else .nd jrs p 0 f_0 [] (gs ++[g])
set_option maxRecDepth 100000 in
theorem jAk {F:Nat}(hl:0<L.length) (y7:F<L.length) (hF:(cmL L).2=F) (hs:OKs L (cmL L).1 gs) (hg:jno (L.drop F) g):jnV 92 p L (juG F p g gs):=by
 intro n bl off cap bt w hn hL q8 y2 z1 k4 hr v8;subst hn;have z4:1<=L.length:=hl;obtain⟨i0,x3,v1,x4,x0⟩:=info_parts Tryz.info31;have HR:=jH hr;have HK:=jH v8;have z2:=jH k4
 have v9:Hid (cmN L L.length 0 0=((cmL L).1,F)):=by
  show _=_;rw[<-hF];rfl
 obtain⟨r4,r5⟩:∃r4,(cmL L).1=r4:=⟨_,rfl⟩
 rw[r5]at v9 hs;have HS:=jH hs;have HG:=jH hg;clear hr v8 k4 hF hs hg r5
 go_enter Tryz.func92,Tryz.ntmps92
 go_wp2_with (go_at_call 76;refine(jpJ L bl off cap w hL q8 (by omega) HR.o HK.o).mono ?_;rintro e H ⟨v,rfl,hv,h4⟩;obtain⟨gd,H1,rfl,H4,y9,v4,z8⟩:=jnX hv z4)
 have H3:=v4;have y6:=jH hv;have z3:Hid (RW H bl off L):=HR.o.below h4 (by omega);have H7:=h4.size;have y1:Hid (H.heap[bt]? =some (jnL p)):=jng z2.o h4 z1;clear hv v4 z8
 go_loopw [6,7] (fun u v wr=>∃(i f:Nat) (kv:Value) (ps:List Value) (gl gr:List G) (pr:List (Nat × Nat)),i<=L.length/\f<=i/\cmN L (L.length-i) i f=(pr,F)/\OKs L pr gr/\gl ++gr=gs/\ps.length<=i/\u= .int .i64 f/\v= .int .i64 i/\
  wr.heap[bt]? =some (.cells #[.string f_0,.int .i64 p,.int .i64 0,.string f_0,.slice none 0 0,kv] 117 (0,0))/\joC wr H.heap.size kv ps gl/\jna bt H.heap.size H wr) (fun _ v _=>L.length-(intOf v).toNat)
 case atStart=>exact⟨0,0,_,[],[],gs,r4,Yi _,jN,v9.o,HS.o,rfl,jN,rfl,rfl,y1.o,joC.none _ _,jna.refl _ _ _⟩
 case round=>
  obtain⟨i,f,kv,ps,gl,gr,pr,hi,z0,v6,x2,v3,H5,rfl,rfl,q6,h9,K⟩:=hrel;have HC:=jH v6;have HO:=jH x2;have h2:=jH v3;have k2:=jH q6;have R:=jH h9;have Z:=jH K;have k5:=K.below.size;have k1:Hid (RW wr bl off L):=z3.o.below K.below y2;clear v6 x2 v3 q6 h9 K
  by_cases q4:i<L.length
  .obtain⟨c1,_,_⟩:=k1.o i q4
   obtain⟨v7,q5⟩:=HK.o L[i] (by simp);have v5:wr.cell? ⟨gd,i,none⟩=some (.int .i64 (joz L i)):=(Ke (w:=H) (a:=⟨gd,i,none⟩) (Z.o.rest gd y9 (by omega))).trans (jpK y6.o i q4);rw[v7]at c1;have Y:=joR q5
   obtain⟨kk,r8⟩:∃kk,L[i].k=kk:=⟨_,rfl⟩
   obtain⟨dv,r6⟩:∃dv,joz L i=dv:=⟨_,rfl⟩
   rw[r8]at c1 Y;rw[r6]at v5
   have O:Hid ((if dv=0/\kk=25 then((f,i) ::(cmN L (L.length-(i+1)) (i+1) (i+1)).1,(cmN L (L.length-(i+1)) (i+1) (i+1)).2) else cmN L (L.length-(i+1)) (i+1) f)=(pr,F)):=by
    show _=_;have:=HC.o;rw[show L.length-i=(L.length-(i+1))+1 by omega,cmN,r6,joQ L i q4,r8]at this;exact this
   clear v7 r8 r6 q5
   by_cases h3:dv=0
   .rw[h3]at v5 O
    clear h3
    by_cases U:kk=25
    .have e25:((jC kk).toList == [44])=true:=by rw[Y];simpa using U
     have h8:Hid (((f,i) ::(cmN L (L.length-(i+1)) (i+1) (i+1)).1,(cmN L (L.length-(i+1)) (i+1) (i+1)).2)=(pr,F)):=by
      have h:=O.o;rw[if_pos ⟨rfl,U⟩]at h;exact h
     obtain⟨W,h7⟩:∃W,(cmN L (L.length-(i+1)) (i+1) (i+1)).1=W:=⟨_,rfl⟩
     have y4:pr=(f,i) ::W:=by have h:=h8.o;simp only[Prod.mk.injEq]at h;rw[<-h.1,h7]
     have HN:Hid (cmN L (L.length-(i+1)) (i+1) (i+1)=(W,F)):=by
      have h:=h8.o;simp only[Prod.mk.injEq]at h;show _=_;rw[<-h.2,<-h7]
     subst y4
     obtain⟨g1,k7,q7,r3,r7⟩:∃g1 k7,gr=g1 ::k7/\jno (jm4 L f i) g1/\OKs L W k7:=by
      have h:=HO.o
      cases gr with
      |nil=>exact h.elim
      |cons a b=>exact⟨a,b,rfl,h.1,h.2⟩
     subst q7;have z7:=jH r3;have y8:=jH r7;have v0:Hid ((jm4 L f i).length=i-f):=jn1 L z0 (by omega);clear Y U O h8 HO HC r3 r7 h7
     go_wp2_with (first
      |(go_at_call 23;refine(z7.o _ bl _ _ _ (by rw[v0.out]) (by rw[v0.out];omega) (by rw[v0.out];omega) (by omega) (by exact k1.o.cut f i) (jo4 HK.o f i)).mono ?_;rintro _ w2 ⟨v2,rfl,I,C⟩;obtain⟨p2,rfl,x1,q9⟩:=I.ptr;have z6:=C.size;have A:=jng k2.o C (by omega);have z5:=jmp A 5 rfl;have h5:=R.o.below C)
      |(at_builtin;refine JO _ rfl (.tmp 47) (.tmp 49) 115 rfl H.heap.size 31 i0 _ 1 8 Tryz.underlying115 x3 v1 x4 x0 rfl (by decide) kv _ _ rfl (h5.own.alloc _) _ 1 1 [.pointer (some ⟨p2,0,none⟩)] rfl rfl (Ja _ _ _ _ rfl) ?_ ?_ ?_ ?_ ?_;(intro u hu;simp at hu;subst hu;rfl);(unfold maxLen;omega);omega;(simp;omega);intro v' w3 E h1 h0;obtain⟨kg,kc,rfl,x5,x7,x8,y0⟩:=jnX E (by omega);have B:=jua h5.own (show bt<H.heap.size by omega) A h1;have x6:=jmp B 5 rfl;have y3:=jne B 5))
     go_roundw
     case rel=>
      obtain⟨r9,r1,z9⟩:=jtx h5 (show bt<H.heap.size by omega) k5 (fun r h=>(R.o.own.lt r h).2) I E h1 h0 (.slice (some ⟨kg,0,none⟩) (ps.length+1) kc);exact⟨i+1,i+1,_,ps ++[.pointer (some ⟨p2,0,none⟩)],gl ++[g1],k7,W,by omega,jN,HN.o,y8.o,by rw[<-h2.o];simp,by simp;omega,by go_num,by go_num,block_setCell B 5 _,r9,(Z.o.trans (jna.of (C.mono k5) (by omega))).trans r1⟩
     case measure=>simp[intOf];omega
    .have e25:((jC kk).toList == [44])=false:=by rw[Y];simpa using U
     have HN:Hid (cmN L (L.length-(i+1)) (i+1) f=(pr,F)):=by
      have h:=O.o;rw[if_neg (fun h'=>U h'.2)]at h;exact h
     clear Y U O HC
     go_wp2_with fail
     go_roundw
     case rel=>exact⟨i+1,f,kv,ps,gl,gr,pr,by omega,by omega,HN.o,HO.o,h2.o,by omega,rfl,by go_num,k2.o,R.o,Z.o⟩
     case measure=>simp[intOf];omega
   .have hd0':(dv == 0)=false:=by simpa using h3
    have HN:Hid (cmN L (L.length-(i+1)) (i+1) f=(pr,F)):=by
     have h:=O.o;rw[if_neg (fun h'=>h3 h'.1)]at h;exact h
    clear Y h3 O HC
    go_wp2_with fail
    go_roundw
    case rel=>exact⟨i+1,f,kv,ps,gl,gr,pr,by omega,by omega,HN.o,HO.o,h2.o,by omega,rfl,by go_num,k2.o,R.o,Z.o⟩
    case measure=>simp[intOf];omega
  .have hfin:pr=[]/\f=F:=by
    have:=HC.o;rw[show L.length-i=0 by omega,cmN]at this;simp only[Prod.mk.injEq]at this;exact⟨this.1.symm,this.2⟩
   obtain⟨rfl,rfl⟩:=hfin
   have q7:gr=[]:=by
    have h:=HO.o
    cases gr with
    |nil=>rfl
    |cons a b=>exact h.elim
   subst q7
   have y5:Hid (gl=gs):=by
    show gl=gs;have:=h2.o;simpa using this
   clear HC HO h2
   by_cases k9:f=0
   .subst k9
    have H0:Hid (jno L g):=by
     have:=HG.o;rw[List.drop_zero]at this;exact this
    clear HG
    go_wp2_with (go_at_call 23;refine(H0.o _ bl off cap _ rfl hL q8 (by omega) k1.o HK.o).mono ?_;rintro _ w2 ⟨v2,rfl,I,C⟩;obtain⟨p2,rfl,x1,q9⟩:=I.ptr)
    go_ret;exact⟨_,rfl,I.wide (by omega) jN,((h4.mono (by omega)).trans Z.o.below).trans (C.mono (by omega))⟩
   .have HF0:=jH k9
    have H8:((f:Int) == 0)=false:=by simp;omega
    clear k9
    go_wp2_with (first
     |(go_at_call 23;refine(HG.o _ bl _ _ _ (by rw[Ys]) (by rw[Ys];omega) (by rw[Ys];omega) (by omega) (by exact k1.o.drop f) (jp0 HK.o f)).mono ?_;rintro _ w2 ⟨v2,rfl,I,C⟩;obtain⟨p2,rfl,x1,q9⟩:=I.ptr;have z6:=C.size;have A:=jng k2.o C (by omega);have z5:=jmp A 5 rfl;have H6:=jmp A 0 rfl;have H2:=jne A 0;have h5:=R.o.below C;have k8:=(jnm.refl bt w2).set (i:=0) (.string jrs);have h6:=h5.sole k8 (show bt<H.heap.size by omega);have r2:=block_setCell A 0 (.string jrs))
     |(at_builtin;refine JO _ rfl (.tmp 69) (.tmp 71) 115 rfl H.heap.size 31 i0 _ 1 8 Tryz.underlying115 x3 v1 x4 x0 rfl (by decide) kv _ _ rfl (h6.own.alloc _) _ 1 1 [.pointer (some ⟨p2,0,none⟩)] rfl rfl (Ja _ _ _ _ (size_setCell _ _ _).symm) ?_ ?_ ?_ ?_ ?_;(intro u hu;simp at hu;subst hu;rfl);(unfold maxLen;omega);omega;(simp only[Ya,size_setCell];omega);intro v' w3 E h1 h0;obtain⟨kg,kc,rfl,x5,x7,x8,y0⟩:=jnX E (by omega);have B:=jua h6.own (show bt<H.heap.size by omega) r2 h1;have x6:=jmp B 5 rfl;have y3:=jne B 5))
    go_ret
    have x9:HT (w2.setCell ⟨bt,0,none⟩ (.string jrs)) wr.heap.size (w2.setCell ⟨bt,0,none⟩ (.string jrs)).heap.size (.pointer (some ⟨p2,0,none⟩)) g:=by
     rw[size_setCell];exact I.keep (k8.held (by omega))
    obtain⟨r9,r1,z9⟩:=jtx h6 (show bt<H.heap.size by omega) k5 (fun r h=>(R.o.own.lt r h).2) x9 E h1 h0 (.slice (some ⟨kg,0,none⟩) (ps.length+1) kc);refine⟨_,rfl,?_,(h4.mono (by omega)).trans (((Z.o.trans (jna.of (C.mono k5) (by omega))).trans (jna.sole k8)).trans r1).below⟩;unfold juG;rw[if_neg HF0.o,<-y5.o];exact jty r9 (show bt<H.heap.size by omega) jN (block_setCell B 5 _)
def OPs (L:List Tok):List (Nat × Nat)->List G->Prop
 |[],[]=>True
 |q ::ls,g ::gs=>jnV 79 (jm7 (jm4 L q.1 q.2) 0).p (jm4 L q.1 q.2) g/\OPs L ls gs
 |_,_=>False
theorem jEl (L:List Tok):∀(m i f:Nat),i+m=L.length+1->1<=m->1<=(opN L m i f).length:=by
 intro m
 induction m with
 |zero=>intro i f _ h;omega
 |succ m ih=>
  intro i f B _;rw[opN]
  by_cases A:m=0
  .subst A
   rw[if_pos (show joX L i from Or.inl (by omega))];simp
  .split
   .simp
   .exact ih (i+1) f (by omega) (by omega)
theorem jyq (h:1<=L.length):1<=(opL L).length:=jEl L L.length 1 0 (by omega) h
theorem jvu {n b off cap:Nat}{ps:List (Nat × Nat)}(A:opL L=ps) (K:n=L.length) (F:L.length<=100000) (B:1<=L.length) (H:L.length<=cap) (E:b<w.heap.size) (I:RW w b off L) (C:∀t ∈ L,jnl t) :
 Calls Tryz.prog 78 #[.slice (some ⟨b,off,none⟩) n cap] w fun e w'=>∃v,e= .returned v/\w'.ownsRow w.heap.size 74 1 v ps.length (ps.map (cutV b off cap))/\Below w.heap.size w w':=by
 subst K;subst A;exact jEc L b off cap w F B H E I C
theorem jGv (hk:joC w base kv ps (g ::gs)):∃g0 cap b,kv= .slice (some ⟨g0,0,none⟩) ps.length cap/\base<=g0/\base<=b/\ps.length<=cap/\1<=ps.length/\w.cell? ⟨g0,0,none⟩=some (.pointer (some ⟨b,0,none⟩))/\w.cell? ⟨b,1,none⟩=some (.int .i64 g.pos):=by
 have E:=hk.ht.len;simp only[Yk]at E;obtain⟨g0,cap,C,H,O,F,K⟩:=jnX hk.own (by omega);have A:=hk.own;rw[C]at A;have I:=A.cellAt 0 (by omega)
 cases ps with
 |nil=>simp at E
 |cons v vs=>
  obtain⟨⟨B,n,R,U,_,ht⟩,_⟩:=hk.ht
  cases ht with
  |nd q1 q2 q3 q4 q5 q6=>
   exact⟨g0,cap,_,C,H,by omega,F,by omega,by rw[I];rfl,(cells_of_block q3 1).1⟩
set_option maxRecDepth 100000 in
theorem jIC (hw:jpL (jD L 0)=false) (hl:0<L.length) (h1:(opL L).length=1) (hs:jnV 79 p L g):jnV 50 p L g:=by
 intro n bl off cap bt w hn hL I h2 h8 B hr E;subst hn;have F:1<=L.length:=hl;have hk:=joJ hr E (i:=0) F;have A:=joV E (i:=0) F;simp only[Kv,Kz]at hk;simp only[jpL,Bool.or_eq_false_iff,Kl]at hw;obtain⟨⟨⟨K,R⟩,U⟩,Z⟩:=hw;have h7:((jC (jD L 0)).toList == [112,114,105,110,116])=false:=by rw[jqU A];simpa using K
 have h3:((jC (jD L 0)).toList == [108,101,110])=false:=by rw[jrg A];simpa using R
 have h6:((jC (jD L 0)).toList == [97,114,114,97,121])=false:=by rw[jrQ A];simpa using U
 have h4:((jC (jD L 0)).toList == [112,117,116])=false:=by rw[jsp A];simpa using Z
 obtain⟨nm,W⟩:∃nm,jC (jD L 0)=nm:=⟨_,rfl⟩
 rw[W]at hk h7 h3 h6 h4;have HR:=jH hr;have HK:=jH E;have h9:=jH B;have HS:=jH hs
 obtain⟨pl,H⟩:∃pl,opL L=pl:=⟨_,rfl⟩
 have k1:=jH H;rw[H]at h1;clear hr E B hs W K R U Z A H
 go_enter Tryz.func50,Tryz.ntmps50
 go_wp2_with (first
  |(go_at_call 78;refine(jvu k1.o rfl hL F I (by omega) HR.o HK.o).mono ?_;rintro _ w1 ⟨v1,rfl,O,C⟩;rw[h1]at O;obtain⟨pg,k2,rfl,k8,q5,k7,q4⟩:=jnX O jN;have k5:=C.size;have h0:=jng h9.o C h8)
  |(go_at_call 79;refine(HS.o _ bl off cap bt _ rfl hL I h2 (by omega) h0 (HR.o.below C (by omega)) HK.o).mono ?_;rintro _ w2 ⟨v2,rfl,Y,h5⟩;obtain⟨p2,rfl,k9,k4⟩:=Y.ptr))
 go_ret;exact⟨_,rfl,Y,(C.mono (by omega)).trans h5⟩
set_option maxRecDepth 100000 in
theorem jIz (hw:jpL (jD L 0)=true) (hl:1<L.length) (hs:OPs (L.drop 1) (opL (L.drop 1)) gs):jnV 50 p L (.nd (jC (jD L 0)) p 0 f_0 [] gs):=by
 intro n bl off cap bt w hn hL z5 x3 x8 h0 hr h1;subst hn;have v5:1<=L.length:=by omega
 obtain⟨i0,y6,x4,y9,y3⟩:=info_parts Tryz.info31;have hk:=joJ hr h1 (i:=0) v5;have C:=joV h1 (i:=0) v5;simp only[Kv,Kz]at hk
 have O:((jC (jD L 0)).toList == [112,114,105,110,116] || (jC (jD L 0)).toList == [108,101,110] || (jC (jD L 0)).toList == [97,114,114,97,121] || (jC (jD L 0)).toList == [112,117,116])=true:=by
  rw[jqU C,jrg C,jrQ C,jsp C];exact hw
 have v6:((jC (jD L 0)).toList == (⟨#[]⟩:ByteArray).toList)=false:=by rw[jsn C];simp;omega
 rw[show(⟨#[]⟩:ByteArray).toList=[] from toL []]at v6
 obtain⟨nm,r7⟩:∃nm,jC (jD L 0)=nm:=⟨_,rfl⟩
 rw[r7]at hk O v6 ⊢;have HR:=jH hr;have v0:Hid (∀t ∈ L.drop 1,jnl t):=jp0 h1 1;have z8:(L.drop 1).length=L.length-1:=by rw[Ys]
 have x9:=jH h0;have k7:Hid (∀q ∈ opL (L.drop 1),q.1<q.2/\q.2<=(L.drop 1).length):=jyr _;have r3:(opL (L.drop 1)).length<=(L.drop 1).length:=jyo _ _ _ _;have h6:1<=(opL (L.drop 1)).length:=jyq (by omega)
 obtain⟨B,H⟩:∃B,opL (L.drop 1)=B:=⟨_,rfl⟩
 have y8:=jH H;rw[H]at hs k7 r3 h6;have HS:=jH hs;clear hr h1 h0 hs r7 C H
 go_enter Tryz.func50,Tryz.ntmps50
 go_upto_region 3 with fail
 go_cut [27] (fun s27 wy=>s27= .bool true/\w=wy)
 case first=>
  cases b14 :(nm.toList == [112,114,105,110,116]) <;> cases b15 :(nm.toList == [108,101,110]) <;> cases b16 :(nm.toList == [97,114,114,97,121]) <;> cases b17 :(nm.toList == [112,117,116])
  all_goals first
   |(exfalso;rw[b14,b15,b16,b17]at O;simp at O;done)
   |(clear O;go_wp2_with fail;go_meet;exact⟨rfl,rfl⟩)
 case rest=>
 obtain⟨rfl,rfl⟩:=hcut;clear O
 go_wp2_with (go_at_call 78;refine(jvu y8.o (by omega) (by omega) (by omega) (by omega) (by omega) (by exact HR.o.drop 1) v0.o).mono ?_;rintro _ F ⟨v1,rfl,q5,h2⟩;obtain⟨R,z3,rfl,H7,y4,h7,H8⟩:=jnX q5 h6)
 have H6:=h2.size;have x2:Hid (F.heap[bt]? =some (jnL p)):=jng x9.o h2 x8;have y5:=jH q5;have y1:Hid (RW F bl off L):=HR.o.below h2 (by omega);clear q5
 go_loopg [8] B.length (fun gh s8 (wx:World)=>∃(i:Nat) (kv:Value) (ps:List Value) (gl gr:List G),i<=B.length/\gh=B.length-i/\OPs (L.drop 1) (B.drop i) gr/\gl ++gr=gs/\ps.length=i/\s8= .int .i64 i/\
  wx.heap[bt]? =some (.cells #[.string f_0,.int .i64 p,.int .i64 0,.string f_0,.slice none 0 0,kv] 117 (0,0))/\joC wx F.heap.size kv ps gl/\jna bt F.heap.size F wx)
 case atStart=>exact⟨0,_,[],[],_,Yi _,rfl,HS.o,rfl,rfl,rfl,x2.o,joC.none _ _,jna.refl _ _ _⟩
 case round=>
  obtain⟨i,kv,ps,gl,gr,hi,rfl,r1,r6,H,rfl,k4,U,E⟩:=hrel;have HO:=jH r1;have k1:=jH r6;have k2:=jH H;have Z:=jH k4;have h9:=jH U;have r2:=jH E;have v4:=E.below.size;have h8:RW wr bl off L:=y1.o.below E.below x3;clear r1 r6 H k4 U E
  by_cases r9:i<B.length
  .obtain⟨q,hq⟩:∃q,B[i]=q:=⟨_,rfl⟩
   have v8:q ∈ B:=by rw[<-hq];exact List.getElem_mem _
   obtain⟨x7,v3⟩:=k7.o q v8;have Y:B.drop i=q ::B.drop (i+1):=by rw[Ki r9,hq]
   obtain⟨g1,h4,k5,k8,q6⟩:∃g1 h4,gr=g1 ::h4/\jnV 79 (jm7 (jm4 (L.drop 1) q.1 q.2) 0).p (jm4 (L.drop 1) q.1 q.2) g1/\OPs (L.drop 1) (B.drop (i+1)) h4:=by
    have h:=HO.o;rw[Y]at h
    cases gr with
    |nil=>exact h.elim
    |cons a b=>exact⟨a,b,rfl,h.1,h.2⟩
   subst k5
   have K:wr.cell? ⟨R,i,none⟩=some (cutV bl (off+1*3) (cap-1) q):=by
    rw[Ke (w:=F) (a:=⟨R,i,none⟩) (r2.o.rest R y4 (by omega)),y5.o.cellAt i (by omega)];simp[Yr,Yb r9,hq]
   obtain⟨q1,q2⟩:=q;simp only at x7 v3;have x0:(jm4 (L.drop 1) q1 q2).length=q2-q1:=jn1 _ (by omega) v3;have v9:=h8;have r8:Hid (RW wr bl ((off+1*3)+q1*3) (jm4 (L.drop 1) q1 q2)):=(v9.drop 1).cut q1 q2;have q4:=jpv r8.o (i:=0) (by omega)
   obtain⟨pq,q9⟩:∃pq:Int,((jm7 (jm4 (L.drop 1) q1 q2) 0).p:Int)=pq:=⟨_,rfl⟩
   rw[q9]at q4;have y2:Hid (jnV 79 pq (jm4 (L.drop 1) q1 q2) g1):=by rw[<-q9];exact k8
   have x5:=jH q6;have v7:Hid (cutV bl (off+1*3) (cap-1) (q1,q2)= .slice (some ⟨bl,(off+1*3)+q1*3,none⟩) (q2-q1) ((cap-1)-q1)):=rfl;rw[v7.out]at K;simp only[Kv,Kz,Nat.one_mul]at q4 K;have q7:=jH x0;have x1:R<wr.heap.size:=by omega
   have k9:∀o,(wr.alloc o).cell? ⟨R,i,none⟩=wr.cell? ⟨R,i,none⟩:=fun o=>Ke (w:=wr) (a:=⟨R,i,none⟩) (Kq _ _ _ x1);simp only[K]at k9;clear k8 q6 q9 x0 hq v8 Y HO v9 h8 v7
   go_upto_region 12 with fail
   go_cut [9] (fun s9 wy=>∃p2,s9= .pointer (some ⟨p2,0,none⟩)/\HT wy wr.heap.size wy.heap.size s9 g1/\Below wr.heap.size wr wy)
   case first=>
    go_region_with (go_at_call 79;refine(y2.o _ bl _ _ wr.heap.size _ (by rw[q7.o]) (by rw[q7.o];omega) (by rw[q7.o];omega) (by omega) (by simp) (by exact jnC wr _) (by exact r8.o.alloc (by omega) _) (jo4 v0.o q1 q2)).mono ?_;rintro _ w2 ⟨v2,rfl,h5,A⟩;obtain⟨p2,rfl,H3,z6⟩:=h5.ptr)
    all_goals (try go_wp2_with fail)
    all_goals go_meet
    all_goals exact⟨_,rfl,h5,((Ko wr.heap.size wr).alloc jN _).trans ⟨A.os,A.tape,A.output,A.size,A.block⟩⟩
   case rest=>
    obtain⟨p2,rfl,h5,A⟩:=hcut;have H2:=A.size;have W:=jng Z.o A (by omega);have H1:=jmp W 5 rfl;have q8:=h9.o.below A
    go_wp2_with (at_builtin;refine JO _ rfl (.tmp 67) (.tmp 69) 115 rfl F.heap.size 31 i0 _ 1 8 Tryz.underlying115 y6 x4 y9 y3 rfl (by decide) kv _ _ rfl (q8.own.alloc _) _ 1 1 [.pointer (some ⟨p2,0,none⟩)] rfl rfl (Ja _ _ _ _ rfl) ?_ ?_ ?_ ?_ ?_;(intro u hu;simp at hu;subst hu;rfl);(rw[k2.o];unfold maxLen;omega);(rw[k2.o];omega);(simp;omega);intro v' w3 h3 h7 r4;obtain⟨kg,kc,rfl,z0,z2,z4,z7⟩:=jnX h3 (by omega);have I:=jua q8.own (show bt<F.heap.size by omega) W h7;have z1:=jmp I 5 rfl;have z9:=jne I 5)
    go_roundg (B.length-(i+1))
    case measure=>omega
    case rel=>
     obtain⟨y7,y0,H4⟩:=jtx q8 (show bt<F.heap.size by omega) v4 (fun r h=>(h9.o.own.lt r h).2) h5 h3 h7 r4 (.slice (some ⟨kg,0,none⟩) (ps.length+1) kc);exact⟨i+1,_,ps ++[.pointer (some ⟨p2,0,none⟩)],gl ++[g1],h4,by omega,rfl,x5.o,by rw[<-k1.o];simp,by simp[k2.o],by go_num,block_setCell I 5 _,y7,(r2.o.trans (jna.of (A.mono v4) (by omega))).trans y0⟩
  .have k5:gr=[]:=by
    have h:=HO.o;rw[show B.drop i=[] from Ui (by omega)]at h
    cases gr with
    |nil=>rfl
    |cons a b=>exact h.elim
   subst k5;have x6:gl=gs:=by have:=k1.o;simpa using this
   subst x6;clear HO k1;have H5:=jmp Z.o 0 rfl;have H0:=jne Z.o 0
   go_wp2_with fail
   go_ret;have r5:jnm bt wr (wr.setCell ⟨bt,0,none⟩ (.string nm)):=(jnm.refl bt wr).set _;exact⟨_,rfl,jty (h9.o.sole r5 (show bt<F.heap.size by omega)) (show bt<F.heap.size by omega) jN (block_setCell Z.o 0 _),((h2.mono (by omega)).trans r2.o.below).trans r5.1⟩
set_option maxRecDepth 100000 in
theorem jIE (hw:jpL (jD L 0)=false) (hl:0<L.length) (h1:(opL L).length≠1) (hs:OPs L (opL L) (g ::gs)):jnV 50 p L (.nd jtS g.pos 0 f_0 [] (g ::gs)):=by
 intro n bl off cap bt w hn hL H4 x6 y3 h0 hr h2;subst hn;have v6:1<=L.length:=by omega
 obtain⟨i0,z4,x7,z7,z0⟩:=info_parts Tryz.info31;have hk:=joJ hr h2 (i:=0) v6;have F:=joV h2 (i:=0) v6;simp only[Kv,Kz]at hk;simp only[jpL,Bool.or_eq_false_iff,Kl]at hw;obtain⟨⟨⟨v7,x1⟩,x2⟩,v3⟩:=hw;have z1:((jC (jD L 0)).toList == [112,114,105,110,116])=false:=by rw[jqU F];simpa using v7
 have x8:((jC (jD L 0)).toList == [108,101,110])=false:=by rw[jrg F];simpa using x1
 have y9:((jC (jD L 0)).toList == [97,114,114,97,121])=false:=by rw[jrQ F];simpa using x2
 have x9:((jC (jD L 0)).toList == [112,117,116])=false:=by rw[jsp F];simpa using v3
 obtain⟨nm,r7⟩:∃nm,jC (jD L 0)=nm:=⟨_,rfl⟩
 rw[r7]at hk z1 x8 y9 x9;have HR:=jH hr;have v0:=jH h2;have H9:L.length=L.length:=rfl;have y4:=jH h0;have k7:Hid (∀q ∈ opL L,q.1<q.2/\q.2<=L.length):=jyr _;have r3:(opL L).length<=L.length:=jyo _ _ _ _;have h7:1<=(opL L).length:=jyq (by omega)
 obtain⟨B,H⟩:∃B,opL L=B:=⟨_,rfl⟩
 have z6:=jH H;rw[H]at hs k7 r3 h7;rw[H]at h1;have K7:((B.length:Int) == 1)=false:=by simp;omega
 clear h1;have HS:=jH hs;clear hr h2 h0 hs r7 F H v7 x1 x2 v3
 go_enter Tryz.func50,Tryz.ntmps50
 go_wp2_with (go_at_call 78;refine(jvu z6.o (by omega) (by omega) (by omega) (by omega) (by omega) HR.o v0.o).mono ?_;rintro _ I ⟨v1,rfl,q5,h3⟩;obtain⟨R,H1,rfl,N5,z2,h8,N6⟩:=jnX q5 h7)
 have N3:=h3.size;have x5:Hid (I.heap[bt]? =some (jnL p)):=jng y4.o h3 y3;have z3:=jH q5;have y6:Hid (RW I bl off L):=HR.o.below h3 (by omega);clear q5
 go_loopg [8] B.length (fun gh s8 (wx:World)=>∃(i:Nat) (kv:Value) (ps:List Value) (gl gr:List G),i<=B.length/\gh=B.length-i/\OPs L (B.drop i) gr/\gl ++gr=(g ::gs)/\ps.length=i/\s8= .int .i64 i/\
  wx.heap[bt]? =some (.cells #[.string f_0,.int .i64 p,.int .i64 0,.string f_0,.slice none 0 0,kv] 117 (0,0))/\joC wx I.heap.size kv ps gl/\jna bt I.heap.size I wx)
 case atStart=>exact⟨0,_,[],[],_,Yi _,rfl,HS.o,rfl,rfl,rfl,x5.o,joC.none _ _,jna.refl _ _ _⟩
 case round=>
  obtain⟨i,kv,ps,gl,gr,hi,rfl,r1,r6,H,rfl,k4,U,C⟩:=hrel;have HO:=jH r1;have k1:=jH r6;have k2:=jH H;have E:=jH k4;have W:=jH U;have r2:=jH C;have v5:=C.below.size;have h9:RW wr bl off L:=y6.o.below C.below x6;clear r1 r6 H k4 U C
  by_cases r9:i<B.length
  .obtain⟨q,hq⟩:∃q,B[i]=q:=⟨_,rfl⟩
   have v9:q ∈ B:=by rw[<-hq];exact List.getElem_mem _
   obtain⟨y2,v4⟩:=k7.o q v9;have Z:B.drop i=q ::B.drop (i+1):=by rw[Ki r9,hq]
   obtain⟨g1,h5,k5,k8,q6⟩:∃g1 h5,gr=g1 ::h5/\jnV 79 (jm7 (jm4 L q.1 q.2) 0).p (jm4 L q.1 q.2) g1/\OPs L (B.drop (i+1)) h5:=by
    have h:=HO.o;rw[Z]at h
    cases gr with
    |nil=>exact h.elim
    |cons a b=>exact⟨a,b,rfl,h.1,h.2⟩
   subst k5
   have O:wr.cell? ⟨R,i,none⟩=some (cutV bl off cap q):=by
    rw[Ke (w:=I) (a:=⟨R,i,none⟩) (r2.o.rest R z2 (by omega)),z3.o.cellAt i (by omega)];simp[Yr,Yb r9,hq]
   obtain⟨q1,q2⟩:=q;simp only at y2 v4;have x3:(jm4 L q1 q2).length=q2-q1:=jn1 _ (by omega) v4;have x0:=h9;have r8:Hid (RW wr bl (off+q1*3) (jm4 L q1 q2)):=x0.cut q1 q2;have q4:=jpv r8.o (i:=0) (by omega)
   obtain⟨pq,q9⟩:∃pq:Int,((jm7 (jm4 L q1 q2) 0).p:Int)=pq:=⟨_,rfl⟩
   rw[q9]at q4;have y8:Hid (jnV 79 pq (jm4 L q1 q2) g1):=by rw[<-q9];exact k8
   have y0:=jH q6;have v8:Hid (cutV bl off cap (q1,q2)= .slice (some ⟨bl,off+q1*3,none⟩) (q2-q1) (cap-q1)):=rfl;rw[v8.out]at O;simp only[Kv,Kz,Nat.one_mul]at q4 O;have q7:=jH x3;have x4:R<wr.heap.size:=by omega
   have k9:∀o,(wr.alloc o).cell? ⟨R,i,none⟩=wr.cell? ⟨R,i,none⟩:=fun o=>Ke (w:=wr) (a:=⟨R,i,none⟩) (Kq _ _ _ x4);simp only[O]at k9;clear k8 q6 q9 x3 hq v9 Z HO x0 h9 v8
   go_upto_region 12 with fail
   go_cut [9] (fun s9 wy=>∃p2,s9= .pointer (some ⟨p2,0,none⟩)/\HT wy wr.heap.size wy.heap.size s9 g1/\Below wr.heap.size wr wy)
   case first=>
    go_region_with (go_at_call 79;refine(y8.o _ bl _ _ wr.heap.size _ (by rw[q7.o]) (by rw[q7.o];omega) (by rw[q7.o];omega) (by omega) (by simp) (by exact jnC wr _) (by exact r8.o.alloc (by omega) _) (jo4 v0.o q1 q2)).mono ?_;rintro _ w2 ⟨v2,rfl,h6,A⟩;obtain⟨p2,rfl,K9,H5⟩:=h6.ptr)
    all_goals (try go_wp2_with fail)
    all_goals go_meet
    all_goals exact⟨_,rfl,h6,((Ko wr.heap.size wr).alloc jN _).trans ⟨A.os,A.tape,A.output,A.size,A.block⟩⟩
   case rest=>
    obtain⟨p2,rfl,h6,A⟩:=hcut;have K8:=A.size;have Y:=jng E.o A (by omega);have y7:=jmp Y 5 rfl;have q8:=W.o.below A
    go_wp2_with (at_builtin;refine JO _ rfl (.tmp 67) (.tmp 69) 115 rfl I.heap.size 31 i0 _ 1 8 Tryz.underlying115 z4 x7 z7 z0 rfl (by decide) kv _ _ rfl (q8.own.alloc _) _ 1 1 [.pointer (some ⟨p2,0,none⟩)] rfl rfl (Ja _ _ _ _ rfl) ?_ ?_ ?_ ?_ ?_;(intro u hu;simp at hu;subst hu;rfl);(rw[k2.o];unfold maxLen;omega);(rw[k2.o];omega);(simp;omega);intro v' w3 h4 h8 r4;obtain⟨kg,kc,rfl,z8,H0,H2,H6⟩:=jnX h4 (by omega);have K:=jua q8.own (show bt<I.heap.size by omega) Y h8;have z9:=jmp K 5 rfl;have K0:=jne K 5)
    go_roundg (B.length-(i+1))
    case measure=>omega
    case rel=>
     obtain⟨z5,y5,N1⟩:=jtx q8 (show bt<I.heap.size by omega) v5 (fun r h=>(W.o.own.lt r h).2) h6 h4 h8 r4 (.slice (some ⟨kg,0,none⟩) (ps.length+1) kc);exact⟨i+1,_,ps ++[.pointer (some ⟨p2,0,none⟩)],gl ++[g1],h5,by omega,rfl,y0.o,by rw[<-k1.o];simp,by simp[k2.o],by go_num,block_setCell K 5 _,z5,(r2.o.trans (jna.of (A.mono v5) (by omega))).trans y5⟩
  .have k5:gr=[]:=by
    have h:=HO.o;rw[show B.drop i=[] from Ui (by omega)]at h
    cases gr with
    |nil=>rfl
    |cons a b=>exact h.elim
   subst k5;have y1:gl=(g ::gs):=by have:=k1.o;simpa using this
   subst y1;clear HO k1;obtain⟨g0,H8,fb,rfl,K5,N4,K1,K2,H7,H3⟩:=jGv W.o;have N2:=jmp E.o 0 rfl;have K6:=jmp E.o 1 rfl;have y7:=jmp E.o 5 rfl;have K4:=jne E.o 0;have N0:=jne E.o 1
   go_wp2_with fail
   go_ret;have r5:jnm bt wr (((wr.setCell ⟨bt,0,none⟩ (.string f_0)).setCell ⟨bt,0,none⟩ (.string jtS)).setCell ⟨bt,1,none⟩ (.int .i64 g.pos)):=(((jnm.refl bt wr).set _).set _).set _;exact⟨_,rfl,jty (W.o.sole r5 (show bt<I.heap.size by omega)) (show bt<I.heap.size by omega) jN (block_setCell (block_setCell (block_setCell E.o 0 _) 0 _) 1 _),((h3.mono (by omega)).trans r2.o.below).trans r5.1⟩
def OKm:Nat->Int->List Tok->G->Prop
 |0,_,L,g=>jno L g
 |1,p,L,g=>jnV 50 p L g
 |2,p,L,g=>jnV 79 p L g
 |_,p,L,g=>jnV 92 p L g
def juf (m:Nat):List (List Tok)->List G->Prop
 |[],[]=>True
 |L ::r,g ::gs=>OKm m (jm7 L 0).p L g/\juf m r gs
 |_,_=>False
theorem jEo :∀{ls:List (Nat × Nat)}{gs:List G},juf 0 (ls.map (fun q=>jm4 L q.1 q.2)) gs->OKs L ls gs:=by
 intro ls
 induction ls with
 |nil=>intro gs h;cases gs with|nil=>trivial|cons=>exact h.elim
 |cons q ls ih=>intro gs h;cases gs with|nil=>exact h.elim|cons g gs=>exact⟨h.1,ih h.2⟩
theorem jys :∀{ls:List (Nat × Nat)}{gs:List G},juf 2 (ls.map (fun q=>jm4 L q.1 q.2)) gs->OPs L ls gs:=by
 intro ls
 induction ls with
 |nil=>intro gs h;cases gs with|nil=>trivial|cons=>exact h.elim
 |cons q ls ih=>intro gs h;cases gs with|nil=>exact h.elim|cons g gs=>exact⟨h.1,ih h.2⟩
theorem juX (E:spl 26 L=0) (C:spl 27 L=0) (B:spl 30 L=0) (A:spl 32 L=0):∀d,d<4->spl (joK d) L=0
 |0,_=>E
 |1,_=>C
 |2,_=>B
 |3,_=>A
mutual
theorem jn5:∀{m:Nat}{p:Int}{L:List Tok}{g:G},TG m p L g->OKm m p L g
 |_,_,_,_,.lt h0 he hi A B h3 h4 h5 h6 h7 ha hb=>juI h0 (by omega) (jFc he hi A h4 h3 h5 h6 h7 (jn5 ha) (jn5 hb))
 |_,_,_,_,.rc h0 he hi A B h3 h4 h5 h6 ha hb=>juI h0 (by omega) (jFa he hi A h4 h3 h5 h6 (jn5 ha) (jn5 hb))
 |_,_,_,_,.pr h0 he hi A B h3 h4 h5 h6 ha hb=>juI h0 (by omega) (jFb he hi A h4 h3 h5 h6 (jn5 ha) (jn5 hb))
 |_,_,_,_,.iff h0 hi hj A B h3 ha hb hc=>jBx h0 hi hj A B h3 (jn5 ha) (jn5 hb) (jn5 hc)
 |_,_,_,_,.fn h0 hi A h3 hb=>jBy h0 hi A h3 (jn5 hb)
 |_,_,_,_,.sq h3 h6 h9 hi A B ha hb=>jBu (c:=0) (by omega) rfl h3 h6 h9 (fun d hd=>by omega) hi A B (jn5 ha) (jn5 hb)
 |_,_,_,_,.cm h3 h6 h9 z0 hi A B ha hb=>juH (c:=1) (by omega) (by omega) h3 h6 h9 (fun d hd=>match d,hd with|0,_=>z0) hi A B (jn5 ha) (jn5 hb)
 |_,_,_,_,.su h3 h6 h9 z0 z1 hi A B ha hb=>juH (c:=2) (by omega) (by omega) h3 h6 h9 (fun d hd=>match d,hd with|0,_=>z0|1,_=>z1) hi A B (jn5 ha) (jn5 hb)
 |_,_,_,_,.po h3 h6 h9 z0 z1 z2 hi A B ha hb=>juH (c:=3) (by omega) (by omega) h3 h6 h9 (fun d hd=>match d,hd with|0,_=>z0|1,_=>z1|2,_=>z2) hi A B (jn5 ha) (jn5 hb)
 |_,_,_,_,.ng h0 z0 z1 z2 z3 hl ha=>jBw h0 (juX z0 z1 z2 z3) hl (jn5 ha)
 |_,_,_,_,.nt h0 z0 z1 z2 z3 hl ha=>jBv h0 (juX z0 z1 z2 z3) hl (jn5 ha)
 |_,_,_,_,.ca h3 h6 h9 h31 h10 z0 z1 z2 z3 hl ha=>jBz h3 h6 h9 h31 h10 (juX z0 z1 z2 z3) hl (jn5 ha)
 |_,_,_,_,.wd hw hl hs=>jIz hw hl (jys (jsY hs))
 |_,_,_,_,.o1 hw hl A h=>jIC hw hl A (jn5 h)
 |_,_,_,_,.cl hw hl A hs=>jIE hw hl A (jys (jsY hs))
 |_,_,_,_,.gt hx A B ha hb=>jEi hx A B (jn5 ha) (jn5 hb)
 |_,_,_,_,.nu hx hl h0 hv hvs=>jEh hx h0 hv hvs hl
 |_,_,_,_,.tr hx hl h0=>jEf hx h0 hl
 |_,_,_,_,.fa hx hl h0=>jEj hx h0 hl
 |_,_,_,_,.rd hx hl h0=>jEg hx h0 hl
 |_,_,_,_,.vr hx hl h0=>jEe hx h0 hl
 |_,_,_,_,.bk hx hl h0 hs=>jEk hx h0 hl (jn5 hs)
 |_,_,_,_,.un=>jIK
 |_,p,L,g,.on hl hc h=>(by
  have B:(cmL L).2=0:=by rw[hc]
  have A:OKs L (cmL L).1 []:=by rw[hc];trivial
  exact jAk (gs:=[]) hl hl B A (by rw[List.drop_zero];exact jn5 h))
 |_,p,L,_,.tu hl hn hlt hs h=>(by
  have:=jAk (p:=p) hl hlt rfl (jEo (jsY hs)) (jn5 h);unfold juG at this;rw[if_neg hn]at this
  exact this)
theorem jsY:∀{m:Nat}{ls:List (List Tok)}{gs:List G},TGs m ls gs->juf m ls gs
 |_,_,_,.nil=>trivial
 |_,_,_,.cons hl h hs=>⟨jn5 h,jsY hs⟩
end
theorem jBA (h:TG 0 p L g):jno L g:=jn5 h
mutual
def er:G->G
 | .nd f _ n x xs ks=>.nd f 0 n x xs (ers ks)
def ers:List G->List G
 |[]=>[]
 |g ::r=>er g ::ers r
end
def txs:T->List ByteArray
 | .nd _ _ _ _ xs _=>xs
def jn2:List T->List ByteArray
 |[]=>[]
 |c ::_=>txs c
def joj (k s n:Nat) (xs:List ByteArray) (pn:List ByteArray) (ks:List G):G:=
 match k with
 |1=>.nd jwi 0 n f_0 [] []
 |2=>.nd jr1 0 1 f_0 [] []
 |3=>.nd jr1 0 0 f_0 [] []
 |4=>.nd jwg 0 0 f_0 [] []
 |5=>.nd jwc 0 0 (xs.headD f_0) [] []
 |6=>.nd jwd 0 0 f_0 [] []
 |7=>.nd jrs 0 0 f_0 [] ks
 |8=>.nd jwl 0 0 (xs.headD f_0) [] ks
 |9=>.nd jwf 0 0 (xs.headD f_0) xs.tail ks
 |10=>.nd jwh 0 0 f_0 pn ks.tail
 |11=>.nd jwm 0 0 f_0 [] ks
 |12=>.nd jwn 0 0 f_0 xs ks
 |13=>.nd jwk 0 0 f_0 [] ks
 |14=>.nd jwj 0 0 f_0 [] ks
 |15|16|17=>.nd jsz 0 0 (jC s) [] ks
 |18=>.nd jwe 0 0 f_0 [] ks
 |19=>.nd jtS 0 0 f_0 [] ks
 |20=>.nd jqY 0 0 f_0 [] ks
 |21=>.nd (jC 14) 0 0 f_0 [] ks
 |22=>.nd (jC 15) 0 0 f_0 [] ks
 |23=>.nd (jC 16) 0 0 f_0 [] ks
 |24=>.nd (jC 17) 0 0 f_0 [] ks
 |_=>.nd f_0 0 0 f_0 [] []
mutual
def gt:T->G
 | .nd _ k s n xs kids=>joj k s n xs (jn2 kids) (gts kids)
def gts:List T->List G
 |[]=>[]
 |c ::r=>gt c ::gts r
end
def gd (t:Tok):Prop:=jnl t/\(t.k=1->jod t.t=some t.n/\t.t.size<=1000)
theorem jpY (L:List Tok) (i j:Nat):tks (jm4 L i j)=((tks L).drop i).take (j-i):=by
 unfold tks jm4;rw[List.map_take,List.map_drop]
theorem joE (L:List Tok) (i:Nat):tks (L.drop i)=(tks L).drop i:=by unfold tks;rw[List.map_drop]
theorem jon (L:List Tok):(tks L).length=L.length:=by unfold tks;rw[Ua]
variable {x y:List Tk}{t:Tk}
theorem jy3 (h:tks L=x ++t ::y):jD L x.length=t.k:=by
 have A:x.length<L.length:=by rw[<-jon,h];simp
 have:(tks L)[x.length]? =some t:=by rw[h];simp
 unfold tks at this;rw[Yr,Yb A]at this;simp at this;rw[joQ L _ A,<-this];rfl
theorem jpn (h:tks L=t ::y):jD L 0=t.k:=jy3 (x:=[]) h
theorem jxt (h:tks L=x ++t ::y):(jm7 L x.length).tk=t:=by
 have A:x.length<L.length:=by rw[<-jon,h];simp
 have:(tks L)[x.length]? =some t:=by rw[h];simp
 unfold tks at this;rw[Yr,Yb A]at this;simp at this;rw[jsX A,<-this]
theorem jxu (h:i<L.length):jm7 L i ∈ L:=by rw[jsX h];simp
theorem jsF (h:tks L=x ++t ::y):tks (jm4 L 0 x.length)=x/\tks (L.drop (x.length+1))=y:=by
 rw[jpY,joE,h];simp
theorem jtp {k:Nat}(h:35<=k):jC k=⟨#[]⟩:=by
 unfold jC jpz;rw[if_neg (by omega),if_neg (by omega),if_neg (by omega),juD k h]
theorem jzu:joa 26=fun _ k=>k == 26:=by
 funext p k
 unfold joa;rw[if_pos rfl]
 by_cases h:k<35
 .rw[jvG h];by_cases e:k=26 <;> simp[e]
 .rw[jtp (by omega),toL []]
  have:¬k=26:=by omega
  simp[this]
theorem jzt:joa 27=fun _ k=>jnJ k:=by
 funext p k
 unfold joa;rw[if_neg (by omega),if_pos rfl]
 by_cases h:k<35
 .exact jwz h
 .rw[jtp (by omega)]
  have e:jnJ k=false:=by simp[jnJ];omega
  rw[e];unfold jpi;rw[toL []];rfl
theorem jzs:joa 30=jpm:=by
 funext p k
 unfold joa jpm;rw[if_neg (by omega),if_neg (by omega),if_pos rfl]
 by_cases h:k<35
 .rw[jtn h,jqt h]
  by_cases A:k=30 <;> by_cases B:k=31 <;> simp[jm6,A,B]
 .rw[jtp (by omega),toL []]
  have e:jm6 k=false:=by simp[jm6];omega
  rw[e];rfl
theorem jzr:joa 32=fun _ k=>jm5 k:=by
 funext p k
 unfold joa;rw[if_neg (by omega),if_neg (by omega),if_neg (by omega)]
 by_cases h:k<35
 .rw[jso h,jtm h,jvF h]
  by_cases A:k=32 <;> by_cases B:k=33 <;> by_cases C:k=34 <;> simp[jm5,A,B,C]
 .rw[jtp (by omega),toL []]
  have e:jm5 k=false:=by simp[jm5];omega
  rw[e];rfl
theorem js6 {cls:Nat}(A:tks L=x) (B:dep 0 x=some 0) (C:pos (joa cls) 0 0 0 x=[]):spl cls L=0:=juV A B C (by simp)
theorem jB8 {r:List Nat}(E:tks L=x) (C:dep 0 x=some 0) (B:pos (joa 26) 0 0 0 x=i ::r) (hi:1<=i) (F:∀h ∈ r,1<=h):spl 26 L=i:=by
 rw[juV E C B (by intro h A;rcases Kk.1 A with rfl|A;exact hi;exact F h A)]
 have:∀(r:List Nat) (i:Nat),1<=i->r.foldl (stp 26) i=i:=by
  intro r
  induction r with
  |nil=>intro i _;rfl
  |cons a r ih=>
   intro i hi;rw[List.foldl_cons];have:stp 26 i a=i:=by unfold stp;rw[if_neg (by intro h;have:=h rfl;omega)]
   rw[this,ih i hi]
 rw[List.foldl_cons];have e:stp 26 0 i=i:=by unfold stp;rw[if_pos (fun _=>rfl)]
 rw[e,this r i hi]
theorem juW {cls:Nat}{r:List Nat}(F:cls≠26) (E:tks L=x) (C:dep 0 x=some 0) (B:pos (joa cls) 0 0 0 x=r ++[i]) (hi:1<=i) (H:∀h ∈ r,1<=h):spl cls L=i:=by
 rw[juV E C B (by intro h A;rcases Yq.1 A with A|A;exact H h A;simp at A;omega),List.foldl_append];show stp cls _ i=i;unfold stp;rw[if_pos (fun h=>absurd h F)]
theorem jsj (P:Nat->Nat->Bool):∀(x:List Tk) (d p i:Nat),∀h ∈ pos P d p i x,i<=h/\h<i+x.length:=by
 intro x
 induction x with
 |nil=>intro d p i h A;simp[pos]at A
 |cons t r ih=>
  intro d p i h A;simp only[pos,Yq]at A;rcases A with A|A
  .simp only[List.mem_ite_nil_right,Kf]at A
   have:=A.2;simp only[Yk];omega
  .have:=ih _ _ _ h A
   simp only[Yk];omega
def hk:List Tk->Nat
 |[]=>0
 |t ::_=>t.k
theorem jqz (h:x≠[]) (y:List Tk):hk (x ++y)=hk x:=by cases x with|nil=>exact absurd rfl h|cons t r=>rfl
theorem jrp (h:tks L=x):jD L 0=hk x:=by
 subst h
 cases L with
 |nil=>rfl
 |cons t r=>rfl
theorem jro:∀(m:Nat) (c:T),SizeOf.sizeOf c<=m->wf c->c.k≠25->1<=rkT c->(hk (fl c)≠3/\hk (fl c)≠6/\hk (fl c)≠9)/\(5<=rkT c->hk (fl c)≠31/\hk (fl c)≠10)/\(6<=rkT c->jpL (hk (fl c))=false):=by
 intro m
 induction m with
 |zero=>intro c h;cases c;simp at h
 |succ m ih=>
  intro c hs A R I
  cases c with
  |nd b k s n xs kids=>
   have h0:=A;rw[wf]at A;rw[jnf]
   cases b with
   |succ b=>rw[List.replicate_succ];simp[hk,Tk.of,jpL]
   |zero=>
    rw[rkT,if_neg (by omega)]at I ⊢;simp only[List.replicate_zero,Yx,Kd];have Z:k≠7:=fun e=>by have:=A.2.1 e;omega
    have Y:k≠25:=R
    by_cases B:pre k s n xs=[]
    .have h2:=jrD A.1 B
     match kids,h2,A,hs with
     |a ::q,_,A,hs=>
      have U:=A.2.2.2.1;have ra:=A.2.2.2.2.1
      have O:a.k≠25:=fun e=>by
       have:=(A.2.2.2.2.2.1.1 e).1;subst this;simp[pre]at B
      have W:=(jnN a (jnD a U)).ne;have e:bod k s n xs (a ::q)=fl a ++(flk k s 1 q ++post k):=by simp[bod,B,flk,sep]
      rw[e,jqz W];have h1:k≠18:=fun e=>by subst e;simp[rk]at I
      have K:k=15\/k=16\/k=17\/k=19\/k=20:=by
       have C:=A.1;unfold arB at C;unfold pre at B
       split at C <;> first
        |omega
        |(simp at B;done)
        |(simp at C;done)
        |(exfalso;simp at B;subst B;simp at C;done)
      have hi:=ih a (by simp at hs;omega) U O;rcases K with rfl|rfl|rfl|rfl|rfl
      .have h3:3<=rkT a:=ra
       obtain⟨E,_,_⟩:=hi (by omega);exact⟨E,fun h=>by simp[rk]at h,fun h=>by simp[rk]at h⟩
      .have h3:2<=rkT a:=ra
       obtain⟨E,_,_⟩:=hi (by omega);exact⟨E,fun h=>by simp[rk]at h,fun h=>by simp[rk]at h⟩
      .have h3:2<=rkT a:=ra
       obtain⟨E,_,_⟩:=hi (by omega);exact⟨E,fun h=>by simp[rk]at h,fun h=>by simp[rk]at h⟩
      .have h3:6<=rkT a:=ra
       obtain⟨E,F,H⟩:=hi (by omega);exact⟨E,fun h=>F (by omega),fun _=>H h3⟩
      .have h3:6<=rkT a:=ra
       obtain⟨E,F,H⟩:=hi (by omega);exact⟨E,fun h=>F (by omega),fun _=>H h3⟩
    .unfold bod
     rw[jqz B];have C:=A.1;unfold arB at C;unfold pre at B ⊢
     split at C <;> first
      |(exfalso;omega)
      |(simp[rk]at I;done)
      |(simp[hk,Tk.of,jp2,jpL,rk];done)
      |(exfalso;simp at C;done)
      |(simp at C;match xs,C with|[x],_=>(simp[hk,jnb,jpL]))
      |(exfalso;exact B rfl)
def jow:List T->Nat
 |[]=>0
 |c ::_=>(fl c).length
mutual
def pw:T->Nat
 | .nd b k _ _ _ kids=>if k=7 then b-1 else if k=19 then b+pwH kids else if k=15\/k=16\/k=17\/k=18\/k=20 then b+jow kids else b
def pwH:List T->Nat
 |[]=>0
 |c ::_=>pw c
end
def gAt (p:Int):G->G
 | .nd f _ n x xs ks=>.nd f p n x xs ks
mutual
def jnh:T->(Nat->Int)->G
 | .nd b k s n xs kids,f=>gAt (f (pw (.nd b k s n xs kids))) (joj k s n xs (jn2 kids) (jnp k s 0 kids fun i=>f (b+((pre k s n xs).length+i))))
def jnp (k s:Nat):Nat->List T->(Nat->Int)->List G
 |_,[],_=>[]
 |i,c ::r,f=>jnh c (fun j=>f ((sep k s i).length+j)) ::jnp k s (i+1) r (fun j=>f ((sep k s i).length+((fl c).length+j)))
end
theorem jGg (p:Int) (g:G):(gAt p g).pos=p:=by cases g;rfl
theorem jF7 (c:T) (f:Nat->Int):(jnh c f).pos=f (pw c):=by cases c;rw[jnh,jGg]
theorem jIM {b k s n:Nat}{xs:List ByteArray}{kids:List T}(A:wf (.nd b k s n xs kids)):1<=(bod k s n xs kids).length:=by
 rw[wf]at A;have:=(jqG (n:=n) A.1 (jp9 _ _ _ A.2.2.2)).ne
 cases h :bod k s n xs kids with
 |nil=>exact absurd h this
 |cons t r=>simp
theorem jtM (b k s n:Nat) (xs:List ByteArray) (kids:List T):(fl (.nd b k s n xs kids)).length=b+((bod k s n xs kids).length+b):=by rw[jnf];simp
theorem jt1 (k s n:Nat) (xs:List ByteArray) (kids:List T):(bod k s n xs kids).length=(pre k s n xs).length+((flk k s 0 kids).length+(post k).length):=by rw[bod];simp
theorem jqm (k s i:Nat) (c:T) (r:List T):(flk k s i (c ::r)).length=(sep k s i).length+((fl c).length+(flk k s (i+1) r).length):=by rw[flk];simp
theorem jve:∀c:T,wf c->pw c<(fl c).length
 | .nd b k s n xs kids,hw=>by
   have O:=jIM hw;have K:=jtM b k s n xs kids;have A:=jt1 k s n xs kids;rw[wf]at hw;obtain⟨E,I,_,B⟩:=hw;rw[pw]
   by_cases F:k=7
   .rw[if_pos F];have:=I F;omega
   .rw[if_neg F]
    by_cases H:k=19
    .rw[if_pos H]
     subst H
     match kids,B,A with
     |[],_,_=>rw[pwH];omega
     |c ::r,B,A=>
      have:=jve c B.1;rw[jqm]at A;rw[pwH];omega
    .rw[if_neg H]
     by_cases C:k=15\/k=16\/k=17\/k=18\/k=20
     .rw[if_pos C]
      match kids,A,E with
      |[],_,_=>rw[jow];omega
      |[c],_,E=>rcases C with rfl|rfl|rfl|rfl|rfl <;> simp[arB]at E
      |c ::d ::r,A,_=>
       rw[jqm,jqm]at A;have hs:(sep k s (0+1)).length=1:=by rcases C with rfl|rfl|rfl|rfl|rfl <;> rfl
       rw[jow];omega
     .rw[if_neg C];omega
mutual
theorem jtI:∀(c:T) (f f':Nat->Int),wf c->(∀i,i<(fl c).length->f i=f' i)->jnh c f=jnh c f'
 | .nd b k s n xs kids,f,f',hw,h=>by
   have C:=jtM b k s n xs kids;have B:=jt1 k s n xs kids;have A:=jve _ hw;rw[wf]at hw;rw[jnh,jnh,h _ A,jv1 k s kids 0 _ _ hw.2.2.2 (fun i hi=>h _ (by omega))]
theorem jv1 (k s:Nat):∀(l:List T) (i:Nat) (f f':Nat->Int),wfs k i l->(∀j,j<(flk k s i l).length->f j=f' j)->jnp k s i l f=jnp k s i l f'
 |[],_,_,_,_,_=>rfl
 |c ::r,i,f,f',hw,h=>by
  have A:=jqm k s i c r;rw[jnp,jnp,jtI c _ _ hw.1 (fun j hj=>h _ (by omega)),jv1 k s r _ _ _ hw.2.2.2 (fun j hj=>h _ (by omega))]
end
def fL (L:List Tok) (i:Nat):Int:=((jm7 L i).p:Nat)
theorem juK (L:List Tok) (o i:Nat):jm7 (L.drop o) i=jm7 L (o+i):=by unfold jm7;rw[List.getElem?_drop]
theorem jBG (L:List Tok) (i:Nat):jm7 L.tail i=jm7 L (i+1):=by rw[<-List.drop_one,juK,Ks]
variable {o:Nat}
theorem juL {e:Nat}(h:i<e-o):jm7 (jm4 L o e) i=jm7 L (o+i):=by
 unfold jm7 jm4;rw[List.getElem?_take,if_pos h,List.getElem?_drop]
variable {c:T}
theorem jpR (A:wf c):jnh c (fL (L.drop o))=jnh c (fun i=>fL L (o+i)):=jtI c _ _ A (fun i _=>by unfold fL;rw[juK])
theorem jpo {e:Nat}(A:wf c) (B:tks (jm4 L o e)=fl c):jnh c (fL (jm4 L o e))=jnh c (fun i=>fL L (o+i)):=jtI c _ _ A (fun i hi=>by
 unfold fL;rw[juL];rw[<-B,jon]at hi;unfold jm4 at hi;rw[List.length_take]at hi
 omega)
theorem jzA {f A:Nat->Int}(h:∀i,f i=A i):jnh c f=jnh c A:=by rw[funext h]
end
namespace Dm
open Go.RowKit Tg
def TH (w:World) (κ:Kp) (v:Value) (g:G):Prop:=∃B n,HT w B n v g/\n<=w.heap.size/\∀b,B<=b->b<n->κ b=none
theorem TH.keep {S:Tag->Prop}{w w':World}{κ C:Kp}{v:Value}{g:G}(h:TH w κ v g) (A:Fr S κ C w w'):TH w' C v g:=by
 obtain⟨B,n,F,H,E⟩:=h;refine⟨B,n,F.keep (fun b hb hn=>A.rest b (by omega) (fun t ht=>by rw[E b hb hn]at ht;cases ht)),Ym H A.low.size,fun b hb hn=>(A.old b (by omega)).trans (E b hb hn)⟩
def evC (e:ByteArray × Nat):List Value:=[.string e.1,.int .i64 (e.2:Nat)]
def EV (w:World) (κ:Kp) (v:Value) (env:Inf.Env):Prop:=w.ownsRow 0 144 2 v env.length (env.flatMap evC)/\(∀b,v.ownBlock=some b->κ b=none)/\env.length<=10000
variable {w:World}{κ:Kp}{v:Value}{env:Inf.Env}
theorem EV.keep {S:Tag->Prop}{w':World}{A:Kp}(h:EV w κ v env) (B:Fr S κ A w w'):EV w' A v env:=
 ⟨j3 h.1 (fun b hb=>B.rest b (h.1.lt b hb).2 (fun t ht=>by rw[h.2.1 b hb]at ht;cases ht)),fun b hb=>(B.old b (h.1.lt b hb).2).trans (h.2.1 b hb),h.2.2⟩
theorem EV.slice (h:EV w κ v env):∃a c,v= .slice a env.length c:=j5 h.1
def WD (cb:Nat) (g:G) (x:Inf.X):Prop:=∀(w:World) (κ:Kp) (S:Inf.DS) (N:Nat) (tv ev:Value) (env:Inf.Env),DM w κ cb S N->TH w κ tv g->EV w κ ev env->env.length+6*Inf.sz x<=9000->N+16*Inf.sz x<=80000->
 Calls Tryz.prog 80 #[.pointer (some ⟨cb,0,none⟩),tv,ev] w (NQ cb κ w (Inf.dW x env S).2 (N+16*Inf.sz x) (Inf.dW x env S).1)
variable {cb N:Nat}{S:Inf.DS}
theorem jsm (h:DM w κ cb S N) (A:N<90000) :
 Calls Tryz.prog 93 #[.pointer (some ⟨cb,0,none⟩)] w (NQ cb κ w (S.put 0 []) (N+1) S.n):=by
 have CP:=jH (joU (s:=⟨#[]⟩) h A (KT.nil w κ) (k:=0) (by omega) (by simp) rfl);clear h
 go_enter Tryz.func93,Tryz.ntmps93
 go_wp2_with (go_at_call 51;refine CP.o.mono ?_;rintro _ E ⟨B,rfl,C⟩)
 go_returns;exact⟨B,rfl,C⟩
theorem Tryz.kiD:(Tryz.prog.info? 82).map (fun i=>(i.zero,i.size,i.bytes))=some (some (.agg #[.int .i64 0,.int .i64 0,.int .i64 0,.int .i64 0]),4,32):=by kernel_rfl
theorem Tryz.kuD:Tryz.prog.underlying 54=some (.slice 82):=by kernel_rfl
variable {tv:Value}
theorem jsE {w3:World}{n g cap:Nat}{C W U:Value}{Y:List DT}{S':Inf.DS}{d:Inf.Dm}{B:World}(h:DC w κ cb tv C W U Y S) (Z:S.D.length=n) (K:Below w.heap.size w B) (R:S'.ts=S.ts) (E:S'.D=S.D ++[d]) (F:S'.ns=S.ns)
 (O:w3.ownsRow 0 82 4 (.slice (some ⟨g,0,none⟩) (n+1) cap) (n+1) (S.D.flatMap dmC ++dmC d)) (I:B.grownBy w3 C.ownBlock) (H:C.ownBlock=some g\/g=B.heap.size) :
 ∃κ',DC (w3.setCell ⟨cb,1,none⟩ (.slice (some ⟨g,0,none⟩) (n+1) cap)) κ' cb tv (.slice (some ⟨g,0,none⟩) (n+1) cap) W U Y S'/\Fr SD κ κ' w (w3.setCell ⟨cb,1,none⟩ (.slice (some ⟨g,0,none⟩) (n+1) cap)):=by
 obtain⟨κ',p1,p2,p3,A,p5,p6⟩:=jtd (fi:=1) h.blk h.tg h.top h.ar (by decide) K O I H;refine⟨κ',⟨p1,h.tr.keep A (by rintro (e|e) <;> cases e),?_,?_,fun i d hd=>⟨(h.kds i d hd).1.keep A,(h.kds i d hd).2⟩,by rw[R];exact h.ts,p2,p5,fun b q hb=>?_⟩,A.mono (fun u e=>by rcases e with e|e;exact .inl e;exact .inr (.inr (.inl e)))⟩
 .rw[E,Yg,List.flatMap_append,Z,show[d].flatMap dmC=dmC d by simp]
  exact p3
 .rw[F];exact h.nr.keep A (by rintro (e|e) <;> cases e)
 .rcases p6 b with e|e
  .rw[e]at hb;exact Yj (h.n5 b q hb) A.low.size
  .rw[e]at hb;cases hb
variable {g:G}
theorem TH.blk (h:TH w κ v g):∃tb nv kv,v= .pointer (some ⟨tb,0,none⟩)/\κ tb=none/\∃f p n x xs ks,g= .nd f p n x xs ks/\w.heap[tb]? =some (.cells #[.string f,.int .i64 p,.int .i64 n,.string x,nv,kv] 117 (0,0)):=by
 obtain⟨B,n,A,E,C⟩:=h
 cases A with
 |@nd b form name pos num names kids nv kv ps hB hn hb _ _ _=>exact⟨b,nv,kv,rfl,C b hB hn,form,pos,num,name,names,kids,rfl,hb⟩
theorem TH.pos {A:Nat}(h:TH w κ (.pointer (some ⟨A,0,none⟩)) g):w.cell? ⟨A,1,none⟩=some (.int .i64 g.pos)/\A<w.heap.size:=by
 obtain⟨C,E,kv,e,_,f,p,n,x,xs,ks,rfl,B⟩:=h.blk;injection e with e
 injection e with e
 injection e with e _ _
 subst e;exact⟨ja B 1 rfl,jb B⟩
set_option maxRecDepth 100000 in
theorem jrR {x:Inf.X}(hx:WD cb g x) (hg:g.pos=x.p) {b:Nat}{ev:Value}{z:Int}(h:DM w κ cb S N) (ht:TH w κ tv g) (he:EV w κ ev env) (hl:env.length+6*Inf.sz x<=9000) (hN:N+16*Inf.sz x<=80000) (hz:z=(b:Nat)) :
 Calls Tryz.prog 52 #[.pointer (some ⟨cb,0,none⟩),tv,ev,.int .i64 z] w (VQ cb κ w ((Inf.dW x env S).2.dem (Inf.dW x env S).1 b x.p) (N+16*Inf.sz x+1)):=by
 subst hz;obtain⟨i0,k1,h5,k5,h7⟩:=info_parts Tryz.kiD;have CW:=jH (hx w κ S N tv ev env h ht he hl hN);have HT:=jH ht;obtain⟨tb,tn,tk,K,_⟩:=ht.blk;obtain⟨ea,ec,h0⟩:=he.slice;have h4:=jH K;have HG:=jH hg;rw[h0]at CW ⊢;rw[K]at CW ⊢;clear hx h ht he hl K h0 hg
 go_enter Tryz.func52,Tryz.ntmps52
 go_upto_region 1 with(go_at_call 80;refine CW.o.mono ?_;rintro _ Z ⟨κ1,rfl,I,k2⟩)
 obtain⟨q5,q6,q7,O,k8,f,p,num,nm,xs,ks,h2,H⟩:=(HT.o.keep I).blk;have E:=h4.o.symm.trans O;injection E with E
 injection E with E
 injection E with E _ _
 subst E;have hp:p=x.p:=by have:=HG.o;rw[h2]at this;exact this
 subst hp;obtain⟨t1,a1,n1,r2,A,q1,q2,q3⟩:=k2;obtain⟨aa,Y,B,_⟩:=A.ar.any
 obtain⟨m,U⟩:∃m,(Inf.dW x env S).2.D.length=m:=⟨_,rfl⟩
 rw[U]at B;have c1:Z.cell? ⟨cb,1,none⟩=some (.slice aa m Y):=by rw[<-B];exact ja A.blk 1 rfl
 have c2:Z.cell? ⟨tb,1,none⟩=some (.int .i64 x.p):=ja H 1 rfl;have k9:=A.lt;have q4:=jb H;have hr:Z.ownsRow 0 82 4 (.slice aa m Y) m ((Inf.dW x env S).2.D.flatMap dmC):=by have:=A.ar.own;rw[U,B]at this;exact this
 have HR:=jH hr;have h1:=jH B;have HM:=jH U;have HC:=jH A;have HF:=jH I;have k4:=jH A.blk;have HV:=jH (show ∀b,(Value.slice aa m Y).ownBlock=some b->b≠cb from fun b hb e=>by rw[<-B]at hb;have:=A.ar.tag b hb;rw[e,A.tg]at this;cases this);have r1:m<90000:=by omega
 obtain⟨R,hR⟩:∃R,(Inf.dW x env S).1=R:=⟨_,rfl⟩
 have q8:=jH hR;rw[hR];clear A hr B U I H O h2 hR
 go_region_law ((refine step_append_lies _ (by rfl) (.tmp 17) (.tmp 25) 54 (by rfl) 0 82 i0 _ 4 32 Tryz.kuD k1 h5 k5 h7 rfl (by decide) (.slice aa m Y) m ((Inf.dW x env S).2.D.flatMap dmC) (by rfl) (HR.o.alloc _) ⟨Z.heap.size,0,none⟩ 1 1 [.int .i64 (R:Nat),.int .i64 (b:Nat),.int .i64 x.p,.int .i64 0] (by rfl) (by rfl) (Ja _ _ _ _ (by simp)) (by intro u hu;simp at hu;rcases hu with rfl|rfl|rfl|rfl <;> rfl) (by decide) (by unfold maxLen;omega) (by omega) (by simp) _ rfl ?_;intro g c w3 W C h3 k7;have F:=jtg k4.o HV.o C;have d3:=ja F 1 rfl;have e3:=je F 1;have q9:=jb F))
 all_goals
  go_returns;have hS:Inf.DS.dem (Inf.dW x env S).2 R b x.p={(Inf.dW x env S).2 with D:=(Inf.dW x env S).2.D ++[⟨R,b,x.p,false⟩]}:=rfl;obtain⟨κ2,h8,h6⟩:=jsE (d:=⟨R,b,x.p,false⟩) (S':=Inf.DS.dem (Inf.dW x env S).2 R b x.p) HC.o HM.o ((jB.alloc jN _).drew) rfl rfl rfl W (by rw[h1.o];exact C) (by rw[h1.o];exact h3.imp id (fun e=>e));refine⟨rfl,κ2,HF.o.trans h6,_,_,_,_,h8,by show Inf.DS.n (Inf.dW x env S).2<=_;omega,?_,by show(Inf.dW x env S).2.ns.length<=_;omega⟩;show((Inf.dW x env S).2.D ++[_]).length<=_;rw[Yg,HM.o];show m+1<=_;have h9:=HM.o;omega
set_option maxRecDepth 100000 in
theorem jpF {x:Inf.X}(H:WD cb g x) (I:g.pos=x.p) {k:Nat}{ev:Value}{s:ByteArray}(h:DM w κ cb S N) (ht:TH w κ tv g) (he:EV w κ ev env) (Z:env.length+6*Inf.sz x<=9000) (hN:N+1+16*Inf.sz x<=80000) (hk:k<=6) (hs:s=kS k) :
 Calls Tryz.prog 24 #[.pointer (some ⟨cb,0,none⟩),tv,ev,.string s] w (VQ cb κ w (Inf.dP k x env S) (N+2+16*Inf.sz x)):=by
 have CP:=jH (joU (s:=s) h (by omega) (KT.nil w κ) hk (by simp) hs);have HX:=jH H;have HG:=jH I;have HT:=jH ht;have HE:=jH he;obtain⟨tb,tn,tk,C,_⟩:=ht.blk;obtain⟨ea,ec,A⟩:=he.slice;have K:=jH C;have U:=jH A;rw[C,A];clear h ht he C A H I hs hk
 go_enter Tryz.func24,Tryz.ntmps24
 go_upto_region 1 with(go_at_call 51;refine CP.o.mono ?_;rintro _ w1 ⟨κ1,rfl,F,E⟩;have B:=jH F;have R:=jH E;clear F E)
 have W:=jH (jrR (b:=S.n) (z:=(S.n:Nat)) HX.o HG.o R.o (HT.o.keep B.o) (HE.o.keep B.o) Z (by omega) rfl);rw[K.o,U.o]at W
 go_wp2_with (go_at_call 52;refine W.o.mono ?_;rintro _ w2 ⟨rfl,κ2,O,Y⟩)
 go_returns;refine⟨rfl,κ2,B.o.trans O,?_⟩;rw[Inf.dP];exact Y.mono (by omega)
variable {P:Program}
theorem jCy (w:World) (O W ty B:TypeId) (g E:Nat) (a:Addr) (n F sz:Nat) (C:Array Value) (t:TypeId) (A:List Value) (U:P.underlying O=some (.slice B)) (hs:(P.info? B).map (·.size)=some sz)
 (R:w.heap[g]? =some (.cells C t (0,0))) (Y:A.length=n*sz) (H:∀j v,A[j]? =some v->w.cell? (a.add j)=some v) (I:A.length<=C.size) (h1:∀v ∈ A,v.oneCell'=true) :
 (Builtin.copy_ #[O,W] ty #[.slice (some ⟨g,0,none⟩) n E,.slice (some a) n F]).run P w= .ok (goInt n) (w.setRow g (A ++C.toList.drop A.length).toArray):=by
 have Z:=run_loadCells_list (P:=P) w a A H;have K:=run_storeCells_at P g 0 t A 0 C w R (by simpa using I) h1;simp only[Kc,List.take_zero,Yx]at K
 cases hq :P.info? B with
 |none=>simp[hq]at hs
 |some i=>
  have hi:i.size=sz:=by simpa[hq] using hs
  have hm:n.min n=n:=Nat.min_self n;rw[Y]at Z;simp[Builtin.copy_,run_underlying U,Builtin.lenOf,Builtin.firstCells,sizeOf,typeInfo,hq,hi,hm,Nat.mul_comm,Z,K]
theorem jwW {ops:Array Oper}{rest:List Oper}{o:Oper}{a:Act}{Q:Exit->Act->World->Prop}(h3:o.guard=none) (d s:Operand) (R Y:TypeId)
 (ho:o.op= .call {callee:=.builtin .copy,args:=#[d,s],argTypes:=#[R,Y]}) (A:TypeId) (hu:P.underlying R=some (.slice A)) (sz:Nat) (U:(P.info? A).map (·.size)=some sz)
 (g n F E:Nat) (sp:Option Addr) (hd:a.eval d= .slice (some ⟨g,0,none⟩) n F) (hs:a.eval s= .slice sp n E) (H:List Value) (t:TypeId) (Z:w.heap[g]? =some (.cells H.toArray t (0,0))) (C:List Value) (hn:C.length=n*sz)
 (O:0<n->∃ad,sp=some ad/\∀j v,C[j]? =some v->w.cell? (ad.add j)=some v) (W:C.length<=H.length) (h1:∀v ∈ C,v.oneCell'=true) (B:Nat) (w0:World) (hb:Below B w0 w) (h2:B<=g)
 (h:∀w',w'.heap[g]? =some (.cells (C ++H.drop C.length).toArray t (0,0))->Below B w0 w'->wpList P ops Q rest (a.put o.dst (goInt n)) w'):wpList P ops Q (o ::rest) a w:=by
 refine wpList_plain h3 fun K hK=>?_
 by_cases h0:n=0
 .subst h0
  have hc:C=[]:=Yh (by omega);subst hc
  have I:(Builtin.copy_ #[R,Y] o.type #[.slice (some ⟨g,0,none⟩) 0 F,.slice sp 0 E]).run P w= .ok (goInt 0) w:=by
   cases hq :P.info? A with
   |none=>simp[hq]at U
   |some i=>
    have hl:∀(x:Addr),(loadCells x 0).run P w= .ok #[] w:=fun x=>by simpa using run_loadCells_list (P:=P) w x [] (by simp)
    cases sp <;> simp[Builtin.copy_,run_underlying hu,Builtin.lenOf,Builtin.firstCells,sizeOf,typeInfo,hq,storeCells,hl]
  unfold Oper.wp;simp[execOp,ho,resolve,invoke,builtin,hd,hs,I,Result.andThen];exact hK _ _ (h w (by simpa using Z) hb)
 .obtain⟨ad,rfl,hsr⟩:=O (by omega)
  have I:=jCy (P:=P) w R Y o.type A g F ad n E sz H.toArray t C hu U Z hn hsr (by simpa using W) h1;unfold Oper.wp;simp[execOp,ho,resolve,invoke,builtin,hd,hs,I,Result.andThen];exact hK _ _ (h _ (by simpa using setRow_heap w g _ _ t _ Z) (below_setRow hb h2 _))
theorem jyT (T e:TypeId) (i:TypeInfo) (z:Value) (sz A:Nat) (E:P.underlying T=some (.slice e)) (hi:P.info? e=some i) (C:i.zero=some z) (hs:i.size=sz) (O:i.bytes=A) (I:A<=1000) (n:Nat) (K:n<=100000) :
 ∃M:List Value,M.length=(n+1)*sz/\∀w:World,(Instr.makeSlice T (.int .i64 (n:Int)) (.int .i64 ((n:Int)+1))).run P w= .ok (.slice (some ⟨w.heap.size,0,none⟩) n (n+1)) (w.alloc (.cells M.toArray e (0,0))):=by
 refine⟨(madeCells z.cells ((n+1)*sz)).toList,by rw[Array.length_toList,size_madeCells],fun w=>?_⟩
 have B:(i.bytes:Int)*((n:Int)+1)<=281474976710656:=by
  have R:(i.bytes:Int)<=1000:=by omega
  have U:(i.bytes:Int)*((n:Int)+1)<=1000*((n:Int)+1):=Int.mul_le_mul_of_nonneg_right R (by omega);omega
 have F:=run_make (P:=P) w T e i z E hi C .i64 .i64 (n:Int) ((n:Int)+1) (by omega) (by omega) B (by omega);rw[hs]at F;rw[F];have H:((n:Int)+1).toNat=n+1:=by omega
 rw[H,Int.toNat_natCast,Array.toArray_toList]
theorem jyl {B g n sz:Nat}{e:TypeId}{A M:List Value}(E:w.heap[g]? =some (.cells (A ++M.drop A.length).toArray e (0,0))) (F:B<=g) (I:n<=100000) (C:A.length=n*sz) (H:M.length=(n+1)*sz):w.ownsRow B e sz (.slice (some ⟨g,0,none⟩) n (n+1)) n A:=by
 refine⟨C,.inr ⟨g,n+1,(A ++M.drop A.length).toArray,rfl,F,E,by omega,by unfold maxLen;omega,?_,?_⟩⟩
 .simp only[List.size_toArray,Yg,Ys]
  have:n*sz<=(n+1)*sz:=Nat.mul_le_mul_right _ (by omega);omega
 .rw[<-C]
  show(A ++M.drop A.length).take A.length=A;simp
end Dm
end Go.Proofs.YtlpmpelnhdoboaaGreatDoor
