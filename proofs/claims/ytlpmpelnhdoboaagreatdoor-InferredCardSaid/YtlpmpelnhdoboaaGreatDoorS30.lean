import Derived.Test.YtlpmpelnhdoboaaGreatDoorS25
import Derived.Test.YtlpmpelnhdoboaaGreatDoorS29
import Derived.BigQuiet
set_option linter.unusedVariables false
set_option linter.unusedSimpArgs false
set_option maxHeartbeats 20000000
namespace Go.Proofs.YtlpmpelnhdoboaaGreatDoor
namespace Inf
variable {ts:Tys}{i:Nat}
theorem rel_nil0 {j:Nat}(h:Rel ts [] i j):i=j:=by
 induction h with
 |refl i=>rfl
 |symm _ ih=>exact ih.symm
 |trans _ _ ih ih'=>exact ih.trans ih'
 |dem h=>cases h
 |kid _ hi hj _ _ ha hb ih=>
  subst ih;rw[hi]at hj;cases hj;rw[ha]at hb;cases hb;rfl
theorem ok_back (A:Back ts):Ok ts []:=by
 refine⟨?_,fun i=>?_⟩
 .rintro ⟨i,j,k,k',xs,ys,hr,hi,hj,_,_,hc⟩
  cases rel_nil0 hr;rw[hi]at hj;cases hj;rcases hc with h|h <;> exact h rfl
 .induction i using Nat.strongRecOn with
  |ind i ih=>
   refine⟨_,fun j hj=>ih j ?_⟩;obtain⟨H,k,xs,a,C,F,I,B,E⟩:=hj;cases rel_nil0 C;cases rel_nil0 E;exact A _ _ _ _ F B
theorem dc_new {D:Dem}{c:Nat->Nat}(he:∀i j,c i=c j↔Rel ts D i j) (a b:Nat):Dc ts (D ++[(a,b)]) (jn c (c b) (c a)):=by
 have up:∀i j,c i=c j->Rel ts (D ++[(a,b)]) i j:=fun i j e=>((he i j).1 e).mono (fun p hp=>Uj _ hp);have B:Rel ts (D ++[(a,b)]) a b:=.dem (List.mem_append_right _ (by simp));refine⟨fun i j e=>?_,fun x y hd=>?_⟩
 .unfold jn at e
  by_cases A:c i=c b
  .by_cases h2:c j=c b
   .exact up _ _ (A.trans h2.symm)
   .rw[if_pos A,if_neg h2]at e
    exact((up _ _ A).trans B.symm).trans (up _ _ e)
  .by_cases h2:c j=c b
   .rw[if_neg A,if_pos h2]at e
    exact((up _ _ e).trans B).trans (up _ _ h2).symm
   .rw[if_neg A,if_neg h2]at e
    exact up _ _ e
 .rcases Yq.1 hd with h|h
  .exact jtz ((he x y).2 (.dem h))
  .have:(x,y)=(a,b):=by simpa using h
   cases this
   by_cases e:c a=c b
   .rw[jrV e,jrV rfl]
   .rw[jn_new e,jrV rfl]
theorem prs_snoc (l:List Dm) (d:Dm):prs (l ++[d])=prs l ++[(d.a,d.b)]:=by unfold prs;rw[Km];rfl
theorem jx7 {l l':List Dm}(h:∀d ∈ l,d ∈ l'):∀p ∈ prs l,p ∈ prs l':=fun p hp=>by
 unfold prs at hp ⊢;obtain⟨d,hd,e⟩:=Uh.1 hp;exact Uh.2 ⟨d,h d hd,e⟩
def HB (S:DS):Prop:=∀(i:Nat) (d:Dm),S.D[i]? =some d->d.e=false->(∀d' ∈ S.D.take i,d'.e=false)->Ok S.ts (prs (S.D.take i))->d.a<S.n/\d.b<S.n
def TyE (S:DS) (E A:Int):Prop:=∃D1 d D2,S.D=D1 ++d ::D2/\A=d.p/\(∀d' ∈ D1,d'.e=false)/\Ok S.ts (prs D1)/\((d.e=true/\E=6)\/(d.e=false/\E=7/\¬Ok S.ts (prs (D1 ++[d]))))
variable {S:DS}{u:Bool}
theorem jtR {A C:List Dm}{d:Dm}(I:S.D=A ++d ::C) (H:d.e=u) (K:u=false->¬Ok S.ts (prs (A ++[d]))) (hd:∀d' ∈ S.D.take i,d'.e=false) (O:Ok S.ts (prs (S.D.take i))):i<=A.length:=by
 refine Yt fun hi=>?_
 have B:∀d' ∈ A ++[d],d' ∈ S.D.take i:=fun d' h'=>by
  have e:S.D=(A ++[d]) ++C:=by rw[I];simp
  rw[e];obtain⟨m,F⟩:=List.getElem?_of_mem h';have E:=(jG F).1;rw[Yg,List.length_singleton]at E;refine Yo (i:=m) ?_;rw[List.getElem?_take,if_pos (by omega),Kb (by rw[Yg,List.length_singleton];exact E)];exact F
 have U:=hd d (B d (by simp));have R:u=false:=by rw[<-H];exact U
 exact K R (jyt (jx7 B) O)
theorem take_snoc {l:List Dm}{d:Dm}(h:l[i]? =some d):l.take (i+1)=l.take i ++[d]:=by rw[List.take_add_one,h];rfl
variable {φ:Nat->Nat}{P:PS}
theorem jxU (h:Sim φ S P):Ok S.ts (prs S.D):=by
 have A:=h.ok;rw[h.D]at A;exact(h.em.ok h.dl h.bS h.bP).1 A
theorem hb_of (h:Rl φ S P):HB S/\Back S.ts:=by
 rcases h with h|⟨u,p,_,h⟩
 .exact⟨fun i d hi _ _ _=>h.dl (d.a,d.b) (Uh.2 ⟨d,Yo hi,rfl⟩),h.bS⟩
 .refine⟨fun i d hi he hd ho=>?_,h.bk⟩
  obtain⟨C,W,R,E,Z,B,U,H,F,Y,I⟩:=h.ex;have O:=jtR E B I hd ho;rw[E]at hi;rcases Kg i C.length with A|K
  .rw[Kb A]at hi
   exact H (d.a,d.b) (Uh.2 ⟨d,Yo hi,rfl⟩)
  .have:i=C.length:=by omega
   subst this;rw[Ud jN,Nat.sub_self]at hi;cases hi;exact F (by rw[<-B];exact he)
theorem failed_one {p E A:Int}(h:jr9 S u p) (U:TyE S E A):A=p/\((u=true/\E=6)\/(u=false/\E=7)):=by
 obtain⟨F,d,D2,I,h2,R,h4,h5,h6,h7,h8⟩:=h.ex;obtain⟨C,c,C2,H,W,Z,g4,B⟩:=U
 have gn:c.e=false->¬Ok S.ts (prs (C ++[c])):=fun e=>by
  rcases B with⟨B,_⟩|⟨_,_,B⟩
  .rw[B]at e;cases e
  .exact B
 have O:S.D.take F.length=F:=by rw[I];simp
 have K:S.D.take C.length=C:=by rw[H];simp
 have l1:=jtR I R h8 (i:=C.length) (by rw[K];exact Z) (by rw[K];exact g4);have l2:=jtR H rfl gn (i:=F.length) (by rw[O];exact h4) (by rw[O];exact h7);have hl:C.length=F.length:=by omega
 have e:=I.symm.trans H;obtain⟨_,Y⟩:=List.append_inj e hl.symm;cases Y;refine⟨by rw[W,h2],?_⟩;rw[<-R]
 rcases B with⟨q1,q2⟩|⟨q1,q2,_⟩
 .exact .inl ⟨q1,q2⟩
 .exact .inr ⟨q1,q2⟩
theorem failed_no {p:Int}(h:jr9 S u p) (hd:∀d ∈ S.D,d.e=false) (B:Ok S.ts (prs S.D)):False:=by
 obtain⟨I,d,U,A,R,C,F,K,H,O,E⟩:=h.ex;have t:S.D.take S.D.length=S.D:=Yw jN;have:=jtR A C E (i:=S.D.length) (by rw[t];exact hd) (by rw[t];exact B);rw[A,Yg,Yk]at this;omega
theorem sim_no {E A:Int}(h:Sim φ S P) (B:TyE S E A):False:=by
 obtain⟨I,c,K,C,H,R,O,F⟩:=B
 rcases F with⟨q1,_⟩|⟨_,_,q3⟩
 .have:=h.de c (by rw[C];simp)
  rw[q1]at this;cases this
 .exact q3 (jyt (jx7 (fun d hd=>by rw[C];rcases Yq.1 hd with h|h;exact Uj _ h;(have:d=c:=by simpa using h);subst this;simp)) (jxU h))
end Inf
namespace Dm
open Go.RowKit Tg
structure Pg (S:Inf.DS) (cl:List Nat) (i:Nat):Prop where
 cr:Cr cl
 ln:cl.length=S.ts.length
 he:∀a b,cf cl a=cf cl b↔Inf.Rel S.ts (Inf.prs (S.D.take i)) a b
 ok:Inf.Ok S.ts (Inf.prs (S.D.take i))
 de:∀d ∈ S.D.take i,d.e=false
theorem jDV {S:Inf.DS}(A:Inf.Back S.ts):Pg S (List.range S.ts.length) 0:=by
 refine⟨jHP _,by simp,fun a b=>?_,?_,fun d hd=>by simp at hd⟩
 .rw[jIs,List.take_zero]
  exact⟨fun e=>by cases e;exact .refl _,Inf.rel_nil0⟩
 .rw[List.take_zero];exact Inf.ok_back A
variable {cl:List Nat}{i:Nat}{d:Inf.Dm}
theorem jDX {S:Inf.DS}(h:Pg S cl i) (hd:S.D[i]? =some d) (A:d.b<cl.length):Inf.Dc S.ts (Inf.prs (S.D.take (i+1))) (cf (jl (cf cl d.b) (cf cl d.a) cl)):=by
 rw[Inf.take_snoc hd,Inf.prs_snoc,jAh (jpU h.cr A)];exact Inf.dc_new h.he _ _
theorem jDW {S:Inf.DS}{A:List Nat}(h:Pg S cl i) (hd:S.D[i]? =some d) (E:d.e=false) (B:Cr A) (F:A.length=cl.length) (he:∀a b,cf A a=cf A b↔Inf.Rel S.ts (Inf.prs (S.D.take (i+1))) a b) (H:Inf.Ok S.ts (Inf.prs (S.D.take (i+1)))):Pg S A (i+1):=
 ⟨B,by rw[F];exact h.ln,he,H,fun d' hd'=>by
  rw[Inf.take_snoc hd]at hd';rcases Yq.1 hd' with C|C
  .exact h.de d' C
  .have:d'=d:=by simpa using C
   subst this;exact E⟩
theorem jDY {S:Inf.DS}(h:Pg S cl i) (hd:S.D[i]? =some d) (A:d.e=true):Inf.TyE S 6 d.p:=by
 have B:=(jG hd).1;have e:=(jG hd).2;exact⟨S.D.take i,d,S.D.drop (i+1),by rw[<-e,List.getElem_cons_drop,List.take_append_drop],rfl,h.de,h.ok,.inl ⟨A,rfl⟩⟩
theorem jyf {S:Inf.DS}(h:Pg S cl i) (hd:S.D[i]? =some d) (B:d.e=false) (A:¬Inf.Ok S.ts (Inf.prs (S.D.take (i+1)))):Inf.TyE S 7 d.p:=by
 have C:=(jG hd).1;have e:=(jG hd).2;rw[Inf.take_snoc hd]at A;exact⟨S.D.take i,d,S.D.drop (i+1),by rw[<-e,List.getElem_cons_drop,List.take_append_drop],rfl,h.de,h.ok,.inr ⟨B,rfl,A⟩⟩
end Dm
namespace Dm
open Go.RowKit Tg
def Nn (n:Nat) (κ:Tg.Kp):Prop:=∀b,b<n->κ b=none
variable {w:World}
theorem jsx {S:Tag->Prop}{κ A:Tg.Kp}{w':World}{n:Nat}(h:Tg.Fr S κ A w w') (B:Nn n κ) (C:n<=w.heap.size):Below n w w'/\Nn n A:=
 ⟨⟨h.low.os,h.low.tape,h.low.output,h.low.size,fun b hb=>h.rest b (by omega) (fun t ht=>by rw[B b hb]at ht;cases ht)⟩,fun b hb=>(h.old b (by omega)).trans (B b hb)⟩
theorem jDZ {B w3:World}{wb:Nat}{v:Value}{X O:Obj}(C:B.heap[wb]? =some X) (E:∀b,v.ownBlock=some b->b≠wb) (A:(B.alloc O).grownBy w3 v.ownBlock):w3.heap[wb]? =some X:=by
 have F:=jb C;rw[A.block wb (by rw[Ya];omega) (fun e=>E wb e.symm rfl),Kq _ _ _ F];exact C
theorem jIl {w3 C:World}{κ:Tg.Kp}{cb j g cap:Nat}{tv R K B:Value}{O:List DT}{S:Inf.DS}{xs xs':List Value}(h:DC w κ cb tv R K B O S) (U:TR w κ (4,0) 3 1 B j xs) (H:Below w.heap.size w C)
 (I:w3.ownsRow 0 3 1 (.slice (some ⟨g,0,none⟩) (j+1) cap) (j+1) xs') (F:C.grownBy w3 B.ownBlock) (E:B.ownBlock=some g\/g=C.heap.size) :
 ∃κ',DC (w3.setCell ⟨cb,3,none⟩ (.slice (some ⟨g,0,none⟩) (j+1) cap)) κ' cb tv R K (.slice (some ⟨g,0,none⟩) (j+1) cap) O S/\TR (w3.setCell ⟨cb,3,none⟩ (.slice (some ⟨g,0,none⟩) (j+1) cap)) κ' (4,0) 3 1 (.slice (some ⟨g,0,none⟩) (j+1) cap) (j+1) xs'/\Tg.Fr (fun u=>u=(0,0)\/u=(4,0)) κ κ' w (w3.setCell ⟨cb,3,none⟩ (.slice (some ⟨g,0,none⟩) (j+1) cap)):=by
 obtain⟨κ',p1,Z,W,A,Y,p6⟩:=jtd (fi:=3) h.blk h.tg h.top U (by decide) H I F E;refine⟨κ',⟨p1,h.tr.keep A (by rintro (e|e) <;> cases e),h.ar.keep A (by rintro (e|e) <;> cases e),h.nr.keep A (by rintro (e|e) <;> cases e),fun i d hd=>⟨(h.kds i d hd).1.keep A,(h.kds i d hd).2⟩,h.ts,Z,Y,fun b q hb=>?_⟩,W,A⟩;rcases p6 b with e|e
 .rw[e]at hb;exact Yj (h.n5 b q hb) A.low.size
 .rw[e]at hb;cases hb
theorem jHG {W:World}(B:w.alloc (.cells #[.slice none 0 0,.slice none 0 0,.slice none 0 0,.slice none 0 0] 58 (0,0))=W):∃κ,DM W κ w.heap.size ⟨[],[],[]⟩ 0/\Nn w.heap.size κ/\Below w.heap.size w W/\(∀b,b≠w.heap.size->κ b=none):=by
 have C:Below w.heap.size w W:=by rw[<-B];exact jB.alloc jN _
 have A:W.heap[w.heap.size]? =some (.cells #[.slice none 0 0,.slice none 0 0,.slice none 0 0,.slice none 0 0] 58 (0,0)):=by rw[<-B];exact jg w _
 have E:W.heap.size=w.heap.size+1:=by rw[<-B,Ya]
 refine⟨jq (fun _=>none) w.heap.size (0,0),⟨_,_,_,[],⟨A,TR.nil _ _ _ _ _,TR.nil _ _ _ _ _,TR.nil _ _ _ _ _,fun i d hd=>by simp at hd,rfl,by unfold jq;rw[if_pos rfl],fun p hp=>?_,fun b n A=>?_⟩,jN,jN,jN⟩,fun b A=>?_,C,fun b A=>?_⟩
 .unfold jq;rw[if_neg (by omega)]
 .unfold jq at A
  split at A <;> cases A
 .unfold jq;rw[if_neg (by omega)]
 .unfold jq;rw[if_neg A]
def TyQ (S:Inf.DS) (w:World) (e:Ending) (w':World):Prop:=Below w.heap.size w w'/\((∃E A,Inf.TyE S E A/\E≠0/\e= .returned (.tuple #[.pointer none,.int .i64 E,.int .i64 A]))\/
 ∃(cb:Nat) (κ:Tg.Kp) (tv av nv cv:Value) (ds:List DT) (cl:List Nat),e= .returned (.tuple #[.pointer (some ⟨cb,0,none⟩),.int .i64 0,.int .i64 0])/\DK w' κ cb tv av nv cv ds S cl/\Kn S ds cl (Inf.prs S.D)/\(∀d ∈ S.D,d.e=false)/\S.ns.length<=90000)
set_option maxRecDepth 100000 in
theorem type_d {tb B0 n0:Nat}{g:G}{x:Inf.X}{S:Inf.DS}(hT:HT w B0 n0 (.pointer (some ⟨tb,0,none⟩)) g) (R2:n0<=w.heap.size) (hg:GX g x) (K7:6*Inf.sz x<=9000) (hz2:3+16*Inf.sz x<=80000) (hS:Inf.dP 1 x [] ⟨[],[],[]⟩=S) (v0:Inf.HB S) (v3:Inf.Back S.ts) :
 Calls Tryz.prog 13 #[.pointer (some ⟨tb,0,none⟩)] w (TyQ S w):=by
 obtain⟨i0,hi0,Y7,hz4,N8⟩:=info_parts Tryz.kiI;have R6:=jH hT;have K1:=jH hg;have R0:=jH hS;have Y3:=jH v0;have z6:=jH v3;clear hT hg hS v0 v3
 go_enter Tryz.func13,Tryz.ntmps13
 go_upto_region 2 with fail
 generalize hW:World.alloc _ _=W;obtain⟨κ0,y5,r4,h0,y6⟩:=jHG hW;have CP:=jH (jpF (k:=1) (s:=⟨#[105,110,116]⟩) (jBb (cb:=w.heap.size) _ g x jN K1.o) K1.o.pos y5 (tv:=.pointer (some ⟨tb,0,none⟩)) ⟨B0,n0,R6.o.keep (fun b _ hb=>h0.block b (by omega)),by have:=h0.size;omega,fun b _ hb=>y6 b (by omega)⟩ (env:=[]) (ev:=.slice none 0 0) ⟨Uk _ _ _ _,fun b hb=>(by cases hb),by simp⟩ (by simpa using K7) (by omega) (by omega) rfl);have z7:=jH r4;have H7:=jH h0;have x2:=h0.size;rw[R0.o]at CP
 obtain⟨cb,v4⟩:∃cb,w.heap.size=cb:=⟨_,rfl⟩
 rw[v4]at CP z7 H7 x2 ⊢;have k9:=jH v4;clear hW y5 r4 h0 y6 v4
 go_upto_region 3 with(go_at_call 24;refine CP.o.mono ?_;rintro _ w1 ⟨rfl,κ1,H1,y8⟩;have z3:=jH H1;have Y9:=jH y8;clear H1 y8)
 obtain⟨tv,av,nv,ds,h9,m1,m2,m3⟩:=Y9.o;have r8:=jsx z3.o z7.o x2;have N3:=jH r8.2;have N5:=jH (H7.o.trans r8.1);have R5:=jH h9;have h7:=h9.len;obtain⟨ta,tc,z4,R1⟩:=h9.tr.any
 obtain⟨n,hn⟩:∃n,ds.length=n:=⟨_,rfl⟩
 rw[hn]at z4 R1 h7;subst z4;have hn9:n<=90000:=by omega
 have HN:=jH hn;have r2:=jH h7;have HNS:=jH (show S.ns.length<=90000 by omega);have Y8:S.D.length<=90000:=by omega
 have Y4:cb<=w1.heap.size:=Ym x2 z3.o.low.size;clear r8 h9 hn h7 m1 m2 m3
 go_upto_region 4 with fail
 go_loopg [6] n (fun gh s6 (wr:World)=>∃(j E:Nat) (ca:Option Addr) (κj:Tg.Kp),j<=n/\gh=n-j/\s6= .int .i64 (j:Nat)/\DC wr κj cb (.slice ta n tc) av nv (.slice ca j E) ds S/\TR wr κj (4,0) 3 1 (.slice ca j E) j (nV' (List.range j))/\Nn cb κj/\Below cb w wr/\cb<=wr.heap.size)
 case atStart=>exact⟨0,0,none,κ1,by omega,rfl,rfl,R5.o,TR.nil _ _ _ _ _,N3.o,N5.o,Y4⟩
 case round=>
  obtain⟨j,E,ca,κj,hj,hgk,rfl,h3,K8,x6,z8,r9⟩:=hrel;have q5:=jH h3;have k7:=jH K8;have H9:=jH x6;have K4:=jH z8;have c0:=ja h3.blk 0 rfl;have c3:=ja h3.blk 3 rfl;have H6:=h3.lt;clear h3 K8 x6 z8
  by_cases hlt:j<n
  .have u1:(j:Int)<(n:Int):=by omega
   have R4:=jH q5.o.blk;have HO:=jH k7.o.own;have HV:=jH (show ∀b,(Value.slice ca j E).ownBlock=some b->b≠cb from fun b hb e=>by have:=k7.o.tag b hb;rw[e,q5.o.tg]at this;cases this)
   go_wp2_with (at_builtin;refine JO _ rfl (.tmp 28) (.tmp 30) 56 rfl 0 3 i0 _ 1 8 Tryz.kuI hi0 Y7 hz4 N8 rfl (by decide) (.slice ca j E) j (nV' (List.range j)) rfl (HO.o.alloc _) ⟨wr.heap.size,0,none⟩ 1 1 [.int .i64 (j:Nat)] rfl rfl (Ja _ _ _ _ rfl) ?_ ?_ ?_ ?_ ?_;(intro u hu;simp at hu;subst hu;rfl);(unfold maxLen;omega);omega;(exact Yi _);intro v6 w6 U F x1;obtain⟨g6,c6,rfl,q1,q2,q3,q4⟩:=jnX U (by omega);have Y:=jDZ R4.o HV.o F;have d3:=ja Y 3 rfl;have e3:=je Y 3;have hl6:=jb Y;have N7:=jH U;have R7:=jH F;have HA6:=jH x1;clear U F x1 Y)
   obtain⟨κ6,k1,k2,k3⟩:=jIl (xs':=nV' (List.range (j+1))) q5.o k7.o (jB.alloc jN _) (by rw[List.range_succ];unfold nV';rw[Km];exact N7.o) R7.o (by
    rcases HA6.o with e|e
    .exact .inl e.symm
    .exact .inr (by injection e))
   have hU:=jsx k3 H9.o r9
   go_roundg (n-(j+1))
   case measure=>omega
   case rel=>exact⟨j+1,c6,_,κ6,by omega,rfl,by go_num,k1,k2,hU.2,K4.o.trans hU.1,Ym r9 k3.low.size⟩
  .have hjn:j=n:=by omega
   subst hjn
   have z5:DK wr κj cb (.slice ta j tc) av nv (.slice ca j E) ds S (List.range j):=⟨q5.o,by rw[List.length_range];exact k7.o,by rw[List.length_range,HN.o],by rw[HN.o];exact hn9⟩
   have x3:=jDV z6.o;have R:S.ts.length=j:=by have:=r2.o;unfold Inf.DS.n at this;omega
   rw[R]at x3;have HDK:=jH z5;have R3:=jH x3
   have HK:=jH (show ∀i a,a ∈ Inf.kids S.ts i->a<ds.length from fun i a ha=>by
    rw[HN.o,<-R];unfold Inf.kids at ha
    cases e :S.ts[i]? with
    |none=>rw[e]at ha;cases ha
    |some t=>
     rw[e]at ha;have h1:=z6.o i t.k t.xs a e ha;have h2:=(jG e).1
     omega)
   have HTL:=jH R
   obtain⟨w2,rfl⟩:∃w2,w2=wr:=⟨_,rfl⟩
   obtain⟨dn,v9⟩:∃dn,S.D.length=dn:=⟨_,rfl⟩
   rw[v9]at Y8;have k4:=jH v9;clear z5 x3 R v9 c3
   go_upto_region 8 with fail
   clear c0 H6
   go_loopg [7,8,9] dn (fun gh s7 s8 s9 (wr:World)=>∃(i:Nat) (κi:Tg.Kp) (cl:List Nat),i<=dn/\gh=dn-i/\s7= .int .i64 (i:Nat)/\DK wr κi cb (.slice ta j tc) av nv (.slice ca j E) ds S cl/\Pg S cl i/\Nn cb κi/\Below cb w wr/\cb<=wr.heap.size)
   case atStart=>exact⟨0,κj,_,by omega,rfl,rfl,HDK.o,R3.o,H9.o,K4.o,r9⟩
   case round=>
    obtain⟨i,κi,cl,hi,hgk2,rfl,h4,y9,y2,z0,H4⟩:=hrel;have h5:=jH h4;have C:=jH y9;have K2:=jH y2;have r1:=jH z0;have H6:=h4.dc.lt;obtain⟨aa,ac,k8,N9⟩:=h4.dc.ar.any;rw[k4.o]at k8 N9;have c1:=ja h4.dc.blk 1 rfl;simp only[Yz,Yp,List.getElem_cons_succ]at c1;rw[k8]at c1;have R9:=jH k8;clear h4 y9 y2 z0 k8
    by_cases Y5:i<dn
    .have u1:(i:Int)<(dn:Int):=by omega
     obtain⟨d,hd⟩:∃d,S.D[i]? =some d:=⟨_,Yb (by rw[k4.o];exact Y5)⟩
     have hr:=h5.o.dc.ar;rw[k4.o,R9.o]at hr;obtain⟨ag,acap,ae,_,_,hag⟩:=hr.at (by omega);injection ae with ae1 _ ae2
     subst ae1 ae2;have d0:=hr.cell (JR (f:=dmC) (c:=4) (fun _=>rfl) hd (k:=0) (by omega));have d1:=hr.cell (JR (f:=dmC) (c:=4) (fun _=>rfl) hd (k:=1) (by omega));have d2:=hr.cell (JR (f:=dmC) (c:=4) (fun _=>rfl) hd (k:=2) (by omega));have d3:=hr.cell (JR (f:=dmC) (c:=4) (fun _=>rfl) hd (k:=3) (by omega));obtain⟨da,db,dp,de⟩:=d;replace d0:wr.cell? ⟨ag,i*4,none⟩=some (.int .i64 (da:Nat)):=d0;replace d1:wr.cell? ⟨ag,i*4+1,none⟩=some (.int .i64 (db:Nat)):=d1;replace d2:wr.cell? ⟨ag,i*4+2,none⟩=some (.int .i64 dp):=d2;replace d3:wr.cell? ⟨ag,i*4+3,none⟩=some (.int .i64 (if de then 6 else 0)):=d3;have I:=jH hd;clear hr hd
     cases de with
     |true=>
      replace d3:wr.cell? ⟨ag,i*4+3,none⟩=some (.int .i64 6):=d3
      go_upto_region 11 with fail
      generalize hV:World.alloc _ _=V;obtain⟨H,A⟩:=jq0 hV;have f0:=ja A 0 rfl;have f1:=ja A 1 rfl;have f2:=ja A 2 rfl;have f3:=ja A 3 rfl;simp only[Yz,Yp,List.getElem_cons_succ]at f0 f1 f2 f3;have y1:=jb A;have x5:=jH (r1.o.trans (H.mono H4));clear hV A H
      go_upto_region 12 with fail
      go_quiet (fail)
      go_wp2_with fail
      go_returns;refine⟨?_,.inl ⟨6,dp,jDY C.o I.o rfl,by omega,rfl⟩⟩;have B:=x5.o;rw[k9.o];exact⟨B.os,B.tape,B.output,B.size,B.block⟩
     |false=>
      replace d3:wr.cell? ⟨ag,i*4+3,none⟩=some (.int .i64 0):=d3;have K:=Y3.o i _ I.o rfl C.o.de C.o.ok;rw[<-r2.o]at K;have O:cl.length=j:=by rw[h5.o.ln,HN.o]
      have HCL:=jH O;have y4:=jpq (cl:=cl) (i:=da) (by rw[O];exact K.1);have y3:=jpq (cl:=cl) (i:=db) (by rw[O];exact K.2);have K0:=jDX C.o I.o (by show db<cl.length;rw[O];exact K.2);have Y6:=jH K0;have v7:Cr (jl (cf cl db) (cf cl da) cl):=jtX C.o.cr (jpU C.o.cr (by rw[O];exact K.1));have N4:=jH v7;have N6:=jH (show ∀W,Below wr.heap.size wr W->_ from fun W hW=>jy7 (z1:=(da:Nat)) (z2:=(db:Nat)) (h5.o.on hW) rfl rfl y4 y3);clear K O y4 y3 K0 v7
      go_upto_region 11 with fail
      generalize hV:World.alloc _ _=V;obtain⟨H,A⟩:=jq0 hV;have f0:=ja A 0 rfl;have f1:=ja A 1 rfl;have f2:=ja A 2 rfl;have f3:=ja A 3 rfl;simp only[Yz,Yp,List.getElem_cons_succ]at f0 f1 f2 f3;have y1:=jb A;have K9:=jH H;have x5:=jH (r1.o.trans (H.mono H4));have k5:=jH (h5.o.dc.top wr.heap.size jN);have y7:=jH A;have hsV:=H.size
      obtain⟨vb,H3⟩:∃vb,wr.heap.size=vb:=⟨_,rfl⟩
      rw[H3]at f0 f1 f2 f3 y1 k5 y7 ⊢;have hcV:cb<V.heap.size:=by omega
      have CJ:=jH (N6.o V K9.o);clear hV A H H3
      go_upto_region 14 with(go_at_call 25;refine CJ.o.mono ?_;rintro _ w4 ⟨rfl,H2,H8⟩;have Y2:=jH H2;have x4:=jH H8;clear H2 H8)
      have CC:=jH (jIm Y2.o N4.o HK.o);have z9:=jsx x4.o K2.o (by omega:cb<=V.heap.size);have HB4:=jH (x5.o.trans z9.1);have N2:=jH (x4.o.blk y7.o k5.o);have hs4:=x4.o.low.size;clear z9
      go_upto_region 15 with(go_at_call 26;refine CC.o.mono ?_;rintro _ w5 ⟨r5,Y0,κ5,rfl,x8,v2,q9,x9⟩;have H0:=jH x8;have h8:=jH x9;have r7:=jH v2;have N0:=jH q9;clear x8 x9 v2 q9)
      have v8:=jsx h8.o K2.o (by omega:cb<=w4.heap.size);have K6:=jH (HB4.o.trans v8.1);have HN5:=jH v8.2;have Z:=h8.o.blk N2.o k5.o;have N1:=jH Z;have hs5:=h8.o.low.size;have x0:=N0.o.ok Y6.o;have v5:=jH x0;have p2:=ja Z 2 rfl;simp only[Yz,Yp,List.getElem_cons_succ]at p2;have hlv5:=jb Z;clear v8 Z x0 f0 f1 f2 f3 c1 d0 d1 d2 d3
      cases r5 with
      |false=>
       go_upto_region 18 with fail
       go_quiet (fail)
       go_wp2_with fail
       go_returns;refine⟨?_,.inl ⟨7,dp,jyf C.o I.o rfl (fun ho=>ho.1 (v5.o.2 (by first|rfl|trivial))),by omega,rfl⟩⟩;have B:=K6.o;rw[k9.o];exact⟨B.os,B.tape,B.output,B.size,B.block⟩
      |true=>
       have hR:=v5.o.1 (by first|rfl|trivial);have CF:=jH (jGx H0.o r7.o HK.o hR.1 hR.2);have y0:=jH hR;clear hR
       go_upto_region 17 with(go_at_call 27;refine CF.o.mono ?_;rintro _ w6 ⟨r6,κ6,rfl,x7,q6,K5⟩;have HD6:=jH x7;have q7:=jH K5;have q8:=jH q6;clear x7 K5 q6)
       have r3:=jsx q7.o HN5.o (by omega:cb<=w5.heap.size);have H5:=jH (K6.o.trans r3.1);have R8:=jH r3.2;have h6:=q7.o.blk N1.o (by rw[h8.o.old vb (by omega)];exact k5.o);have hs6:=q7.o.low.size;have Y1:=ja h6 2 rfl;simp only[Yz,Yp,List.getElem_cons_succ]at Y1;have hlv6:=jb h6;clear r3 h6 p2
       cases r6 with
       |false=>
        go_upto_region 18 with fail
        go_quiet (fail)
        go_wp2_with fail
        go_returns;refine⟨?_,.inl ⟨7,dp,jyf C.o I.o rfl (fun ho=>by have h:=q8.o.2 ho.2;cases h),by omega,rfl⟩⟩;have B:=H5.o;rw[k9.o];exact⟨B.os,B.tape,B.output,B.size,B.block⟩
       |true=>
        go_wp2_with fail
        go_roundg (dn-(i+1))
        case measure=>omega
        case rel=>exact⟨i+1,κ6,Y0,by omega,rfl,by go_num,HD6.o,jDW C.o I.o rfl r7.o (by rw[H0.o.ln,HN.o,HCL.o]) y0.o.1 ⟨y0.o.2,q8.o.1 (by first|rfl|trivial)⟩,R8.o,H5.o,by omega⟩
    .have hid:i=dn:=by omega
     subst hid
     go_wp2_with fail
     go_returns;have v1:S.D.take i=S.D:=Yw (by rw[k4.o];omega);have hp:=C.o;refine⟨by rw[k9.o];exact r1.o,.inr ⟨cb,κi,_,_,_,_,_,cl,rfl,h5.o,⟨hp.cr,hp.ln,HK.o,by have:=hp.he;rw[v1]at this;exact this,by have:=hp.ok;rw[v1]at this;exact this⟩,by have:=hp.de;rw[v1]at this;exact this,HNS.o⟩⟩
end Dm
end Go.Proofs.YtlpmpelnhdoboaaGreatDoor
