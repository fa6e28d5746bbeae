import Derived.Test.YtlpmpelnhdoboaaGreatDoorS03
import Derived.Test.YtlpmpelnhdoboaaGreatDoorProg
import Derived.WalkKit
import Derived.WalkSpells
import Derived.WalkLawsBesides
import Derived.Deep.Quiet
import Derived.Lib.Hide
import Derived.Deep.LoopGhost
import Derived.Deep.Cut
import Derived.Deep.RegionWith
import Derived.Deep.QuietTactic
set_option linter.unusedVariables false
set_option linter.unusedSimpArgs false
set_option maxHeartbeats 20000000
namespace Go.Proofs.YtlpmpelnhdoboaaGreatDoor
namespace Tg
open Go.RowKit
structure NM where
 k:Nat
 xs:List Int
 f:Nat
 v:Value
def nmC (m:NM):List Value:=[.int .i64 (m.k:Nat),m.v,.int .i64 (m.f:Nat)]
def iV (l:List Int):List Value:=l.map fun z=>.int .i64 z
structure GM (w:World) (κ:Kp) (b o:Nat) (v:Value) (ns:List NM):Prop where
 at':w.cell? ⟨b,o,none⟩=some v
 lt:b<w.heap.size
 row:TR w κ (1,0) 101 3 v ns.length (ns.flatMap nmC)
 kds:∀i m,ns[i]? =some m->TR w κ (2,i) 3 1 m.v m.xs.length (iV m.xs)
 big:ns.length<=100000
 tg:κ b=some (0,0)
 top:∀p,w.heap.size<=p->κ p=none
 kb:∀(i:Nat) (m:NM),ns[i]? =some m->m.xs.length<=1000
variable {w:World}{κ:Kp}{b o:Nat}{v:Value}{ns:List NM}
theorem GM.form (h:GM w κ b o v ns):∃a cap,v= .slice a ns.length cap/\ns.length<=cap:=h.row.any
theorem jtH {n cap:Nat}{a:Option Addr}(C:w.cell? ⟨b,o,none⟩=some (.slice a n cap)) (B:b<w.heap.size) (E:n<=100000) (i:Int) :
 Calls Tryz.prog 71 #[.pointer (some ⟨b,o,none⟩),.int .i64 i] w fun e w'=>e= .returned (.bool (decide (0<=i) && decide (i<(n:Nat))))/\w'=w:=by
 by_cases A:0<=i
 .have u1:decide ((0:Int)<=i)=true:=by simpa using A
  go_enter Tryz.func71,Tryz.ntmps71
  go_wp2
  go_returns;exact⟨by simp;intro _;exact A,rfl⟩
 .have u1:decide ((0:Int)<=i)=false:=by simpa using A
  go_enter Tryz.func71,Tryz.ntmps71
  go_wp2
  go_returns;exact⟨by simp,rfl⟩
variable {i:Nat}{m:NM}
theorem flat3 (h:ns[i]? =some m):(ns.flatMap nmC)[i*3]? =some (.int .i64 (m.k:Nat))/\(ns.flatMap nmC)[i*3+1]? =some m.v/\(ns.flatMap nmC)[i*3+2]? =some (.int .i64 (m.f:Nat)):=
 ⟨JR (f:=nmC) (c:=3) (fun _=>rfl) h (k:=0) (by omega),JR (f:=nmC) (c:=3) (fun _=>rfl) h (k:=1) (by omega),JR (f:=nmC) (c:=3) (fun _=>rfl) h (k:=2) (by omega)⟩
theorem GM.node (h:GM w κ b o v ns) (hi:ns[i]? =some m):∃g cap,v= .slice (some ⟨g,0,none⟩) ns.length cap/\ns.length<=cap/\g<w.heap.size/\w.cell? ⟨g,i*3,none⟩=some (.int .i64 (m.k:Nat))/\w.cell? ⟨g,i*3+1,none⟩=some m.v/\w.cell? ⟨g,i*3+2,none⟩=some (.int .i64 (m.f:Nat)):=by
 have I:=(jG hi).1;obtain⟨g,cap,e,F,_,E⟩:=h.row.at (by omega);have A:=h.row;rw[e]at A;obtain⟨H,C,B⟩:=flat3 hi;exact⟨g,cap,e,F,E,A.cell H,A.cell C,A.cell B⟩
theorem jtO (h:GM w κ b o v ns) (hi:ns[i]? =some m) :
 Calls Tryz.prog 70 #[.pointer (some ⟨b,o,none⟩),.int .i64 (i:Nat)] w fun e w'=>e= .returned (.int .i64 (m.f:Nat))/\w'=w:=by
 obtain⟨g,cap,e,O,U,c0,c1,I⟩:=h.node hi;have B:=h.at';rw[e]at B;have K:=(jG hi).1
 have E:Hid (Calls Tryz.prog 71 #[.pointer (some ⟨b,o,none⟩),.int .i64 (i:Nat)] w fun e w'=>e= .returned (.bool true)/\w'=w):=by
  have:=jtH B h.lt h.big (i:Nat);rw[show(decide ((0:Int)<=(i:Nat)) && decide (((i:Nat):Int)<(ns.length:Nat)))=true by simp;omega]at this;exact this
 have H:=h.lt;have R:(i:Int)<(ns.length:Int):=by omega
 have C:=h.big;clear h hi e c0 c1
 go_enter Tryz.func70,Tryz.ntmps70
 go_wp2_with (go_at_call 71;refine E.o.mono ?_;rintro _ F ⟨rfl,A⟩;have A:=A.symm;subst A)
 go_returns;exact⟨rfl,rfl⟩
theorem GM.on {W:World}(h:GM w κ b o v ns) (A:Below w.heap.size w W):GM W κ b o v ns:=
 ⟨(A.cell (p:=⟨b,o,none⟩) h.lt).trans h.at',Yj h.lt A.size,h.row.keep (S:=fun _=>False) (.of A) id,fun i m hi=>(h.kds i m hi).keep (S:=fun _=>False) (.of A) id,h.big,h.tg,fun p hp=>h.top p (Ym A.size hp),h.kb⟩
theorem jtr (h:GM w κ b o v ns) {m':NM}(hi:ns[i]? =some m) (E:ns[m.f]? =some m') :
 Calls Tryz.prog 35 #[.pointer (some ⟨b,o,none⟩),.int .i64 (i:Nat)] w fun e w'=>e= .returned (.agg #[.int .i64 (m'.k:Nat),m'.v,.int .i64 (m'.f:Nat)])/\Below w.heap.size w w':=by
 obtain⟨j,I⟩:∃j,m.f=j:=⟨_,rfl⟩
 rw[I]at E;have hl:=(jG E).1;have B:∀ob:Obj,Below w.heap.size w (w.alloc ob):=fun ob=>jB.alloc jN _
 have CF:Hid (∀ob,Calls Tryz.prog 70 #[.pointer (some ⟨b,o,none⟩),.int .i64 (i:Nat)] (w.alloc ob) fun e w'=>e= .returned (.int .i64 (j:Nat))/\w'=w.alloc ob):=fun ob=>by
  have:=jtO (h.on (B ob)) hi;rw[I]at this;exact this
 have CH:Hid (∀ob,Calls Tryz.prog 71 #[.pointer (some ⟨b,o,none⟩),.int .i64 (j:Nat)] (w.alloc ob) fun e w'=>e= .returned (.bool true)/\w'=w.alloc ob):=fun ob=>by
  have C:=h.on (B ob);obtain⟨a,cap,e,_⟩:=h.form;have F:=C.at';rw[e]at F;have:=jtH F C.lt h.big (j:Nat);rw[show(decide ((0:Int)<=(j:Nat)) && decide (((j:Nat):Int)<(ns.length:Nat)))=true by simp;omega]at this;exact this
 obtain⟨g,cap,e,h1,C,c0,c1,O⟩:=h.node E;have F:=h.at';rw[e]at F;have Z:=h.lt;have gj:(j:Int)<(ns.length:Int):=by omega
 have Y:=h.big;have f0:∀ob:Obj,(w.alloc ob).cell? ⟨b,o,none⟩=some (.slice (some ⟨g,0,none⟩) ns.length cap):=fun ob=>((B ob).cell (p:=⟨b,o,none⟩) Z).trans F;have f1:∀ob:Obj,(w.alloc ob).cell? ⟨g,j*3,none⟩=some (.int .i64 (m'.k:Nat)):=fun ob=>((B ob).cell (p:=⟨g,j*3,none⟩) C).trans c0;have U:∀ob:Obj,(w.alloc ob).cell? ⟨g,j*3+1,none⟩=some m'.v:=fun ob=>((B ob).cell (p:=⟨g,j*3+1,none⟩) C).trans c1;have f3:∀ob:Obj,(w.alloc ob).cell? ⟨g,j*3+2,none⟩=some (.int .i64 (m'.f:Nat)):=fun ob=>((B ob).cell (p:=⟨g,j*3+2,none⟩) C).trans O
 obtain⟨R,H⟩:∃R,m'.v=R:=⟨_,rfl⟩
 obtain⟨a5,c5,K,_⟩:=(h.kds j m' E).any;rw[K]at H U;have HA:=jH B;rw[K];clear h hi E I e c0 c1 O F B H K
 go_enter Tryz.func35,Tryz.ntmps35
 go_wp2_with (first
  |(go_at_call 70;refine(CF.o _).mono ?_;rintro _ W ⟨rfl,A⟩;have A:=A.symm;subst A)
  |(go_at_call 71;refine(CH.o _).mono ?_;rintro _ W ⟨rfl,A⟩;have A:=A.symm;subst A))
 go_returns;exact⟨rfl,HA.o _⟩
theorem GM.setF {g cap:Nat}(h:GM w κ b o (.slice (some ⟨g,0,none⟩) ns.length cap) ns) (hi:ns[i]? =some m) (z:Nat) :
 GM (w.setCell ⟨g,i*3+2,none⟩ (.int .i64 (z:Nat))) κ b o (.slice (some ⟨g,0,none⟩) ns.length cap) (ns.set i {m with f:=z})/\Fr (· =(1,0)) κ κ w (w.setCell ⟨g,i*3+2,none⟩ (.int .i64 (z:Nat))):=by
 have B:=(jG hi).1;obtain⟨E,A⟩:=h.row.set (i*3+2) (.int .i64 (z:Nat));rw[jaw (f:=nmC) (c:=3) (fun _=>rfl) hi (a':={m with f:=z}) (by omega) rfl]at E;have C:=A.rest b h.lt (fun t ht e=>by rw[h.tg]at ht;cases ht;cases e);refine⟨⟨?_,?_,?_,fun j m2 hj=>?_,by rw[List.length_set];exact h.big,h.tg,fun p hp=>h.top p (by rw[jy]at hp;exact hp),fun j m2 hj=>?_⟩,A⟩
 .rw[Ke (w:=w) (a:=⟨b,o,none⟩) C];exact h.at'
 .rw[jy];exact h.lt
 .rw[List.length_set];exact E
 .rcases JJ hj B with⟨rfl,rfl⟩|⟨_,hj⟩
  .exact(h.kds i m hi).keep A (by intro e;cases e)
  .exact(h.kds j m2 hj).keep A (by intro e;cases e)
 .rcases JJ hj B with⟨rfl,rfl⟩|⟨_,hj⟩
  .exact h.kb i m hi
  .exact h.kb j m2 hj
def jm (old new:Nat) (m:NM):NM:=if m.f=old then {m with f:=new} else m
def jK (old new k:Nat) (ns:List NM):List NM:=(ns.take k).map (jm old new) ++ns.drop k
theorem jrX (old new k:Nat) (ns:List NM):(jK old new k ns).length=ns.length:=by unfold jK;simp;omega
theorem jvU {old new k:Nat}(h:ns[k]? =some m):(jK old new k ns)[k]? =some m:=by
 have A:=(jG h).1;unfold jK;rw[Ud (by simp;omega)];simp[Nat.min_eq_left (Ug A),h]
theorem jze {old new k:Nat}(h:ns[k]? =some m):jK old new (k+1) ns=(jK old new k ns).set k (jm old new m):=by
 have A:=(jG h).1;unfold jK;rw[List.set_append_right _ _ (by simp;omega)];have B:ns.take (k+1)=ns.take k ++[m]:=by rw[List.take_add_one,h];rfl
 have C:ns.drop k=m ::ns.drop (k+1):=by rw[Ki A];congr 1;rw[Yb A]at h;cases h;rfl
 rw[B,C];simp[Nat.min_eq_left (Ug A)]
theorem jFv (old new:Nat) (ns:List NM):jK old new ns.length ns=ns.map (jm old new):=by unfold jK;simp
set_option maxRecDepth 100000 in
theorem jy8 (h:GM w κ b o v ns) (old new:Nat) :
 Calls Tryz.prog 125 #[.pointer (some ⟨b,o,none⟩),.int .i64 (old:Nat),.int .i64 (new:Nat)] w fun e w'=>e= .returned (.tuple #[])/\GM w' κ b o v (ns.map (jm old new))/\Fr (· =(1,0)) κ κ w w':=by
 obtain⟨a,cap,e,Z⟩:=h.form;have E:=jH e;have H:=jH h;have W:=h.big
 obtain⟨n,hn⟩:∃n,ns.length=n:=⟨_,rfl⟩
 have A:=jH hn;rw[hn]at W;clear h e Z hn
 go_enter Tryz.func125,Tryz.ntmps125
 go_wp2_with fail
 go_loopg [6] n (fun gh s6 (wr:World)=>∃k:Nat,k<=n/\gh=n-k/\s6= .int .i64 (k:Nat)/\GM wr κ b o v (jK old new k ns)/\Fr (· =(1,0)) κ κ w wr)
 case atStart=>exact⟨0,by omega,rfl,rfl,H.o,Fr.refl _ _ _⟩
 case round=>
  obtain⟨k,hk,h3,rfl,B,hf⟩:=hrel;have I:=jH B;have HF:=jH hf;have hc:=B.at';rw[E.o,A.o]at hc;have hb:=B.lt;clear B hf
  by_cases O:k<n
  .have g1:(k:Int)<(n:Int):=by omega
   obtain⟨m,Y⟩:∃m,ns[k]? =some m:=⟨_,Yb (by rw[A.o];exact O)⟩
   obtain⟨g,h0,U,h1,h2,c0,c1,c2⟩:=I.o.node (jvU (old:=old) (new:=new) Y);rw[jrX,A.o,E.o]at U;rw[A.o]at U;cases U
   have hz:=(by have:=I.o.row;rw[E.o,jrX,A.o]at this;exact this.frz (k*3+2):wr.frozen? ⟨g,k*3+2,none⟩=false)
   obtain⟨C,F⟩:∃C,m.f=C:=⟨_,rfl⟩
   rw[F]at c2;rw[jrX,A.o]at h1;have K:=jH Y;have R:=jH F;clear c0 c1 Y F
   by_cases hq:C=old
   .subst hq
    have HS:=jH (show GM wr κ b o (.slice (some ⟨g,0,none⟩) (jK C new k ns).length cap) (jK C new k ns) by have:=I.o;rw[E.o,A.o]at this;rw[jrX,A.o];exact this)
    go_wp2_with fail
    obtain⟨p1,p2⟩:=HS.o.setF (jvU K.o) new
    go_roundg (n-(k+1))
    case measure=>omega
    case rel=>
     refine⟨k+1,by omega,rfl,by go_num,?_,HF.o.trans p2⟩;rw[jrX,A.o]at p1;rw[E.o,A.o,jze K.o];unfold jm;rw[if_pos R.o];exact p1
   .have u1:((C:Int) == (old:Int))=false:=by rw[Kl];omega
    go_wp2_with fail
    go_roundg (n-(k+1))
    case measure=>omega
    case rel=>
     refine⟨k+1,by omega,rfl,by go_num,?_,HF.o⟩
     have hs:(jK old new k ns).set k (jm old new m)=jK old new k ns:=by
      unfold jm;rw[if_neg (by rw[R.o];exact hq)];apply List.ext_getElem?;intro j;rw[List.getElem?_set]
      split
      .rename_i e;subst e
       rw[if_pos (by rw[jrX,A.o];exact O),jvU K.o]
      .rfl
     rw[jze K.o,hs];exact I.o
  .have:k=n:=by omega
   subst this
   go_wp2_with fail
   go_returns;have B:=I.o;rw[<-A.o,jFv]at B;exact⟨rfl,B,HF.o⟩
end Tg
namespace Inf
structure Ty where
 k:Nat
 xs:List Nat
abbrev Tys:=List Ty
abbrev Dem:=List (Nat × Nat)
inductive Rel (ts:Tys) (D:Dem):Nat->Nat->Prop where
 |refl (i:Nat):Rel ts D i i
 |symm {i j:Nat}(h:Rel ts D i j):Rel ts D j i
 |trans {i j k:Nat}(h:Rel ts D i j) (h':Rel ts D j k):Rel ts D i k
 |dem {a b:Nat}(h:(a,b) ∈ D):Rel ts D a b
 |kid {i j k m a b:Nat}{xs ys:List Nat}(h:Rel ts D i j) (hi:ts[i]? =some ⟨k,xs⟩) (hj:ts[j]? =some ⟨k,ys⟩) (hk:k≠0) (hl:xs.length=ys.length) (ha:xs[m]? =some a) (hb:ys[m]? =some b):Rel ts D a b
def Clash (ts:Tys) (D:Dem):Prop:=∃i j k k' xs ys,Rel ts D i j/\ts[i]? =some ⟨k,xs⟩/\ts[j]? =some ⟨k',ys⟩/\k≠0/\k'≠0/\(k≠k'\/xs.length≠ys.length)
def Sub (ts:Tys) (D:Dem) (j i:Nat):Prop:=∃i' k xs a,Rel ts D i i'/\ts[i']? =some ⟨k,xs⟩/\k≠0/\a ∈ xs/\Rel ts D a j
def Fin (ts:Tys) (D:Dem):Prop:=∀i,Acc (Sub ts D) i
def Ok (ts:Tys) (D:Dem):Prop:=¬Clash ts D/\Fin ts D
variable {ts:Tys}{D:Dem}{i j:Nat}
theorem Rel.mono {D':Dem}(A:∀p ∈ D,p ∈ D') (h:Rel ts D i j):Rel ts D' i j:=by
 induction h with
 |refl i=>exact .refl i
 |symm _ ih=>exact ih.symm
 |trans _ _ ih ih'=>exact ih.trans ih'
 |dem h=>exact .dem (A _ h)
 |kid _ hi hj hk hl ha hb ih=>exact .kid ih hi hj hk hl ha hb
structure Rp (ts:Tys) (D:Dem) (f:Nat->Nat):Prop where
 eq:∀i j,f i=f j↔Rel ts D i j
 idm:∀i,f (f i)=f i
 hd:∀i k xs,ts[i]? =some ⟨k,xs⟩->k≠0->∃k' ys,ts[f i]? =some ⟨k',ys⟩/\k'≠0
inductive Eg (f:Nat->Nat) (ps:Dem):Nat->Nat->Prop where
 |eq {a b:Nat}(h:f a=f b):Eg f ps a b
 |pd {a b:Nat}(h:(a,b) ∈ ps):Eg f ps a b
 |symm {a b:Nat}(h:Eg f ps a b):Eg f ps b a
 |trans {a b c:Nat}(h:Eg f ps a b) (h':Eg f ps b c):Eg f ps a c
variable {f:Nat->Nat}{ps:Dem}{a b:Nat}
theorem Eg.lift {g:Nat->Nat}{qs:Dem}(B:∀a b,f a=f b->Eg g qs a b) (A:∀a b,(a,b) ∈ ps->Eg g qs a b) (h:Eg f ps a b):Eg g qs a b:=by
 induction h with
 |eq h=>exact B _ _ h
 |pd h=>exact A _ _ h
 |symm _ ih=>exact ih.symm
 |trans _ _ ih ih'=>exact ih.trans ih'
theorem Eg.done (h:Eg f [] a b):f a=f b:=by
 induction h with
 |eq h=>exact h
 |pd h=>cases h
 |symm _ ih=>exact ih.symm
 |trans _ _ ih ih'=>exact ih.trans ih'
structure Ip (ts:Tys) (D:Dem) (f:Nat->Nat) (ps:Dem):Prop where
 snd:∀i j,f i=f j->Rel ts D i j
 pnd:∀a b,(a,b) ∈ ps->Rel ts D a b
 idm:∀i,f (f i)=f i
 hd:∀i k xs,ts[i]? =some ⟨k,xs⟩->k≠0->∃k' ys,ts[f i]? =some ⟨k',ys⟩/\k'≠0
 kk:∀i j k k' xs ys,f i=f j->ts[i]? =some ⟨k,xs⟩->ts[j]? =some ⟨k',ys⟩->k≠0->k'≠0->k=k'/\xs.length=ys.length
 cls:∀(i j k m a b:Nat) (xs ys:List Nat),f i=f j->ts[i]? =some ⟨k,xs⟩->ts[j]? =some ⟨k,ys⟩->k≠0->xs[m]? =some a->ys[m]? =some b->Eg f ps a b
 dem:∀a b,(a,b) ∈ D->Eg f ps a b
theorem Ip.done {ts:Tys}{D:Dem}{f:Nat->Nat}(h:Ip ts D f []):Rp ts D f/\¬Clash ts D:=by
 have back:∀i j,Rel ts D i j->f i=f j:=by
  intro i j C
  induction C with
  |refl i=>rfl
  |symm _ ih=>exact ih.symm
  |trans _ _ ih ih'=>exact ih.trans ih'
  |dem hd=>exact(h.dem _ _ hd).done
  |kid _ hi B hk hl ha hb ih=>exact(h.cls _ _ _ _ _ _ _ _ ih hi B hk ha hb).done
 refine⟨⟨fun i j=>⟨h.snd i j,back i j⟩,h.idm,h.hd⟩,?_⟩;rintro ⟨i,j,k,I,xs,ys,C,hi,B,hk,E,A⟩;obtain⟨F,H⟩:=h.kk i j k I xs ys (back _ _ C) hi B hk E;rcases A with A|A
 .exact A F
 .exact A H
theorem Rp.start (h:Rp ts D f) (C:¬Clash ts D) (a b:Nat):Ip ts (D ++[(a,b)]) f [(a,b)]:=by
 have up:∀i j,Rel ts D i j->Rel ts (D ++[(a,b)]) i j:=fun i j B=>B.mono (fun p A=>Uj _ A);refine⟨fun i j e=>up _ _ ((h.eq i j).1 e),fun x y A=>.dem (List.mem_append_right _ A),h.idm,h.hd,?_,?_,?_⟩
 .intro i j k k' xs ys e hi hj hk hk'
  have B:=(h.eq i j).1 e;refine⟨Yt fun hne=>C ⟨i,j,k,k',xs,ys,B,hi,hj,hk,hk',.inl hne⟩,Yt fun hne=>C ⟨i,j,k,k',xs,ys,B,hi,hj,hk,hk',.inr hne⟩⟩
 .intro i j k m x y xs ys e hi hj hk hx hy
  have B:=(h.eq i j).1 e;have E:xs.length=ys.length:=Yt fun hne=>C ⟨i,j,k,k,xs,ys,B,hi,hj,hk,hk,.inr hne⟩;exact .eq ((h.eq _ _).2 (.kid B hi hj hk E hx hy))
 .intro x y A
  rcases Yq.1 A with A|A
  .exact .eq ((h.eq _ _).2 (.dem A))
  .exact .pd A
def jn (f:Nat->Nat) (old new:Nat):Nat->Nat:=fun i=>if f i=old then new else f i
variable {o n:Nat}
theorem jrV (h:f i=o):jn f o n i=n:=by unfold jn;rw[if_pos h]
theorem jn_new (h:f i≠o):jn f o n i=f i:=by unfold jn;rw[if_neg h]
theorem jtz (h:f i=f j):jn f o n i=jn f o n j:=by unfold jn;rw[h]
variable {x y:Nat}
theorem jvO (B:∀i,f (f i)=f i) (C:f x≠f y) (h:jn f (f x) (f y) i=jn f (f x) (f y) j):f i=f j\/(f i=f x/\f j=f y)\/(f i=f y/\f j=f x):=by
 unfold jn at h
 by_cases A:f i=f x
 .by_cases h2:f j=f x
  .exact .inl (A.trans h2.symm)
  .rw[if_pos A,if_neg h2]at h;exact .inr (.inl ⟨A,h.symm⟩)
 .by_cases h2:f j=f x
  .rw[if_neg A,if_pos h2]at h;exact .inr (.inr ⟨h,h2⟩)
  .rw[if_neg A,if_neg h2]at h;exact .inl h
theorem jn_idm (A:∀i,f (f i)=f i) (B:f x≠f y) (i:Nat):jn f (f x) (f y) (jn f (f x) (f y) i)=jn f (f x) (f y) i:=by
 by_cases C:f i=f x
 .rw[jrV C,jn_new (by rw[A];exact Ne.symm B),A]
 .rw[jn_new C,jn_new (by rw[A];exact C),A]
theorem Ip.join {qs:Dem}(h:Ip ts D f ((a,b) ::ps)) (h3:(x=a/\y=b)\/(x=b/\y=a)) (I:f x≠f y)
 (hq:∀u v,(u,v) ∈ qs->Rel ts D u v)
 (ho:(∀k xs,ts[f x]? =some ⟨k,xs⟩->k=0)\/((∃k xs,ts[f y]? =some ⟨k,xs⟩/\k≠0)/\((∀k xs,ts[f x]? =some ⟨k,xs⟩->k=0)\/∃k us vs,ts[f x]? =some ⟨k,us⟩/\ts[f y]? =some ⟨k,vs⟩/\k≠0/\us.length=vs.length/\∀(m u v:Nat),us[m]? =some u->vs[m]? =some v->Eg f (qs ++ps) u v))) :
 Ip ts D (jn f (f x) (f y)) (qs ++ps):=by
 have h6:=h.pnd a b Kx
 have Y:Rel ts D x y:=by
  rcases h3 with⟨rfl,rfl⟩|⟨rfl,rfl⟩
  .exact h6
  .exact h6.symm
 have F:∀u v,Eg f ((a,b) ::ps) u v->Eg (jn f (f x) (f y)) (qs ++ps) u v:=by
  intro u v hE;refine hE.lift (fun u v e=>.eq (jtz e)) (fun u v C=>?_);rcases Kk.1 C with C|C
  .cases C
   have e:jn f (f x) (f y) x=jn f (f x) (f y) y:=by rw[jrV rfl,jn_new (Ne.symm I)]
   rcases h3 with⟨rfl,rfl⟩|⟨rfl,rfl⟩
   .exact .eq e
   .exact .eq e.symm
  .exact .pd (List.mem_append_right _ C)
 have h4:∀u v,Eg f (qs ++ps) u v->Eg (jn f (f x) (f y)) (qs ++ps) u v:=fun u v hE=>hE.lift (fun u v e=>.eq (jtz e)) (fun u v C=>.pd C)
 have opn:(∀k xs,ts[f x]? =some ⟨k,xs⟩->k=0)->∀i k xs,f i=f x->ts[i]? =some ⟨k,xs⟩->k=0:=by
  intro R i k xs e hi;refine Yt fun hk=>?_;obtain⟨O,ys,h1,h2⟩:=h.hd i k xs hi hk;rw[e]at h1;exact h2 (R _ _ h1)
 have E:∀i j k O xs ys,f i=f x->f j=f y->ts[i]? =some ⟨k,xs⟩->ts[j]? =some ⟨O,ys⟩->k≠0->O≠0->(k=O/\xs.length=ys.length)/\∀(m u v:Nat),xs[m]? =some u->ys[m]? =some v->Eg (jn f (f x) (f y)) (qs ++ps) u v:=by
  intro i j k O xs ys ei ej hi H hk K
  rcases ho with R|⟨_,R|⟨k0,us,vs,U,W,Z,hl,hm⟩⟩
  .exact absurd (opn R i k xs ei hi) hk
  .exact absurd (opn R i k xs ei hi) hk
  .have A:f i=f (f x):=ei.trans (h.idm x).symm
   have B:f (f y)=f j:=(h.idm y).trans ej.symm;obtain⟨rfl,l1⟩:=h.kk _ _ _ _ _ _ A hi U hk Z;obtain⟨rfl,l2⟩:=h.kk _ _ _ _ _ _ B W H Z K;refine⟨⟨rfl,by omega⟩,fun m u v hmu hmv=>?_⟩;have k2:=(List.getElem?_eq_some_iff.1 hmu).1
   obtain⟨u',h5⟩:∃u',us[m]? =some u':=⟨_,Yb (by omega)⟩
   obtain⟨v',h7⟩:∃v',vs[m]? =some v':=⟨_,Yb (by omega)⟩
   exact((F _ _ (h.cls _ _ _ _ _ _ _ _ A hi U hk hmu h5)).trans (h4 _ _ (hm m u' v' h5 h7))).trans (F _ _ (h.cls _ _ _ _ _ _ _ _ B W H Z h7 hmv))
 refine⟨?_,?_,jn_idm h.idm I,?_,?_,?_,fun u v hd=>F _ _ (h.dem u v hd)⟩
 .intro i j e
  rcases jvO h.idm I e with e|⟨A,B⟩|⟨A,B⟩
  .exact h.snd _ _ e
  .exact((h.snd _ _ A).trans Y).trans (h.snd _ _ B).symm
  .exact((h.snd _ _ A).trans Y.symm).trans (h.snd _ _ B).symm
 .intro u v C
  rcases Yq.1 C with C|C
  .exact hq u v C
  .exact h.pnd u v (Yv _ C)
 .intro i k xs hi hk
  by_cases e:f i=f x
  .rw[jrV e]
   rcases ho with R|⟨⟨k1,h8,hy,h9⟩,_⟩
   .exact absurd (opn R i k xs e hi) hk
   .exact⟨k1,h8,hy,h9⟩
  .rw[jn_new e];exact h.hd i k xs hi hk
 .intro i j k O xs ys e hi H hk K
  rcases jvO h.idm I e with e|⟨A,B⟩|⟨A,B⟩
  .exact h.kk _ _ _ _ _ _ e hi H hk K
  .exact(E i j k O xs ys A B hi H hk K).1
  .have:=(E j i O k ys xs B A H hi K hk).1
   exact⟨this.1.symm,this.2.symm⟩
 .intro i j k m u v xs ys e hi H hk U W
  rcases jvO h.idm I e with e|⟨A,B⟩|⟨A,B⟩
  .exact F _ _ (h.cls _ _ _ _ _ _ _ _ e hi H hk U W)
  .exact(E i j k k xs ys A B hi H hk hk).2 m u v U W
  .exact((E j i k k ys xs B A H hi hk hk).2 m v u W U).symm
def kd (ts:Tys) (i:Nat):Nat:=(ts[i]?.map (·.k)).getD 0
def kids (ts:Tys) (i:Nat):List Nat:=(ts[i]?.map (·.xs)).getD []
theorem jvM (h:kd ts i=0):∀k xs,ts[i]? =some ⟨k,xs⟩->k=0:=by
 intro k xs hi;unfold kd at h;rw[hi]at h;exact h
theorem jo7 (h:kd ts i≠0):ts[i]? =some ⟨kd ts i,kids ts i⟩:=by
 unfold kd kids at *
 cases e :ts[i]? with
 |none=>rw[e]at h;exact absurd rfl h
 |some t=>rfl
inductive Mg (ts:Tys):(Nat->Nat)->Dem->Bool->(Nat->Nat)->Prop where
 |nil (f:Nat->Nat):Mg ts f [] true f
 |one {f f':Nat->Nat}{a b:Nat}{ps:Dem}{r:Bool}(h:f a=f b) (h':Mg ts f ps r f'):Mg ts f ((a,b) ::ps) r f'
 |opL {f f':Nat->Nat}{a b:Nat}{ps:Dem}{r:Bool}(h:f a≠f b) (hk:kd ts (f a)=0) (h':Mg ts (jn f (f a) (f b)) ps r f'):Mg ts f ((a,b) ::ps) r f'
 |opR {f f':Nat->Nat}{a b:Nat}{ps:Dem}{r:Bool}(h:f a≠f b) (hk:kd ts (f a)≠0) (hk':kd ts (f b)=0) (h':Mg ts (jn f (f b) (f a)) ps r f'):Mg ts f ((a,b) ::ps) r f'
 |bad {f:Nat->Nat}{a b:Nat}{ps:Dem}(h:f a≠f b) (hk:kd ts (f a)≠0) (hk':kd ts (f b)≠0) (hc:kd ts (f a)≠kd ts (f b)\/(kids ts (f a)).length≠(kids ts (f b)).length):Mg ts f ((a,b) ::ps) false (jn f (f b) (f a))
 |go {f f':Nat->Nat}{a b:Nat}{ps:Dem}{r:Bool}(h:f a≠f b) (hk:kd ts (f a)≠0) (hc:kd ts (f a)=kd ts (f b)) (hl:(kids ts (f a)).length=(kids ts (f b)).length) (h':Mg ts (jn f (f b) (f a)) ((kids ts (f a)).zip (kids ts (f b)) ++ps) r f'):Mg ts f ((a,b) ::ps) r f'
theorem zip_at {xs ys:List Nat}{m u v:Nat}(h:xs[m]? =some u) (A:ys[m]? =some v):(u,v) ∈ xs.zip ys:=by
 apply Yo (i:=m);rw[List.getElem?_zip_eq_some];exact⟨h,A⟩
theorem jwN {xs ys:List Nat}{u v:Nat}(h:(u,v) ∈ xs.zip ys):∃m:Nat,xs[m]? =some u/\ys[m]? =some v:=by
 obtain⟨m,A⟩:=List.getElem?_of_mem h;exact⟨m,List.getElem?_zip_eq_some.1 A⟩
theorem Mg.ok {B:Nat->Nat}{r:Bool}(h:Mg ts f ps r B) (hi:Ip ts D f ps):(r=true->Ip ts D B [])/\(r=false->Clash ts D):=by
 induction h with
 |nil f=>exact⟨fun _=>hi,fun h=>by cases h⟩
 |one e _ ih=>
  refine ih ⟨hi.snd,fun u v A=>hi.pnd u v (Yv _ A),hi.idm,hi.hd,hi.kk,fun i j k m a b xs ys e1 E H h3 h4 h5=>?_,fun a b hd=>?_⟩
  .refine(hi.cls i j k m a b xs ys e1 E H h3 h4 h5).lift (fun _ _ e=>.eq e) (fun u v A=>?_)
   rcases Kk.1 A with A|A
   .cases A;exact .eq e
   .exact .pd A
  .refine(hi.dem a b hd).lift (fun _ _ e=>.eq e) (fun u v A=>?_)
   rcases Kk.1 A with A|A
   .cases A;exact .eq e
   .exact .pd A
 |opL hne hk _ ih=>exact ih (hi.join (qs:=[]) (.inl ⟨rfl,rfl⟩) hne (fun _ _ h=>by cases h) (.inl (jvM hk)))
 |opR hne hk hk' _ ih=>exact ih (hi.join (qs:=[]) (.inr ⟨rfl,rfl⟩) (Ne.symm hne) (fun _ _ h=>by cases h) (.inl (jvM hk')))
 |@bad f a b ps hne hk hk' hc=>
  refine⟨fun h=>(by cases h),fun _=>⟨f a,f b,_,_,_,_,?_,jo7 hk,jo7 hk',hk,hk',hc⟩⟩;exact((hi.snd _ _ (hi.idm a)).trans (hi.pnd a b Kx)).trans (hi.snd _ _ (hi.idm b)).symm
 |@go f B a b ps r hne hk hc hl _ ih=>
  have I:Rel ts D (f a) (f b):=((hi.snd _ _ (hi.idm a)).trans (hi.pnd a b Kx)).trans (hi.snd _ _ (hi.idm b)).symm;have C:=jo7 hk;have F:=jo7 (ts:=ts) (i:=f b) (by rw[<-hc];exact hk);rw[<-hc]at F;refine ih (hi.join (.inr ⟨rfl,rfl⟩) (Ne.symm hne) (fun u v A=>?_) (.inr ⟨⟨_,_,C,hk⟩,.inr ⟨_,_,_,F,C,hk,hl.symm,fun m u v hu hv=>.symm (.pd (Uj _ (zip_at hv hu)))⟩⟩));obtain⟨m,E,H⟩:=jwN A;exact .kid I C F hk hl E H
end Inf
namespace Tg
open Go.RowKit
def fnN (ns:List NM) (i:Nat):Nat:=(ns[i]?.map (·.f)).getD i
def tsN (ns:List NM):Inf.Tys:=ns.map fun m=>⟨m.k,m.xs.map Int.toNat⟩
structure WN (ns:List NM):Prop where
 lt:∀(i:Nat) (m:NM),ns[i]? =some m->m.f<ns.length
 idm:∀i,fnN ns (fnN ns i)=fnN ns i
 kid:∀(i:Nat) (m:NM),ns[i]? =some m->∀x ∈ m.xs,0<=x/\x<(ns.length:Nat)
def cnt (ns:List NM):Nat:=(List.range ns.length).countP fun i=>fnN ns i == i
def Sh (ns ns':List NM):Prop:=ns'.map (fun m=>(m.k,m.xs,m.v))=ns.map (fun m=>(m.k,m.xs,m.v))
theorem Sh.refl (ns:List NM):Sh ns ns:=rfl
theorem Sh.trans {a b c:List NM}(h:Sh a b) (A:Sh b c):Sh a c:=Eq.trans A h
theorem Sh.len {a b:List NM}(h:Sh a b):b.length=a.length:=by have:=congrArg List.length h;simpa using this
theorem Sh.ts {a b:List NM}(h:Sh a b):tsN b=tsN a:=by
 have:=congrArg (List.map fun(q:Nat × List Int × Value)=>(⟨q.1,q.2.1.map Int.toNat⟩:Inf.Ty)) h;rw[List.map_map,List.map_map]at this;exact this
variable {ns:List NM}{i:Nat}{m:NM}
theorem jcu (h:ns[i]? =some m):fnN ns i=m.f:=by unfold fnN;rw[h];rfl
theorem jrJ (old new:Nat) (ns:List NM):Sh ns (ns.map (jm old new)):=by
 unfold Sh;rw[List.map_map];refine List.map_congr_left fun m _=>?_;show((jm old new m).k,(jm old new m).xs,(jm old new m).v)=_;unfold jm
 split <;> rfl
variable {old new:Nat}
theorem jrq (C:old<ns.length):fnN (ns.map (jm old new))=Inf.jn (fnN ns) old new:=by
 funext i
 cases h :ns[i]? with
 |none=>
  have:=List.getElem?_eq_none_iff.1 h;have B:fnN ns i=i:=by unfold fnN;rw[h];rfl
  have A:fnN (ns.map (jm old new)) i=i:=by unfold fnN;rw[Yr,h];rfl
  rw[A,Inf.jn_new (by rw[B];omega),B]
 |some m=>
  have A:fnN (ns.map (jm old new)) i=(jm old new m).f:=by unfold fnN;rw[Yr,h];rfl
  rw[A];unfold Inf.jn jm;rw[jcu h]
  split <;> rfl
theorem countP_lt {p q:Nat->Bool}:∀{l:List Nat}{a:Nat},a ∈ l->(∀x ∈ l,p x=true->q x=true)->q a=true->p a=false->l.countP p<l.countP q
 |x ::l,a,A,h,hq,hp=>by
  have C:l.countP p<=l.countP q:=List.countP_mono_left (fun y hy=>h y (Yv _ hy));rcases Kk.1 A with rfl|A
  .rw[List.countP_cons_of_pos hq,List.countP_cons_of_neg (by rw[hp];decide)]
   omega
  .have:=countP_lt A (fun y hy=>h y (Yv _ hy)) hq hp
   rw[List.countP_cons,List.countP_cons];have B:=h x Kx
   by_cases c:p x=true
   .rw[if_pos c,if_pos (B c)];omega
   .rw[if_neg c];split <;> omega
theorem jAc (B:old<ns.length) (A:old≠new) (C:fnN ns old=old) (E:fnN ns new=new):cnt (ns.map (jm old new))<cnt ns:=by
 unfold cnt;rw[Ua];refine countP_lt (a:=old) (Ub.2 B) (fun x _ hx=>?_) (by rw[C];simp) ?_
 .rw[jrq B]at hx
  unfold Inf.jn at hx;simp only[Yn]at hx ⊢
  split at hx
  .rename_i e
   subst hx;rw[E]at e;exact absurd e.symm A
  .exact hx
 .rw[jrq B]
  unfold Inf.jn;rw[if_pos C];simp;exact Ne.symm A
theorem jw4 (h:WN ns) (E:old<ns.length) (F:new<ns.length) (A:old≠new) (B:fnN ns old=old) (C:fnN ns new=new):WN (ns.map (jm old new)):=by
 refine⟨fun i m hi=>?_,fun i=>?_,fun i m hi x hx=>?_⟩
 .rw[Yr]at hi
  cases hm :ns[i]? with
  |none=>rw[hm]at hi;cases hi
  |some m0=>
   rw[hm]at hi;cases hi;have:=h.lt i m0 hm;rw[Ua];unfold jm
   split
   .exact F
   .exact this
 .rw[jrq E]
  have:=Inf.jn_idm (f:=fnN ns) h.idm (x:=old) (y:=new) (by rw[B,C];exact A) i;rw[B,C]at this;exact this
 .rw[Yr]at hi
  cases hm :ns[i]? with
  |none=>rw[hm]at hi;cases hi
  |some m0=>
   rw[hm]at hi;cases hi;rw[Ua];refine h.kid i m0 hm x ?_;unfold jm at hx
   split at hx <;> exact hx
theorem jpP (h:ns[i]? =some m):Inf.kd (tsN ns) i=m.k/\Inf.kids (tsN ns) i=m.xs.map Int.toNat:=by
 unfold Inf.kd Inf.kids tsN;rw[Yr,h];exact⟨rfl,rfl⟩
def MP (κ:Kp) (b o:Nat) (v:Value) (ns:List NM) (ps:Inf.Dem) (w:World) (e:Ending) (w':World):Prop:=
 ∃r ns',e= .returned (.bool r)/\GM w' κ b o v ns'/\WN ns'/\Sh ns ns'/\cnt ns'<=cnt ns/\Fr (· =(1,0)) κ κ w w'/\
  (r=true->∀qs r2 f2,Inf.Mg (tsN ns) (fnN ns') qs r2 f2->Inf.Mg (tsN ns) (fnN ns) (ps ++qs) r2 f2)/\(r=false->∀qs,Inf.Mg (tsN ns) (fnN ns) (ps ++qs) false (fnN ns'))
def MC (κ:Kp) (b o:Nat) (v:Value) (c:Nat):Prop:=∀(w:World) (ns:List NM) (x y:Nat),GM w κ b o v ns->WN ns->cnt ns<=c->x<ns.length->y<ns.length->
 Calls Tryz.prog 122 #[.pointer (some ⟨b,o,none⟩),.int .i64 (x:Nat),.int .i64 (y:Nat)] w (MP κ b o v ns [(x,y)] w)
def AC (κ:Kp) (b o:Nat) (v:Value) (c:Nat):Prop:=∀(w:World) (ns:List NM) (p q:Nat) (ml mr:NM),GM w κ b o v ns->WN ns->cnt ns<=c->ns[p]? =some ml->ns[q]? =some mr->ml.xs.length=mr.xs.length->
 Calls Tryz.prog 126 #[.pointer (some ⟨b,o,none⟩),ml.v,mr.v] w (MP κ b o v ns ((ml.xs.map Int.toNat).zip (mr.xs.map Int.toNat)) w)
variable {κ:Kp}{b o:Nat}{v:Value}{w:World}
theorem MP.yes {A:List NM}{ps:Inf.Dem}{w':World}(C:GM w' κ b o v A) (E:WN A) (hs:Sh ns A) (F:cnt A<=cnt ns) (B:Fr (· =(1,0)) κ κ w w')
 (h:∀qs r2 f2,Inf.Mg (tsN ns) (fnN A) qs r2 f2->Inf.Mg (tsN ns) (fnN ns) (ps ++qs) r2 f2):MP κ b o v ns ps w (.returned (.bool true)) w':=⟨true,A,rfl,C,E,hs,F,B,fun _=>h,fun h=>by cases h⟩
theorem MP.no {A:List NM}{ps:Inf.Dem}{w':World}(C:GM w' κ b o v A) (E:WN A) (hs:Sh ns A) (F:cnt A<=cnt ns) (B:Fr (· =(1,0)) κ κ w w')
 (h:∀qs,Inf.Mg (tsN ns) (fnN ns) (ps ++qs) false (fnN A)):MP κ b o v ns ps w (.returned (.bool false)) w':=⟨false,A,rfl,C,E,hs,F,B,fun h=>(by cases h),fun _=>h⟩
theorem jIL {A w2 W:World}{o1 E:Obj}(C:Below w.heap.size w A) (B:Below (A.alloc o1).heap.size (A.alloc o1) w2) (H:w2.alloc E=W):Below w.heap.size w W/\W.heap[A.heap.size]? =some o1/\W.heap[w2.heap.size]? =some E/\w.heap.size<=A.heap.size/\A.heap.size<w2.heap.size:=by
 subst H;have z1:=C.size;have z2:=B.size;rw[Ya]at z2;have I:Below A.heap.size A (A.alloc o1):=jB.alloc jN _;have F:Below w2.heap.size w2 (w2.alloc E):=jB.alloc jN _;have n1:(A.alloc o1).heap[A.heap.size]? =some o1:=jg A o1;refine⟨((C.trans (I.mono z1)).trans (B.mono (by rw[Ya];omega))).trans (F.mono (by omega)),?_,jg w2 E,z1,by omega⟩;rw[F.block _ (by omega),B.block _ (by rw[Ya];omega)];exact n1
theorem jER {nl cl nr cr:Nat}{al ar:Option Addr}(h:nl≠nr) (A:nl<=100000) (B:nr<=100000) :
 Calls Tryz.prog 126 #[.pointer (some ⟨b,o,none⟩),.slice al nl cl,.slice ar nr cr] w fun e w'=>e= .returned (.bool false)/\w'=w:=by
 have u1:((nl:Int) == (nr:Int))=false:=by rw[Kl];omega
 have u2:((nl:Int) != (nr:Int))=true:=by rw[bne_iff_ne];omega
 go_enter Tryz.func126,Tryz.ntmps126
 go_wp2_with fail
 go_returns;exact⟨rfl,rfl⟩
theorem jy9 (h:ns[i]? =some m):(ns.map (jm old new))[i]? =some (jm old new m):=by rw[Yr,h];rfl
theorem jrW (old new:Nat) (m:NM):(jm old new m).k=m.k/\(jm old new m).xs=m.xs/\(jm old new m).v=m.v:=by unfold jm;split <;> exact⟨rfl,rfl,rfl⟩
set_option maxRecDepth 100000 in
theorem jEP {c:Nat}(hA:AC κ b o v c):MC κ b o v (c+1):=by
 intro w ns x y hG hW hc hx hy
 obtain⟨mx,h3⟩:∃m,ns[x]? =some m:=⟨_,Yb hx⟩
 obtain⟨my,h1⟩:∃m,ns[y]? =some m:=⟨_,Yb hy⟩
 obtain⟨l,hl⟩:∃l,mx.f=l:=⟨_,rfl⟩
 obtain⟨r,hr⟩:∃r,my.f=r:=⟨_,rfl⟩
 have ln:l<ns.length:=by rw[<-hl];exact hW.lt x mx h3
 have rn:r<ns.length:=by rw[<-hr];exact hW.lt y my h1
 obtain⟨F,I⟩:∃m,ns[l]? =some m:=⟨_,Yb ln⟩
 obtain⟨H,O⟩:∃m,ns[r]? =some m:=⟨_,Yb rn⟩
 have ex:fnN ns x=l:=by rw[jcu h3,hl]
 have B:fnN ns y=r:=by rw[jcu h1,hr]
 have el:fnN ns l=l:=by rw[<-ex];exact hW.idm x
 have er:fnN ns r=r:=by rw[<-B];exact hW.idm y
 have fl:F.f=l:=by rw[<-jcu I];exact el
 have fr:H.f=r:=by rw[<-jcu O];exact er
 have r6:Hid (∀W,Below w.heap.size w W->Calls Tryz.prog 70 #[.pointer (some ⟨b,o,none⟩),.int .i64 (x:Nat)] W fun e w'=>e= .returned (.int .i64 (l:Nat))/\w'=W):=fun W h=>by have:=jtO (hG.on h) h3;rw[hl]at this;exact this
 have r7:Hid (∀W,Below w.heap.size w W->Calls Tryz.prog 70 #[.pointer (some ⟨b,o,none⟩),.int .i64 (y:Nat)] W fun e w'=>e= .returned (.int .i64 (r:Nat))/\w'=W):=fun W h=>by have:=jtO (hG.on h) h1;rw[hr]at this;exact this
 have HG:=jH hG;have HW:=jH hW
 by_cases E:l=r
 .subst E
  clear hG h3 h1 hl hr I O hx hy
  go_enter Tryz.func122,Tryz.ntmps122
  go_wp2_with (first
   |(go_at_call_of 70 x;refine(r6.o _ jB).mono ?_;rintro _ w1 ⟨rfl,A⟩;have A:=A.symm;subst A)
   |(go_at_call_of 70 y;refine(r7.o _ jB).mono ?_;rintro _ w1 ⟨rfl,A⟩;have A:=A.symm;subst A))
  go_returns;exact MP.yes HG.o HW.o (Sh.refl _) jN (Fr.refl _ _ _) (fun qs r2 f2 h=>.one (ex.trans B.symm) h)
 .have hlr':((l:Int) == (r:Int))=false:=by rw[Kl];omega
  have q5:Hid (∀W,Below w.heap.size w W->Calls Tryz.prog 35 #[.pointer (some ⟨b,o,none⟩),.int .i64 (l:Nat)] W fun e w'=>e= .returned (.agg #[.int .i64 (F.k:Nat),F.v,.int .i64 (l:Nat)])/\Below W.heap.size W w'):=fun W h=>by have:=jtr (hG.on h) I (by rw[fl];exact I);rw[fl]at this;exact this
  have q8:Hid (∀W,Below w.heap.size w W->Calls Tryz.prog 35 #[.pointer (some ⟨b,o,none⟩),.int .i64 (r:Nat)] W fun e w'=>e= .returned (.agg #[.int .i64 (H.k:Nat),H.v,.int .i64 (r:Nat)])/\Below W.heap.size W w'):=fun W h=>by have:=jtr (hG.on h) O (by rw[fr];exact O);rw[fr]at this;exact this
  obtain⟨al,cl,q7,_⟩:=(hG.kds l F I).any;obtain⟨ar,cr,q9,_⟩:=(hG.kds r H O).any;rw[q7]at q5;rw[q9]at q8;have K:=jH I;have R:=jH O
  obtain⟨kl,q4⟩:∃kl,F.k=kl:=⟨_,rfl⟩
  obtain⟨kr,q6⟩:∃kr,H.k=kr:=⟨_,rfl⟩
  rw[q4]at q5;rw[q6]at q8;have v2:=jH q7;have v1:=jH q9;have r1:=jH q4;have v4:=jH q6;clear hG h3 h1 hl hr I O hx hy q7 q9 q4 q6
  go_enter Tryz.func122,Tryz.ntmps122
  go_upto_region 7 with(first
   |(go_at_call_of 70 x;refine(r6.o _ jB).mono ?_;rintro _ w1 ⟨rfl,A⟩;have A:=A.symm;subst A)
   |(go_at_call_of 70 y;refine(r7.o _ jB).mono ?_;rintro _ w1 ⟨rfl,A⟩;have A:=A.symm;subst A)
   |(go_at_call_of 35 l;refine(q5.o _ jB).mono ?_;rintro _ w1 ⟨rfl,h8⟩)
   |(go_at_call_of 35 r;refine(q8.o _ (h8.trans (jB.alloc jN _ |>.mono h8.size))).mono ?_;rintro _ w2 ⟨rfl,r4⟩))
  generalize hWW:World.alloc _ _=W;obtain⟨r3,k1,k2,s1,s2⟩:=jIL h8 r4 hWW;clear hWW h8 r4;generalize w1.heap.size=p1 at k1 s1 s2 ⊢;generalize w2.heap.size=p2 at k2 s2 ⊢;have q1:=jb k1;have q2:=jb k2;have a0:W.cell? ⟨p1,0,none⟩=some (.int .i64 (kl:Nat)):=ja k1 0 rfl;have k7:=jH r3;have v9:=jH k1;have x1:=jH k2;have t1:κ p1=none:=HG.o.top p1 s1;have t2:κ p2=none:=HG.o.top p2 (by omega);clear r3 k1 k2
  by_cases hk:kl=0
  .subst hk
   have CJ:=jH (jy8 (HG.o.on k7.o) l r)
   go_wp2_with (go_at_call 125;refine CJ.o.mono ?_;rintro _ w3 ⟨rfl,h7,U⟩)
   go_returns;have Y:=(jpP K.o).1;rw[r1.o]at Y;refine MP.yes h7 (jw4 HW.o ln rn E el er) (jrJ _ _ _) (Ug (jAc ln E el er)) ((Fr.of k7.o).trans U) (fun qs r2 f2 h=>.opL (by rw[ex,B];exact E) (by rw[ex];exact Y) ?_);rw[ex,B,<-jrq ln];exact h
  .have u0:((kl:Int) == 0)=false:=by rw[Kl];omega
   have CJ:=jH (jy8 (HG.o.on k7.o) r l)
   go_upto_region 11 with(go_at_call 125;refine CJ.o.mono ?_;rintro _ w3 ⟨rfl,h7,U⟩;have k8:=(U.rest p1 q1 (fun t ht=>by rw[t1]at ht;cases ht)).trans v9.o;have k4:=(U.rest p2 q2 (fun t ht=>by rw[t2]at ht;cases ht)).trans x1.o)
   have k5:=jH h7;have k9:=jH ((Fr.of k7.o).trans U);have b0:w3.cell? ⟨p1,0,none⟩=some (.int .i64 (kl:Nat)):=ja k8 0 rfl;have b1:w3.cell? ⟨p1,1,none⟩=some (.slice al F.xs.length cl):=ja k8 1 rfl;have d0:w3.cell? ⟨p2,0,none⟩=some (.int .i64 (kr:Nat)):=ja k4 0 rfl;have d1:w3.cell? ⟨p2,1,none⟩=some (.slice ar H.xs.length cr):=ja k4 1 rfl;have z1:=jb k8;have z2:=jb k4;have h9:=jH (jw4 HW.o rn ln (Ne.symm E) er el);have h5:=jH (jAc rn (Ne.symm E) er el);have Y:=(jpP K.o).1;rw[r1.o]at Y;have h6:=(jpP R.o).1;rw[v4.o]at h6;have h2:=jH Y;have h0:=jH h6;clear h7 U k8 k4 a0 CJ Y h6
   by_cases r8:kr=0
   .subst r8
    go_wp2_with fail
    go_returns;refine MP.yes k5.o h9.o (jrJ _ _ _) (Ug h5.o) k9.o (fun qs r2 f2 h=>.opR (by rw[ex,B];exact E) (by rw[ex,h2.o];exact hk) (by rw[B];exact h0.o) ?_);rw[ex,B,<-jrq rn];exact h
   .have u2:((kr:Int) == 0)=false:=by rw[Kl];omega
    have bad:Hid ((kl≠kr\/F.xs.length≠H.xs.length)->∀qs,Inf.Mg (tsN ns) (fnN ns) ([(x,y)] ++qs) false (fnN (ns.map (jm r l)))):=fun hc qs=>by
     rw[jrq rn]
     have:=Inf.Mg.bad (ts:=tsN ns) (f:=fnN ns) (a:=x) (b:=y) (ps:=qs) (by rw[ex,B];exact E) (by rw[ex,h2.o];exact hk) (by rw[B,h0.o];exact r8) (by
      rw[ex,B,h2.o,h0.o,(jpP K.o).2,(jpP R.o).2]
      simpa using hc)
     rw[ex,B]at this;exact this
    by_cases v0:kl=kr
    .subst v0
     have u3:((kl:Int) == (kl:Int))=true:=by simp
     by_cases C:F.xs.length=H.xs.length
     .have Z:=jH C
      clear C;have CA:=jH (hA w3 (ns.map (jm r l)) l r _ _ k5.o h9.o (by have:=h5.o;omega) (jy9 K.o) (jy9 R.o) (by rw[(jrW r l F).2.1,(jrW r l H).2.1];exact Z.o));rw[(jrW r l F).2.1,(jrW r l H).2.1,(jrW r l F).2.2,(jrW r l H).2.2,v2.o,v1.o]at CA
      go_wp2_with (go_at_call 126;refine CA.o.mono ?_;rintro _ w4 ⟨rr,v6,rfl,v7,h4,v8,x0,v5,r5,r9⟩)
      go_returns;have v3:tsN (ns.map (jm r l))=tsN ns:=(jrJ r l ns).ts;rw[v3]at r5 r9
      have wrap:∀qs r2 f2,Inf.Mg (tsN ns) (fnN (ns.map (jm r l))) ((F.xs.map Int.toNat).zip (H.xs.map Int.toNat) ++qs) r2 f2->Inf.Mg (tsN ns) (fnN ns) ([(x,y)] ++qs) r2 f2:=fun qs r2 f2 h=>by
       refine .go (by rw[ex,B];exact E) (by rw[ex,h2.o];exact hk) (by rw[ex,B,h2.o,h0.o]) (by rw[ex,B,(jpP K.o).2,(jpP R.o).2];simpa using Z.o) ?_;rw[ex,B,(jpP K.o).2,(jpP R.o).2,<-jrq rn];exact h
      exact⟨rr,v6,rfl,v7,h4,(jrJ r l ns).trans v8,Ym x0 (Ug h5.o),k9.o.trans v5,fun e qs r2 f2 h=>wrap _ _ _ (r5 e qs r2 f2 h),fun e qs=>wrap _ _ _ (r9 e qs)⟩
     .have CA:=jH (jER (w:=w3) (b:=b) (o:=o) (cl:=cl) (cr:=cr) (al:=al) (ar:=ar) C (by have:=HG.o.kb l F K.o;omega) (by have:=HG.o.kb r H R.o;omega))
      have Z:=jH C;clear C
      go_wp2_with (go_at_call 126;refine CA.o.mono ?_;rintro _ w4 ⟨rfl,h4⟩;have h4:=h4.symm;subst h4)
      go_returns;exact MP.no k5.o h9.o (jrJ _ _ _) (Ug h5.o) k9.o (bad.out (.inr Z.o))
    .have u3:((kl:Int) == (kr:Int))=false:=by rw[Kl];omega
     go_wp2_with fail
     go_returns;exact MP.no k5.o h9.o (jrJ _ _ _) (Ug h5.o) k9.o (bad.out (.inl v0))
theorem Sh.at {a b:List NM}(h:Sh a b) {i:Nat}{m:NM}(hi:a[i]? =some m):∃m',b[i]? =some m'/\m'.k=m.k/\m'.xs=m.xs/\m'.v=m.v:=by
 have e:=congrArg (fun l:List (Nat × List Int × Value)=>l[i]?) h;simp only[Yr,hi]at e
 cases hb :b[i]? with
 |none=>rw[hb]at e;cases e
 |some m'=>
  rw[hb]at e;simp at e;exact⟨m',rfl,e.1,e.2.1,e.2.2⟩
theorem jvV {l:List Int}{a:Int}(h:l[i]? =some a):(iV l)[i]? =some (.int .i64 a):=by unfold iV;rw[Yr,h];rfl
theorem jAD {l r:List Nat}{a:Nat}(C:l[i]? =some a) (B:r[i]? =some b):(l.zip r).drop i=(a,b) ::(l.zip r).drop (i+1):=by
 have h:(l.zip r)[i]? =some (a,b):=List.getElem?_zip_eq_some.2 ⟨C,B⟩;have A:=(jG h).1;rw[Ki A];rw[Yb A]at h;injection h with h
 rw[h]
set_option maxRecDepth 100000 in
theorem jyO {c:Nat}(hM:MC κ b o v c):AC κ b o v c:=by
 intro w ns p q ml mr hG hW hc hp hq h4;obtain⟨al,cl,Y,v4⟩:=(hG.kds p ml hp).any;obtain⟨ar,cr,h1,r7⟩:=(hG.kds q mr hq).any
 obtain⟨n,hn⟩:∃n,ml.xs.length=n:=⟨_,rfl⟩
 have O:mr.xs.length=n:=by rw[<-h4,hn]
 have v3:=hG.kb p ml hp;rw[hn]at Y v4 v3;rw[O]at h1 r7;rw[Y,h1]
 obtain⟨Z,hZ⟩:∃Z,(ml.xs.map Int.toNat).zip (mr.xs.map Int.toNat)=Z:=⟨_,rfl⟩
 have q4:Z.length=n:=by rw[<-hZ];simp[hn,O]
 have HZ:=jH hZ;have r6:=jH q4;rw[hZ];have HG:=jH hG;have HW:=jH hW;have HP:=jH hp;have HQ:=jH hq;have HN:=jH hn;have q8:=jH O;have k5:=jH Y;have h8:=jH h1;have HC:=jH hc;have HM:=jH hM;have u1:((n:Int) == (n:Int))=true:=by simp
 have u2:((n:Int) != (n:Int))=false:=by simp
 clear hG hW hp hq hn O Y h1 hZ q4 h4 hc hM
 go_enter Tryz.func126,Tryz.ntmps126
 go_wp2_with fail
 go_loopg [7] n (fun gh s7 (wr:World)=>∃(i:Nat) (A:List NM),i<=n/\gh=n-i/\s7= .int .i64 (i:Nat)/\GM wr κ b o v A/\WN A/\Sh ns A/\cnt A<=cnt ns/\Fr (· =(1,0)) κ κ w wr/\∀qs r2 E,Inf.Mg (tsN ns) (fnN A) (Z.drop i ++qs) r2 E->Inf.Mg (tsN ns) (fnN ns) (Z ++qs) r2 E)
 case atStart=>exact⟨0,ns,by omega,rfl,rfl,HG.o,HW.o,Sh.refl _,jN,Fr.refl _ _ _,fun qs r2 E h=>h⟩
 case round=>
  obtain⟨i,A,hi,v6,rfl,hg,hw,hs,h7,hf,k1⟩:=hrel;have h0:=jH hg;have R:=jH hw;have K:=jH hs;have U:=jH h7;have HF:=jH hf;have h3:=jH k1;clear hg hw hs h7 hf k1
  by_cases q5:i<n
  .have g1:(i:Int)<(n:Int):=by omega
   obtain⟨m1,h5,_,x1,v1⟩:=K.o.at HP.o;obtain⟨m2,h6,_,x2,v2⟩:=K.o.at HQ.o
   obtain⟨a,ha⟩:∃a,ml.xs[i]? =some a:=⟨_,Yb (by rw[HN.o];exact q5)⟩
   obtain⟨d,hd⟩:∃d,mr.xs[i]? =some d:=⟨_,Yb (by rw[q8.o];exact q5)⟩
   have ra:=R.o.kid p m1 h5 a (by rw[x1];exact Yo ha);have rd:=R.o.kid q m2 h6 d (by rw[x2];exact Yo hd)
   obtain⟨I,rfl⟩:∃I:Nat,a=I:=⟨a.toNat,by omega⟩
   obtain⟨dn,rfl⟩:∃dn:Nat,d=dn:=⟨d.toNat,by omega⟩
   have H:=h0.o.kds p m1 h5;rw[x1,v1,HN.o]at H;have F:=h0.o.kds q m2 h6;rw[x2,v2,q8.o]at F;obtain⟨g,cp,e1,e2,_,e3⟩:=H.at (by omega);obtain⟨g',v5,f1,E,_,f3⟩:=F.at (by omega);rw[k5.o]at e1;rw[h8.o]at f1;cases e1;cases f1;rw[k5.o]at H;rw[h8.o]at F;have c1:=H.cell (jvV ha);have c2:=F.cell (jvV hd)
   have k8:Hid (Z.drop i=(I,dn) ::Z.drop (i+1)):=by
    have:=jAD (l:=ml.xs.map Int.toNat) (r:=mr.xs.map Int.toNat) (i:=i) (a:=I) (b:=dn) (by rw[Yr,ha];rfl) (by rw[Yr,hd];rfl);rw[HZ.o]at this;exact this
   have d1:∀C:Wd wr.heap.size wr,C.v.cell? ⟨g,i,none⟩=some (.int .i64 (I:Nat)):=fun C=>(C.h.cell (p:=⟨g,i,none⟩) e3).trans c1;have d2:∀C:Wd wr.heap.size wr,C.v.cell? ⟨g',i,none⟩=some (.int .i64 (dn:Nat)):=fun C=>(C.h.cell (p:=⟨g',i,none⟩) f3).trans c2;have CM:Hid (∀W,Below wr.heap.size wr W->Calls Tryz.prog 122 #[.pointer (some ⟨b,o,none⟩),.int .i64 (I:Nat),.int .i64 (dn:Nat)] W (MP κ b o v A [(I,dn)] W)):=fun W hW=>HM.o W A I dn (h0.o.on hW) R.o (Ym U.o HC.o) (by omega) (by omega);haveI:=Wd.ne;clear h5 h6 x1 x2 v1 v2 ha hd ra rd H F c1 c2
   go_upto_region 6 with fail
   refine jP 9 11 (by kernel_rfl) (by kernel_rfl) (by decide) ?_;simp only[TkD]
   iterate 9
    apply jd (by decide) (by rfl)
    .intro C;go_simp;all_goals with_reducible rfl
    simp only[Act.put,SsT]
   refine js ?_;intro C;have h2:=jH C.h;clear d1 d2
   go_wp2_with (go_at_call 122;refine(CM.o _ h2.o).mono ?_;rintro _ w4 ⟨rr,r9,rfl,q9,k9,r1,r4,q7,q6,r3⟩;have k4:=jH q9;have h9:=jH k9;have k2:=jH r1;have k7:=jH r4;have r5:=jH q7;have r8:=jH q6;have v0:=jH r3;clear q9 k9 r1 r4 q7 q6 r3)
   .rename_i B
    have B:rr=false:=by simpa using B
    go_returns;refine MP.no k4.o h9.o (K.o.trans k2.o) (Ym k7.o U.o) (HF.o.trans ((Fr.of h2.o).trans r5.o)) (fun qs=>h3.o qs _ _ ?_);rw[k8.o];have:=v0.o B (Z.drop (i+1) ++qs);rw[K.o.ts]at this;exact this
   .rename_i B
    have B:rr=true:=by simpa using B
    go_roundg (n-(i+1))
    case measure=>omega
    case rel=>
     refine⟨i+1,r9,by omega,rfl,by go_num,k4.o,h9.o,K.o.trans k2.o,Ym k7.o U.o,HF.o.trans ((Fr.of h2.o).trans r5.o),fun qs r2 E h=>h3.o qs r2 E ?_⟩;rw[k8.o];have:=r8.o B (Z.drop (i+1) ++qs) r2 E;rw[K.o.ts]at this;exact this h
  .have:i=n:=by omega
   subst this
   go_wp2_with fail
   go_returns;refine MP.yes h0.o R.o K.o U.o HF.o (fun qs r2 E h=>h3.o qs r2 E ?_);rw[<-r6.o,List.drop_length,Yx];exact h
theorem jdz (h:WN ns) {x:Nat}(A:x<ns.length):1<=cnt ns:=by
 obtain⟨m,B⟩:∃m,ns[x]? =some m:=⟨_,Yb A⟩
 have E:=h.lt x m B;have C:=h.idm x;rw[jcu B]at C;unfold cnt;exact List.countP_pos_iff.2 ⟨m.f,Ub.2 E,by simpa using C⟩
theorem jyN (κ:Kp) (b o:Nat) (v:Value):∀c,MC κ b o v c/\AC κ b o v c
 |0=>by
  have h:MC κ b o v 0:=fun w ns x y _ hW hc hx _=>by have:=jdz hW hx;omega
  exact⟨h,jyO h⟩
 |c+1=>by
  have h:=jEP (jyN κ b o v c).2;exact⟨h,jyO h⟩
theorem jEQ {x y:Nat}(B:GM w κ b o v ns) (C:WN ns) (A:x<ns.length) (E:y<ns.length) :
 Calls Tryz.prog 122 #[.pointer (some ⟨b,o,none⟩),.int .i64 (x:Nat),.int .i64 (y:Nat)] w (MP κ b o v ns [(x,y)] w):=(jyN κ b o v (cnt ns)).1 w ns x y B C jN A E
end Tg
namespace Inf
inductive Pl (S:Nat->Nat->Prop):Nat->Nat->Prop where
 |one {a b:Nat}(h:S b a):Pl S a b
 |more {a b c:Nat}(h:S b a) (h':Pl S b c):Pl S a c
variable {S:Nat->Nat->Prop}{a:Nat}
theorem Pl.snoc {b c:Nat}(h:Pl S a b) (A:S c b):Pl S a c:=by
 induction h with
 |one h=>exact .more h (.one A)
 |more h _ ih=>exact .more h (ih A)
theorem jAA (h:Acc S a):¬Pl S a a:=by
 induction h with
 |intro a _ ih=>
  intro A
  cases A with
  |one h=>exact ih a h (.one h)
  |more h A=>exact ih _ h (A.snoc h)
theorem jJj {b:Nat}(h:Acc S a) (A:Pl S a b):Acc S b:=by
 induction A with
 |one h'=>exact h.inv h'
 |more h' _ ih=>exact ih (h.inv h')
section
variable {ts:Tys}{D D':Dem}
theorem Sub.up {i A j:Nat}(h:Sub ts D j i) (B:Rel ts D i A):Sub ts D j A:=by
 obtain⟨x,k,xs,a,C,E⟩:=h;exact⟨x,k,xs,a,B.symm.trans C,E⟩
theorem Sub.dn {i j A:Nat}(h:Sub ts D j i) (B:Rel ts D j A):Sub ts D A i:=by
 obtain⟨x,k,xs,a,F,I,E,C,H⟩:=h;exact⟨x,k,xs,a,F,I,E,C,H.trans B⟩
theorem jDU {i j A:Nat}(h:Pl (Sub ts D) i j) (B:Rel ts D j A):Pl (Sub ts D) i A:=by
 induction h with
 |one h=>exact .one (h.dn B)
 |more h _ ih=>exact .more h (ih B)
theorem jue {i j:Nat}(h:Acc (Sub ts D) i) (A:Rel ts D i j):Acc (Sub ts D) j:=⟨_,fun y hy=>h.inv (hy.up A.symm)⟩
def Rc (ts:Tys) (D:Dem) (a i:Nat):Prop:=Rel ts D a i\/Pl (Sub ts D) a i
theorem Rc.rel {a i j:Nat}(h:Rc ts D a i) (A:Rel ts D i j):Rc ts D a j:=by
 rcases h with h|h
 .exact .inl (h.trans A)
 .exact .inr (jDU h A)
theorem Rc.sub {a i j:Nat}(h:Rc ts D a i) (hs:Sub ts D j i):Rc ts D a j:=by
 rcases h with h|h
 .exact .inr (.one (hs.up h.symm))
 .exact .inr (h.snoc hs)
theorem jDC {a b i j:Nat}(h:Rel ts (D ++[(a,b)]) i j):Rel ts D i j\/(Rc ts (D ++[(a,b)]) a i/\Rc ts (D ++[(a,b)]) a j):=by
 have up:∀{i j},Rel ts D i j->Rel ts (D ++[(a,b)]) i j:=fun hr=>hr.mono (fun p hp=>Uj _ hp)
 induction h with
 |refl i=>exact .inl (.refl i)
 |symm _ ih=>
  rcases ih with h|⟨C,E⟩
  .exact .inl h.symm
  .exact .inr ⟨E,C⟩
 |trans h h' ih ih'=>
  rcases ih with g|⟨B,A⟩
  .rcases ih' with g'|⟨g1',g2'⟩
   .exact .inl (g.trans g')
   .exact .inr ⟨g1'.rel h.symm,g2'⟩
  .exact .inr ⟨B,A.rel h'⟩
 |dem h=>
  rcases Yq.1 h with h|h
  .exact .inl (.dem h)
  .rw[Kf]at h
   cases h;exact .inr ⟨.inl (.refl _),.inl (.dem (List.mem_append_right _ (by simp)))⟩
 |kid h hi hj hk hl ha hb ih=>
  rcases ih with g|⟨B,A⟩
  .exact .inl (.kid g hi hj hk hl ha hb)
  .exact .inr ⟨B.sub ⟨_,_,_,_,.refl _,hi,hk,Yo ha,.refl _⟩,A.sub ⟨_,_,_,_,.refl _,hj,hk,Yo hb,.refl _⟩⟩
theorem jGC {a b:Nat}(E:Fin ts D) (B:Acc (Sub ts (D ++[(a,b)])) a):Fin ts (D ++[(a,b)]):=by
 intro x
 induction E x with
 |intro x _ ih=>
  by_cases C:Rc ts (D ++[(a,b)]) a x
  .rcases C with h|h
   .exact jue B h
   .exact jJj B h
  .refine⟨_,fun y hy=>?_⟩
   obtain⟨F,k,xs,u,A,O,I,H,K⟩:=hy
   rcases jDC A with A|⟨A,_⟩
   .exact jue (ih u ⟨F,k,xs,u,A,O,I,H,.refl _⟩) K
   .exact absurd A C
theorem jBX {f:Nat->Nat}(h:Rp ts D f) (B:¬Clash ts D) {i j:Nat}:Sub ts D j i↔∃a ∈ (if kd ts (f i)=0 then[] else kids ts (f i)),f a=f j:=by
 constructor
 .rintro ⟨i',k,xs,a,h1,h2,h3,h4,h5⟩
  obtain⟨I,ys,A,H⟩:=h.hd i' k xs h2 h3;rw[<-(h.eq i i').2 h1]at A;have C:Rel ts D i' (f i):=(h.eq _ _).1 (by rw[h.idm];exact((h.eq i i').2 h1).symm);have hk:k=I:=Yt fun hne=>B ⟨i',f i,k,I,xs,ys,C,h2,A,h3,H,.inl hne⟩;subst hk;have K:xs.length=ys.length:=Yt fun hne=>B ⟨i',f i,k,k,xs,ys,C,h2,A,h3,H,.inr hne⟩;obtain⟨m,E⟩:=List.getElem?_of_mem h4;have O:=(List.getElem?_eq_some_iff.1 E).1
  obtain⟨b,F⟩:∃b,ys[m]? =some b:=⟨_,Yb (by omega)⟩
  have e:kd ts (f i)=k/\kids ts (f i)=ys:=by unfold kd kids;rw[A];exact⟨rfl,rfl⟩
  rw[e.1,if_neg h3,e.2];exact⟨b,Yo F,(h.eq _ _).2 ((Rel.kid C h2 A h3 K E F).symm.trans h5)⟩
 .rintro ⟨a,ha,e⟩
  split at ha
  .cases ha
  .rename_i hk
   exact⟨f i,_,_,a,(h.eq _ _).1 (h.idm i).symm,jo7 hk,hk,ha,(h.eq _ _).1 e⟩
end
def Sp (ts:Tys) (f:Nat->Nat) (j i:Nat):Prop:=∃a ∈ kids ts i,f a=j
def up (m:Nat->Nat) (i v:Nat):Nat->Nat:=fun j=>if j=i then v else m j
theorem jq5 (m:Nat->Nat) (i v:Nat):up m i v i=v:=by unfold up;rw[if_pos rfl]
theorem jpX {m:Nat->Nat}{i v j:Nat}(h:j≠i):up m i v j=m j:=by unfold up;rw[if_neg h]
mutual
inductive Lp (ts:Tys) (f:Nat->Nat):(Nat->Nat)->Nat->Bool->(Nat->Nat)->Prop where
 |seen {m:Nat->Nat}{n:Nat}(h:m (f n)≠0):Lp ts f m n (m (f n) == 1) m
 |ring {m m':Nat->Nat}{n:Nat}(h:m (f n)=0) (hk:Lps ts f (up m (f n) 1) (kids ts (f n)) true m'):Lp ts f m n true m'
 |done {m m':Nat->Nat}{n:Nat}(h:m (f n)=0) (hk:Lps ts f (up m (f n) 1) (kids ts (f n)) false m'):Lp ts f m n false (up m' (f n) 2)
inductive Lps (ts:Tys) (f:Nat->Nat):(Nat->Nat)->List Nat->Bool->(Nat->Nat)->Prop where
 |nil {m:Nat->Nat}:Lps ts f m [] false m
 |ring {m m':Nat->Nat}{a:Nat}{l:List Nat}(h:Lp ts f m a true m'):Lps ts f m (a ::l) true m'
 |go {m m1 m':Nat->Nat}{a:Nat}{l:List Nat}{r:Bool}(h:Lp ts f m a false m1) (h':Lps ts f m1 l r m'):Lps ts f m (a ::l) r m'
end
structure Mk (ts:Tys) (f m:Nat->Nat) (c:Option Nat):Prop where
 dn:∀x,m x=2->Acc (Sp ts f) x
 wi:∀x,m x=1->∃y,c=some y/\(x=y\/Pl (Sp ts f) x y)
 two:∀x,m x<=2
structure Mv (m m':Nat->Nat):Prop where
 wi:∀x,m' x=1↔m x=1
 dn:∀x,m x=2->m' x=2
theorem Mv.refl (m:Nat->Nat):Mv m m:=⟨fun _=>Iff.rfl,fun _ h=>h⟩
theorem Mv.trans {a b c:Nat->Nat}(h:Mv a b) (A:Mv b c):Mv a c:=⟨fun x=>(A.wi x).trans (h.wi x),fun x e=>A.dn x (h.dn x e)⟩
def Good (ts:Tys) (f m m':Nat->Nat) (c:Option Nat) (r:Bool) (n:Nat):Prop:=if r=true then ∃x,Pl (Sp ts f) x x else Mk ts f m' c/\Mv m m'/\m' n=2
def jr8 (ts:Tys) (f m m':Nat->Nat) (c:Nat) (r:Bool) (l:List Nat):Prop:=if r=true then ∃x,Pl (Sp ts f) x x else Mk ts f m' (some c)/\Mv m m'/\∀a ∈ l,m' (f a)=2
mutual
theorem Lp.ok {ts:Tys}{f:Nat->Nat}:∀{m:Nat->Nat}{n:Nat}{r:Bool}{m':Nat->Nat},Lp ts f m n r m'->∀c:Option Nat,Mk ts f m c->(∀y,c=some y->Sp ts f (f n) y)->Good ts f m m' c r (f n)
 |m,n,_,_,.seen h,c,hM,hc=>by
  unfold Good;have E:=hM.two (f n)
  by_cases A:m (f n)=1
  .rw[A]
   obtain⟨y,C,H⟩:=hM.wi _ A;refine⟨f n,?_⟩;rcases H with e|H
   .exact .one (e ▸ hc y C)
   .exact H.snoc (hc y C)
  .have F:m (f n)=2:=by omega
   rw[F];exact⟨hM,.refl _,rfl⟩
 |m,n,_,m',.ring h hk,c,hM,hc=>by
  have:=Lps.ok hk (f n) (jyJ hM h hc) (fun a B=>⟨a,B,rfl⟩);unfold jr8 at this;unfold Good;exact this
 |m,n,_,_,.done (m':=m') h hk,c,hM,hc=>by
  have:=Lps.ok hk (f n) (jyJ hM h hc) (fun a B=>⟨a,B,rfl⟩);unfold jr8 at this;unfold Good;obtain⟨A,E,F⟩:=this;refine⟨⟨fun x hx=>?_,fun x hx=>?_,fun x=>?_⟩,⟨fun x=>?_,fun x hx=>?_⟩,jq5 _ _ _⟩
  .by_cases e:x=f n
   .subst e
    refine⟨_,fun y C=>?_⟩;obtain⟨a,B,e⟩:=C;exact A.dn y (e ▸ F a B)
   .rw[jpX e]at hx;exact A.dn x hx
  .by_cases e:x=f n
   .subst e;rw[jq5]at hx;cases hx
   .rw[jpX e]at hx
    have:=(E.wi x).1 hx;rw[jpX e]at this;exact hM.wi x this
  .by_cases e:x=f n
   .subst e;rw[jq5];exact Yy _
   .rw[jpX e];exact A.two x
  .by_cases e:x=f n
   .subst e;rw[jq5,h];exact⟨fun h=>(by cases h),fun h=>(by cases h)⟩
   .rw[jpX e,E.wi x,jpX e]
  .by_cases e:x=f n
   .subst e;rw[jq5]
   .rw[jpX e];exact E.dn x (by rw[jpX e];exact hx)
theorem Lps.ok {ts:Tys}{f:Nat->Nat}:∀{m:Nat->Nat}{l:List Nat}{r:Bool}{m':Nat->Nat},Lps ts f m l r m'->∀c:Nat,Mk ts f m (some c)->(∀a ∈ l,Sp ts f (f a) c)->jr8 ts f m m' c r l
 |m,_,_,_,.nil,c,hM,hc=>by
  unfold jr8;exact⟨hM,.refl _,fun a ha=>by cases ha⟩
 |m,_,_,m',.ring h,c,hM,hc=>by
  have:=Lp.ok h (some c) hM (fun y hy=>by cases hy;exact hc _ Kx);unfold Good at this;unfold jr8;exact this
 |m,a ::l,r,m',.go (m1:=m1) h h',c,hM,hc=>by
  have E:=Lp.ok h (some c) hM (fun y hy=>by cases hy;exact hc _ Kx);unfold Good at E;obtain⟨O,H,F⟩:=E;have B:=Lps.ok h' c O (fun b A=>hc b (Yv _ A));unfold jr8 at B ⊢
  cases r with
  |true=>exact B
  |false=>
   obtain⟨K,C,I⟩:=B;refine⟨K,H.trans C,fun b A=>?_⟩;rcases Kk.1 A with rfl|A
   .exact C.dn _ F
   .exact I b A
theorem jyJ {ts:Tys}{f m:Nat->Nat}{n:Nat}{c:Option Nat}(A:Mk ts f m c) (h:m (f n)=0) (B:∀y,c=some y->Sp ts f (f n) y):Mk ts f (up m (f n) 1) (some (f n)):=by
 refine⟨fun x hx=>?_,fun x hx=>?_,fun x=>?_⟩
 .by_cases e:x=f n
  .subst e;rw[jq5]at hx;cases hx
  .rw[jpX e]at hx;exact A.dn x hx
 .refine⟨f n,rfl,?_⟩
  by_cases e:x=f n
  .exact .inl e
  .rw[jpX e]at hx
   obtain⟨y,E,C⟩:=A.wi x hx;rcases C with e|C
   .exact .inr (.one (e ▸ B y E))
   .exact .inr (C.snoc (B y E))
 .by_cases e:x=f n
  .subst e;rw[jq5];omega
  .rw[jpX e];exact A.two x
end
def Bare (ts:Tys):Prop:=∀i,kd ts i=0->kids ts i=[]
section
variable {ts:Tys}{D:Dem}{f:Nat->Nat}
theorem jxF (h:Rp ts D f) (B:¬Clash ts D) (A:Bare ts) {i j:Nat}:Sub ts D j i↔Sp ts f (f j) (f i):=by
 rw[jBX h B];unfold Sp
 by_cases hk:kd ts (f i)=0
 .rw[if_pos hk,A _ hk]
 .rw[if_neg hk]
theorem jJi (h:Rp ts D f) (C:¬Clash ts D) (A:Bare ts) {x:Nat}(B:Acc (Sp ts f) x):∀i,f i=x->Acc (Sub ts D) i:=by
 induction B with
 |intro x _ ih=>
  intro i e;refine⟨_,fun y hy=>?_⟩;have:=(jxF h C A).1 hy;rw[e]at this;exact ih _ this y rfl
theorem jDR (h:Rp ts D f) (F:¬Clash ts D) (B:Bare ts) {x y:Nat}(E:Pl (Sp ts f) x y):f x=x->Pl (Sub ts D) x y:=by
 have one:∀x y,f x=x->Sp ts f y x->f y=y/\Sub ts D y x:=by
  rintro x y A ⟨a,H,e⟩;have C:f y=y:=by rw[<-e];exact h.idm a
  refine⟨C,(jxF h F B).2 ⟨a,by rw[A];exact H,by rw[C];exact e⟩⟩
 induction E with
 |one h1=>intro A;exact .one (one _ _ A h1).2
 |more h1 _ ih=>intro A;exact .more (one _ _ A h1).2 (ih (one _ _ A h1).1)
theorem jDT {S:Nat->Nat->Prop}{x y:Nat}(h:Pl S x y):∃z,S y z:=by
 induction h with
 |one h=>exact⟨_,h⟩
 |more _ _ ih=>exact ih
theorem jGA (h:Rp ts D f) (C:¬Clash ts D) (B:Bare ts) {x:Nat}(A:Pl (Sp ts f) x x):¬Fin ts D:=by
 intro F;obtain⟨z,a,H,e⟩:=jDT A;have E:f x=x:=by rw[<-e];exact h.idm a
 exact jAA (F x) (jDR h C B A E)
theorem mk0 (ts:Tys) (f:Nat->Nat):Mk ts f (fun _=>0) none:=⟨fun x h=>(by cases h),fun x h=>(by cases h),fun _=>Yi _⟩
theorem same_yes {a b:Nat}{A m':Nat->Nat}(h:Rp ts D f) (B:Ok ts D) (E:Bare ts) (F:Mg ts f [(a,b)] true A) (C:Lp ts A (fun _=>0) a false m'):Rp ts (D ++[(a,b)]) A/\Ok ts (D ++[(a,b)]):=by
 obtain⟨H,I⟩:=((F.ok (h.start B.1 a b)).1 rfl).done;refine⟨H,I,jGC B.2 ?_⟩;have g:=C.ok none (mk0 ts A) (fun y hy=>by cases hy);unfold Good at g;exact jJi H I E (g.1.dn _ g.2.2) a rfl
theorem same_no {a b:Nat}{B m':Nat->Nat}(h:Rp ts D f) (C:Ok ts D) (E:Bare ts) (A:Mg ts f [(a,b)] false B\/(Mg ts f [(a,b)] true B/\Lp ts B (fun _=>0) a true m')):¬Ok ts (D ++[(a,b)]):=by
 rintro ⟨K,F⟩
 rcases A with A|⟨A,H⟩
 .exact K ((A.ok (h.start C.1 a b)).2 rfl)
 .obtain⟨h1,h2⟩:=((A.ok (h.start C.1 a b)).1 rfl).done
  have g:=H.ok none (mk0 ts B) (fun y hy=>by cases hy);unfold Good at g;obtain⟨x,I⟩:=g;exact jGA h1 h2 E I F
end
structure Dc (ts:Tys) (D:Dem) (c:Nat->Nat):Prop where
 snd:∀i j,c i=c j->Rel ts D i j
 dem:∀a b,(a,b) ∈ D->c a=c b
def Hd (ts:Tys) (c:Nat->Nat) (i h:Nat):Prop:=c h=c i/\kd ts h≠0
inductive Jo:(Nat->Nat)->Dem->(Nat->Nat)->Prop where
 |nil (c:Nat->Nat):Jo c [] c
 |cons {c c':Nat->Nat}{a b:Nat}{ps:Dem}(h:Jo (jn c (c b) (c a)) ps c'):Jo c ((a,b) ::ps) c'
inductive Cs (ts:Tys):(Nat->Nat)->Bool->(Nat->Nat)->Prop where
 |stop {c:Nat->Nat}(one:∀i j,c i=c j->kd ts i≠0->kd ts j≠0->∃h,Hd ts c i h/\(kd ts i=kd ts h/\(kids ts i).length=(kids ts h).length/\∀p ∈ (kids ts i).zip (kids ts h),c p.1=c p.2)/\(kd ts j=kd ts h/\(kids ts j).length=(kids ts h).length/\∀p ∈ (kids ts j).zip (kids ts h),c p.1=c p.2)):Cs ts c true c
 |bad {c:Nat->Nat}{i h:Nat}(hi:kd ts i≠0) (hh:Hd ts c i h) (hc:kd ts i≠kd ts h\/(kids ts i).length≠(kids ts h).length):Cs ts c false c
 |go {c c1 c':Nat->Nat}{i h:Nat}{r:Bool}(hi:kd ts i≠0) (hh:Hd ts c i h) (hk:kd ts i=kd ts h) (hl:(kids ts i).length=(kids ts h).length) (hj:Jo c ((kids ts i).zip (kids ts h)) c1) (h':Cs ts c1 r c'):Cs ts c r c'
section
variable {ts:Tys}{D:Dem}
theorem Dc.join {c:Nat->Nat}{a b:Nat}(h:Dc ts D c) (B:Rel ts D a b):Dc ts D (jn c (c b) (c a)):=by
 refine⟨fun i j e=>?_,fun x y hd=>jtz (h.dem x y hd)⟩;unfold jn at e
 by_cases A:c i=c b
 .by_cases h2:c j=c b
  .exact h.snd _ _ (A.trans h2.symm)
  .rw[if_pos A,if_neg h2]at e
   exact((h.snd _ _ A).trans B.symm).trans (h.snd _ _ e)
 .by_cases h2:c j=c b
  .rw[if_neg A,if_pos h2]at e
   exact((h.snd _ _ e).trans B).trans (h.snd _ _ h2).symm
  .rw[if_neg A,if_neg h2]at e
   exact h.snd _ _ e
theorem Jo.ok {c A:Nat->Nat}{ps:Dem}(h:Jo c ps A):Dc ts D c->(∀p ∈ ps,Rel ts D p.1 p.2)->Dc ts D A:=by
 induction h with
 |nil c=>intro hd _;exact hd
 |cons _ ih=>intro hd B;exact ih (hd.join (B _ Kx)) (fun p hq=>B p (Yv _ hq))
theorem Cs.ok {c E:Nat->Nat}{r:Bool}(h:Cs ts c r E):Dc ts D c->(r=true->(∀i j,E i=E j↔Rel ts D i j)/\¬Clash ts D)/\(r=false->Clash ts D):=by
 induction h with
 |@stop c F=>
  intro hd;refine⟨fun _=>?_,fun h=>by cases h⟩
  have back:∀i j,Rel ts D i j->c i=c j:=by
   intro i j H
   induction H with
   |refl i=>rfl
   |symm _ ih=>exact ih.symm
   |trans _ _ ih ih'=>exact ih.trans ih'
   |dem h=>exact hd.dem _ _ h
   |@kid i j k m a b xs ys _ hi C hk hl ha hb ih=>
    have A:kd ts i=k/\kids ts i=xs:=by unfold kd kids;rw[hi];exact⟨rfl,rfl⟩
    have B:kd ts j=k/\kids ts j=ys:=by unfold kd kids;rw[C];exact⟨rfl,rfl⟩
    obtain⟨g,_,⟨_,l1,R⟩,⟨_,l2,W⟩⟩:=F i j ih (by rw[A.1];exact hk) (by rw[B.1];exact hk);rw[A.2]at l1 R;rw[B.2]at l2 W;have h0:=(List.getElem?_eq_some_iff.1 ha).1
    obtain⟨z,O⟩:∃z,(kids ts g)[m]? =some z:=⟨_,Yb (by omega)⟩
    exact(R _ (zip_at ha O)).trans (W _ (zip_at hb O)).symm
  refine⟨fun i j=>⟨hd.snd i j,back i j⟩,?_⟩;rintro ⟨i,j,k,k',xs,ys,H,hi,C,hk,K,Y⟩;have A:kd ts i=k/\kids ts i=xs:=by unfold kd kids;rw[hi];exact⟨rfl,rfl⟩
  have B:kd ts j=k'/\kids ts j=ys:=by unfold kd kids;rw[C];exact⟨rfl,rfl⟩
  obtain⟨g,_,⟨I,l1,_⟩,⟨U,l2,_⟩⟩:=F i j (back _ _ H) (by rw[A.1];exact hk) (by rw[B.1];exact K);rw[A.1]at I;rw[B.1]at U;rw[A.2]at l1;rw[B.2]at l2;rcases Y with h|h
  .exact h (I.trans U.symm)
  .exact h (l1.trans l2.symm)
 |@bad c i g hi hh hc=>
  intro hd;refine⟨fun h=>(by cases h),fun _=>⟨i,g,_,_,_,_,hd.snd _ _ hh.1.symm,jo7 hi,jo7 hh.2,hi,hh.2,hc⟩⟩
 |@go c c1 E i g r hi hh hk hl C _ ih=>
  intro hd;refine ih (C.ok hd fun p hp=>?_);obtain⟨m,F,h2⟩:=jwN (u:=p.1) (v:=p.2) hp;have Z:=jo7 hh.2;rw[<-hk]at Z;exact .kid (hd.snd _ _ hh.1.symm) (jo7 hi) Z hi hl F h2
end
structure Fg (ts:Tys) (D:Dem) (c:Nat->Nat) (g:Nat->Bool):Prop where
 acc:∀i,g (c i)=true->Acc (Sub ts D) i
section
variable {ts:Tys}{D:Dem}{c:Nat->Nat}
theorem sub_cls (he:∀i j,c i=c j↔Rel ts D i j) (E:¬Clash ts D) {i j h:Nat}(A:Hd ts c i h):Sub ts D j i↔∃a ∈ kids ts h,c a=c j:=by
 have I:Rel ts D i h:=(he _ _).1 A.1.symm;have C:=jo7 A.2
 constructor
 .rintro ⟨i',k,xs,a,h1,h2,h3,h4,h5⟩
  have B:Rel ts D i' h:=h1.symm.trans I;have hk:k=kd ts h:=Yt fun hne=>E ⟨i',h,k,_,xs,_,B,h2,C,h3,A.2,.inl hne⟩;have K:xs.length=(kids ts h).length:=Yt fun hne=>E ⟨i',h,k,_,xs,_,B,h2,C,h3,A.2,.inr hne⟩;obtain⟨m,F⟩:=List.getElem?_of_mem h4;have O:=(List.getElem?_eq_some_iff.1 F).1
  obtain⟨b,H⟩:∃b,(kids ts h)[m]? =some b:=⟨_,Yb (by omega)⟩
  rw[<-hk]at C;exact⟨b,Yo H,(he _ _).2 ((Rel.kid B h2 C h3 K F H).symm.trans h5)⟩
 .rintro ⟨a,ha,e⟩
  exact⟨h,_,_,a,I,C,A.2,ha,(he _ _).1 e⟩
theorem sub_none (he:∀i j,c i=c j↔Rel ts D i j) {i j:Nat}(A:∀h,¬Hd ts c i h):¬Sub ts D j i:=by
 rintro ⟨B,k,xs,a,E,F,C,_,_⟩;refine A B ⟨(he _ _).2 E.symm,?_⟩;unfold kd;rw[F];exact C
theorem Fg.more {g:Nat->Bool}{x:Nat}(h:Fg ts D c g) (he:∀i j,c i=c j↔Rel ts D i j) (C:¬Clash ts D) (B:∀i,c i=x->(∀h,¬Hd ts c i h)\/∃h,Hd ts c i h/\∀a ∈ kids ts h,g (c a)=true):Fg ts D c (fun y=>if y=x then true else g y):=by
 refine⟨fun i hi=>?_⟩
 by_cases e:c i=x
 .refine⟨_,fun j hj=>?_⟩
  rcases B i e with A|⟨F,A,E⟩
  .exact absurd hj (sub_none he A)
  .obtain⟨a,ha,e2⟩:=(sub_cls he C A).1 hj
   exact h.acc j (by rw[<-e2];exact E a ha)
 .simp only[if_neg e]at hi
  exact h.acc i hi
theorem fg_end {g:Nat->Bool}(h:Fg ts D c g) (he:∀i j,c i=c j↔Rel ts D i j) (B:¬Clash ts D) (A:∀i,((∀h,¬Hd ts c i h)\/∃h,Hd ts c i h/\∀a ∈ kids ts h,g (c a)=true)->g (c i)=true):(∀i,g (c i)=true)↔Fin ts D:=by
 refine⟨fun ha i=>h.acc i (ha i),fun hF i=>?_⟩
 induction hF i with
 |intro i _ ih=>
  refine A i ?_
  by_cases C:∃h,Hd ts c i h
  .obtain⟨h0,h1⟩:=C
   exact .inr ⟨h0,h1,fun a ha=>ih a ((sub_cls he B h1).2 ⟨a,ha,rfl⟩)⟩
  .exact .inl (fun h0 h1=>C ⟨h0,h1⟩)
end
def mapD (φ:Nat->Nat) (D:Dem):Dem:=D.map fun p=>(φ p.1,φ p.2)
def Back (ts:Tys):Prop:=∀(i k:Nat) (xs:List Nat) (a:Nat),ts[i]? =some ⟨k,xs⟩->a ∈ xs->a<i
structure Em (ts ts':Tys) (φ:Nat->Nat):Prop where
 at':∀(i k:Nat) (xs:List Nat),ts[i]? =some ⟨k,xs⟩->ts'[φ i]? =some ⟨k,xs.map φ⟩
 inj:∀i j,i<ts.length->j<ts.length->φ i=φ j->i=j
def Dl (n:Nat) (D:Dem):Prop:=∀p ∈ D,p.1<n/\p.2<n
section
variable {ts ts':Tys}{D:Dem}{φ:Nat->Nat}
theorem jrw {i:Nat}(h:i<ts.length):∃k xs,ts[i]? =some (Ty.mk k xs):=⟨ts[i].k,ts[i].xs,Yb h⟩
theorem jp5 {i:Nat}{t:Ty}(h:ts[i]? =some t):i<ts.length:=(List.getElem?_eq_some_iff.1 h).1
theorem Em.rel (h:Em ts ts' φ) {i j:Nat}(A:Rel ts D i j):Rel ts' (mapD φ D) (φ i) (φ j):=by
 induction A with
 |refl i=>exact .refl _
 |symm _ ih=>exact ih.symm
 |trans _ _ ih ih'=>exact ih.trans ih'
 |dem hd=>exact .dem (Uh.2 ⟨_,hd,rfl⟩)
 |kid _ hi hj hk hl ha hb ih=>exact .kid ih (h.at' _ _ _ hi) (h.at' _ _ _ hj) hk (by simp[hl]) (by rw[Yr,ha];rfl) (by rw[Yr,hb];rfl)
theorem Em.back (h:Em ts ts' φ) (W:Dl ts.length D) (R:Back ts) {u v:Nat}(A:Rel ts' (mapD φ D) u v):u=v\/∃i j,i<ts.length/\j<ts.length/\φ i=u/\φ j=v/\Rel ts D i j:=by
 induction A with
 |refl i=>exact .inl rfl
 |symm _ ih=>
  rcases ih with e|⟨i,j,hi,C,B,E,A⟩
  .exact .inl e.symm
  .exact .inr ⟨j,i,C,hi,E,B,A.symm⟩
 |trans _ _ ih ih'=>
  rcases ih with rfl|⟨i,j,hi,C,B,E,A⟩
  .exact ih'
  .rcases ih' with rfl|⟨i',j',F,H,e1',e2',hr'⟩
   .exact .inr ⟨i,j,hi,C,B,E,A⟩
   .have:=h.inj j i' C F (E.trans e1'.symm)
    subst this;exact .inr ⟨i,j',hi,H,B,e2',A.trans hr'⟩
 |dem hd=>
  obtain⟨⟨a,b⟩,U,e⟩:=Uh.1 hd;injection e with B E
  have:=W _ U;exact .inr ⟨a,b,this.1,this.2,B,E,.dem U⟩
 |@kid u v k m a b xs ys _ hi C hk hl ha hb ih=>
  rcases ih with rfl|⟨i,j,F,H,B,E,A⟩
  .rw[hi]at C
   cases C;rw[ha]at hb;cases hb;exact .inl rfl
  .obtain⟨ki,xi,gi⟩:=jrw F
   obtain⟨kj,Y,O⟩:=jrw H;have I:=h.at' i _ _ gi;have K:=h.at' j _ _ O;rw[B,hi]at I;rw[E,C]at K;injection I with I
   injection I with f5 f6
   injection K with K
   injection K with f3 f4
   subst f4 f6;rw[Yr]at ha hb
   cases ha' :xi[m]? with
   |none=>rw[ha']at ha;cases ha
   |some a'=>
    cases hb' :Y[m]? with
    |none=>rw[hb']at hb;cases hb
    |some b'=>
     rw[ha']at ha;rw[hb']at hb;cases ha;cases hb;have Z:=R i _ _ a' gi (Yo ha');have lb:=R j _ _ b' O (Yo hb');exact .inr ⟨a',b',by omega,by omega,rfl,rfl,.kid A gi (by rw[O,<-f3,<-f5]) (by rw[<-f5];exact hk) (by simpa using hl) ha' hb'⟩
theorem Em.clash (h:Em ts ts' φ) (I:Dl ts.length D) (K:Back ts):Clash ts' (mapD φ D)↔Clash ts D:=by
 constructor
 .rintro ⟨u,v,k,k',xs,ys,B,hu,hv,hk,hk',A⟩
  rcases h.back I K B with rfl|⟨i,j,hi,C,O,R,B⟩
  .rw[hu]at hv;cases hv
   rcases A with A|A
   .exact absurd rfl A
   .exact absurd rfl A
  .obtain⟨ki,xi,gi⟩:=jrw hi
   obtain⟨W,U,H⟩:=jrw C;have E:=h.at' i _ _ gi;have F:=h.at' j _ _ H;rw[O,hu]at E;rw[R,hv]at F;cases E;cases F;exact⟨i,j,_,_,_,_,B,gi,H,hk,hk',by simpa using A⟩
 .rintro ⟨i,j,k,k',xs,ys,B,hi,C,hk,hk',A⟩
  exact⟨φ i,φ j,k,k',_,_,h.rel B,h.at' _ _ _ hi,h.at' _ _ _ C,hk,hk',by simpa using A⟩
theorem Em.sub (h:Em ts ts' φ) (I:Dl ts.length D) (E:Back ts) {i v:Nat}(hi:i<ts.length) (hs:Sub ts' (mapD φ D) v (φ i)):∃j,j<ts.length/\φ j=v/\Sub ts D j i:=by
 obtain⟨u,k,xs,a,h1,h2,W,h4,h5⟩:=hs
 have hu:∃A,A<ts.length/\φ A=u/\Rel ts D i A:=by
  rcases h.back I E h1 with e|⟨x,y,R,O,H,K,F⟩
  .exact⟨i,hi,e,.refl _⟩
  .have:=h.inj x i R hi H
   subst this;exact⟨y,O,K,F⟩
 obtain⟨A,Y,e,F⟩:=hu;obtain⟨ki,xi,C⟩:=jrw Y;have U:=h.at' A _ _ C;rw[e,h2]at U;cases U;obtain⟨a',B,rfl⟩:=Uh.1 h4;have la:=E A _ _ a' C B
 rcases h.back I E h5 with e5|⟨x,y,R,O,H,K,Z⟩
 .exact⟨a',by omega,e5,A,_,_,a',F,C,W,B,.refl _⟩
 .have:=h.inj x a' R (by omega) H
  subst this;exact⟨y,O,K,A,_,_,x,F,C,W,B,Z⟩
theorem Em.fin (h:Em ts ts' φ) (K:Dl ts.length D) (E:Back ts) (O:Back ts'):Fin ts' (mapD φ D)↔Fin ts D:=by
 constructor
 .intro hF i
  by_cases hi:i<ts.length
  .have:∀u,Acc (Sub ts' (mapD φ D)) u->∀i,i<ts.length->φ i=u->Acc (Sub ts D) i:=by
    intro u H
    induction H with
    |intro u _ ih=>
     intro i hi e;refine⟨_,fun j B=>?_⟩;obtain⟨U,k,xs,a,C,A,R,F,I⟩:=B
     have hs:Sub ts' (mapD φ D) (φ a) u:=⟨φ U,k,_,φ a,by rw[<-e];exact h.rel C,h.at' _ _ _ A,R,Uh.2 ⟨a,F,rfl⟩,.refl _⟩
     have la:=E U _ _ a A F;have li:=jp5 A;exact jue (ih _ hs a (by omega) rfl) I
   exact this _ (hF (φ i)) i hi rfl
  .refine⟨_,fun j B=>?_⟩
   obtain⟨U,k,xs,a,C,A,R,F,I⟩:=B
   have:∀{x y},Rel ts D x y->x=y\/(x<ts.length/\y<ts.length):=by
    intro x y hr
    induction hr with
    |refl=>exact .inl rfl
    |symm _ ih=>rcases ih with e|⟨C,A⟩
                .exact .inl e.symm
                .exact .inr ⟨A,C⟩
    |trans _ _ ih ih'=>
     rcases ih with rfl|⟨W,Z⟩
     .exact ih'
     .rcases ih' with rfl|⟨g3,g4⟩
      .exact .inr ⟨W,Z⟩
      .exact .inr ⟨W,g4⟩
    |dem hd=>exact .inr (K _ hd)
    |kid _ hi B hk Y ha hb _=>
     have l1:=E _ _ _ _ hi (Yo ha);have l2:=E _ _ _ _ B (Yo hb);have:=jp5 hi;have:=jp5 B;exact .inr ⟨by omega,by omega⟩
   have li:=jp5 A
   rcases this C with e|⟨C,_⟩
   .omega
   .omega
 .intro hF
  have im:∀i,Acc (Sub ts D) i->i<ts.length->Acc (Sub ts' (mapD φ D)) (φ i):=by
   intro i hi
   induction hi with
   |intro i _ ih=>
    intro Y;refine⟨_,fun v hv=>?_⟩;obtain⟨j,B,rfl,hs⟩:=h.sub K E Y hv;exact ih j hs B
  intro u
  induction u using Nat.strongRecOn with
  |ind u ih=>
   by_cases H:∃i,i<ts.length/\φ i=u
   .obtain⟨i,hi,rfl⟩:=H
    exact im i (hF i) hi
   .refine⟨_,fun v hv=>?_⟩
    obtain⟨u',k,xs,a,C,A,R,F,I⟩:=hv
    rcases h.back K E C with rfl|⟨x,_,hx,_,e1,_,_⟩
    .exact jue (ih a (O _ _ _ _ A F)) I
    .exact absurd ⟨x,hx,e1⟩ H
theorem Em.ok (h:Em ts ts' φ) (B:Dl ts.length D) (C:Back ts) (A:Back ts'):Ok ts' (mapD φ D)↔Ok ts D:=by
 unfold Ok;rw[h.clash B C,h.fin B C A]
end
inductive X where
 |nd (k:Nat) (p:Int) (xs:List ByteArray) (kids:List X)
def X.p:X->Int
 | .nd _ p _ _=>p
structure Dm where
 a:Nat
 b:Nat
 p:Int
 e:Bool
abbrev Env:=List (ByteArray × Nat)
structure DS where
 ts:Tys
 D:List Dm
 ns:List (ByteArray × Nat × Int)
def DS.put (S:DS) (k:Nat) (xs:List Nat):DS:={S with ts:=S.ts ++[⟨k,xs⟩]}
def DS.n (S:DS):Nat:=S.ts.length
def DS.dem (S:DS) (a b:Nat) (p:Int):DS:={S with D:=S.D ++[⟨a,b,p,false⟩]}
def DS.bad (S:DS) (p:Int):DS:={S with D:=S.D ++[⟨0,0,p,true⟩]}
def DS.note (S:DS) (x:ByteArray) (p:Int):DS:={(S.put 0 [])with ns:=S.ns ++[(x,S.n,p)]}
def DS.each:DS->List ByteArray->Int->DS
 |S,[],_=>S
 |S,x ::r,p=>DS.each (S.note x p) r p
def upFrom (n:Nat):List ByteArray->Env->Env
 |[],env=>env
 |x ::r,env=>upFrom (n+1) r (env ++[(x,n)])
def look:Env->ByteArray->Option Nat
 |[],_=>none
 |(y,t) ::r,x=>match look r x with
  |some t'=>some t'
  |none=>if y=x then some t else none
def rng (n m:Nat):List Nat:=(List.range m).map (n+·)
mutual
def dW:X->Env->DS->Nat × DS
 | .nd k p xs kids,env,S=>
   match k,kids with
   |1,_=>(S.n,S.put 1 [])
   |4,_=>(S.n,S.put 1 [])
   |2,_=>(S.n,S.put 2 [])
   |3,_=>(S.n,S.put 2 [])
   |6,_=>(S.n,S.put 3 [])
   |5,_=>match look env (xs.headD ⟨#[]⟩) with
    |some t=>(t,S)
    |none=>(S.n,(S.bad p).put 0 [])
   |13,[a]=>let S1:=dP 1 a env S;(S1.n,S1.put 1 [])
   |14,[a]=>let S1:=dP 2 a env S;(S1.n,S1.put 2 [])
   |15,[a,b]=>let S2:=dP 1 b env (dP 1 a env S);(S2.n,S2.put 1 [])
   |16,[a,b]=>let S2:=dP 1 b env (dP 1 a env S);(S2.n,S2.put 1 [])
   |17,[a,b]=>let S2:=dP 1 b env (dP 1 a env S);(S2.n,S2.put 2 [])
   |21,[a]=>let S1:=dP 1 a env S;(S1.n,S1.put 3 [])
   |18,[a,b]=>dW b env (dP 3 a env S)
   |11,[a,b,c]=>
    let r1:=dW b env (dP 2 a env S)
    let r2:=dW c env r1.2
    (r1.1,r2.2.dem r2.1 r1.1 c.p)
   |8,[a,b]=>
    let S1:=S.each xs p
    let r1:=dW a env S1
    dW b (upFrom S.n xs env) (r1.2.dem r1.1 S.n a.p)
   |10,[a,b]=>
    let S1:=(S.each xs p).put 5 (rng S.n xs.length)
    let r1:=dW a env S1
    dW b (upFrom S.n xs env) (r1.2.dem r1.1 (S.n+xs.length) a.p)
   |12,[b]=>
    let r1:=dW b (upFrom S.n xs env) (S.each xs p)
    (r1.2.n,r1.2.put 6 (rng S.n xs.length ++[r1.1]))
   |9,[a,b]=>
    let S1:=((S.each xs p).put 0 []).put 6 (rng (S.n+1) (xs.length-1) ++[S.n+xs.length])
    let S2:=S1.dem S.n (S.n+xs.length+1) p
    let r1:=dW a (upFrom S.n xs env) S2
    dW b (upFrom S.n (xs.take 1) env) (r1.2.dem r1.1 (S.n+xs.length) a.p)
   |19,kids=>
    let r:=dWs kids env S
    (r.2.n,((r.2.put 0 []).put 6 (r.1.tail ++[r.2.n])).dem (r.1.headD 0) (r.2.n+1) p)
   |7,kids=>
    let r:=dWs kids env S
    (r.2.n,r.2.put 5 r.1)
   |20,[a,b]=>
    let r:=dE a env S
    (r.1,dP 1 b env r.2)
   |24,[a,b,c]=>
    let r:=dE a env S
    let S2:=dP 1 b env r.2
    let r3:=dW c env S2
    let S3:=r3.2.dem r3.1 r.1 c.p
    (S3.n,S3.put 3 [])
   |23,[a,b]=>
    let r:=dW b env (dP 1 a env S)
    (r.2.n,r.2.put 4 [r.1])
   |22,[a]=>
    let r:=dE a env S
    (r.2.n,r.2.put 1 [])
   |_,_=>(0,S)
def dP (k:Nat) (x:X) (env:Env) (S:DS):DS:=
 let r:=dW x env (S.put k [])
 r.2.dem r.1 S.n x.p
def dE (x:X) (env:Env) (S:DS):Nat × DS:=
 let r:=dW x env S
 (r.2.n,((r.2.put 0 []).put 4 [r.2.n]).dem r.1 (r.2.n+1) x.p)
def dWs:List X->Env->DS->List Nat × DS
 |[],_,S=>([],S)
 |x ::l,env,S=>
  let r:=dW x env S
  let q:=dWs l env r.2
  (r.1 ::q.1,q.2)
end
structure Bd where
 x:ByteArray
 p:Int
 t:Nat
 o:Int
structure PS where
 ts:Tys
 D:Dem
 bs:List Bd
 st:Option (Bool × Int)
def PS.n (P:PS):Nat:=P.ts.length
def PS.add (P:PS) (k:Nat) (xs:List Nat):PS:=match P.st with
 |some _=>P
 |none=>{P with ts:=P.ts ++[⟨k,xs⟩]}
open Classical in
noncomputable def PS.dem (P:PS) (a b:Nat) (p:Int):PS:=match P.st with
 |some _=>P
 |none=>if Ok P.ts (P.D ++[(a,b)]) then {P with D:=P.D ++[(a,b)]} else {P with st:=some (false,p)}
def PS.fail (P:PS) (p:Int):PS:=match P.st with
 |some _=>P
 |none=>{P with st:=some (true,p)}
def PS.note (P:PS) (x:ByteArray) (p o:Int):PS:=match P.st with
 |some _=>P
 |none=>{(P.add 0 [])with bs:=P.bs ++[⟨x,p,P.n,o⟩]}
def PS.bind:PS->List ByteArray->Int->Int->PS
 |P,[],_,_=>P
 |P,x ::r,p,o=>PS.bind (P.note x p o) r p (P.bs.length:Nat)
def named (bs:List Bd) (x:ByteArray):Nat->Int->Option Nat
 |0,_=>none
 |n+1,o=>if o<0 then none else match bs[o.toNat]? with
  |none=>none
  |some b=>if b.x=x then some b.t else named bs x n b.o
def prs (D:List Dm):Dem:=D.map fun d=>(d.a,d.b)
structure jr9 (S:DS) (u:Bool) (p:Int):Prop where
 ex:∃D1 d D2,S.D=D1 ++d ::D2/\d.p=p/\d.e=u/\(∀d' ∈ D1,d'.e=false)/\Dl S.n (prs D1)/\(u=false->d.a<S.n/\d.b<S.n)/\Ok S.ts (prs D1)/\(u=false->¬Ok S.ts (prs (D1 ++[d])))
 bk:Back S.ts
structure Sim (φ:Nat->Nat) (S:DS) (P:PS):Prop where
 em:Em S.ts P.ts φ
 bS:Back S.ts
 bP:Back P.ts
 de:∀d ∈ S.D,d.e=false
 dl:Dl S.n (prs S.D)
 D:P.D=mapD φ (prs S.D)
 ok:Ok P.ts P.D
 nb:S.ns.map (fun q=>(q.1,φ q.2.1,q.2.2))=P.bs.map (fun b=>(b.x,b.t,b.p))
 nl:∀q ∈ S.ns,q.2.1<S.n
 run:P.st=none
def Rl (φ:Nat->Nat) (S:DS) (P:PS):Prop:=Sim φ S P\/∃u p,P.st=some (u,p)/\jr9 S u p
theorem Sim.lt {φ:Nat->Nat}{S:DS}{P:PS}(h:Sim φ S P) {i:Nat}(hi:i<S.n):φ i<P.n:=by
 obtain⟨k,xs,e⟩:=jrw hi;exact jp5 (h.em.at' i k xs e)
variable {φ:Nat->Nat}{S:DS}{P:PS}
theorem Sim.okS (h:Sim φ S P):Ok S.ts (prs S.D):=by
 have:=h.ok;rw[h.D]at this;exact(h.em.ok h.dl h.bS h.bP).1 this
def upd (φ:Nat->Nat) (n v:Nat):Nat->Nat:=fun i=>if i=n then v else φ i
theorem jqp (φ:Nat->Nat) (n v:Nat):upd φ n v n=v:=by unfold upd;rw[if_pos rfl]
variable {v:Nat}
theorem upd_ne {n i:Nat}(h:i≠n):upd φ n v i=φ i:=by unfold upd;rw[if_neg h]
variable {ts:Tys}
theorem jwK {t u:Ty}{i:Nat}(h:(ts ++[t])[i]? =some u):ts[i]? =some u\/(i=ts.length/\t=u):=by
 rcases Kg i ts.length with A|A
 .rw[Kb A]at h;exact .inl h
 .rw[Ud A]at h
  cases e :i-ts.length with
  |zero=>rw[e]at h;simp at h;exact .inr ⟨by omega,h⟩
  |succ k=>rw[e]at h;simp at h
variable {xs:List Nat}
theorem back_app {k:Nat}(h:Back ts) (B:∀a ∈ xs,a<ts.length):Back (ts ++[⟨k,xs⟩]):=by
 intro i C ys a hi A
 rcases jwK hi with hi|⟨rfl,e⟩
 .exact h i C ys a hi A
 .cases e;exact B a A
theorem jyR {n:Nat}(h:∀a ∈ xs,a<n):xs.map (upd φ n v)=xs.map φ:=by
 refine List.map_congr_left fun a ha=>upd_ne ?_;have:=h a ha;omega
variable {D:Dem}
theorem jEU {n:Nat}(h:Dl n D):mapD (upd φ n v) D=mapD φ D:=by
 unfold mapD;refine List.map_congr_left fun p hp=>?_;obtain⟨A,B⟩:=h p hp;rw[upd_ne (by omega),upd_ne (by omega)]
theorem Dl.mono {n m:Nat}(h:Dl n D) (A:n<=m):Dl m D:=fun p hp=>⟨by have:=(h p hp).1;omega,by have:=(h p hp).2;omega⟩
theorem ok_app {z:Tys}(E:Back ts) (A:Back (ts ++z)) (B:Dl ts.length D):Ok (ts ++z) D↔Ok ts D:=by
 have e:Em ts (ts ++z) id:=⟨fun i k xs h=>by
  have F:=jp5 h;show(ts ++z)[i]? =_;rw[Kb F,h]
  simp,fun i j _ _ h=>h⟩
 have:=e.ok B E A;have C:mapD id D=D:=by unfold mapD;simp
 rw[C]at this;exact this
theorem Sim.put {φ:Nat->Nat}{S:DS}{P:PS}(h:Sim φ S P) {k v:Nat}{xs:List Nat}(B:∀a ∈ xs,a<S.n) (E:P.ts[v]? =some ⟨k,xs.map φ⟩) (C:∀i,i<S.n->φ i≠v):Sim (upd φ S.n v) (S.put k xs) P:=by
 refine⟨⟨fun i k' ys hi=>?_,fun i j hi hj e=>?_⟩,back_app h.bS B,h.bP,h.de,?_,?_,h.ok,?_,?_,h.run⟩
 .rcases jwK hi with hi|⟨rfl,e⟩
  .have hl:=jp5 hi
   have F:∀a ∈ ys,a<S.n:=fun a ha=>by have:=h.bS i k' ys a hi ha;show a<S.ts.length;omega
   rw[upd_ne (by show i≠S.ts.length;omega),jyR F];exact h.em.at' i k' ys hi
  .cases e
   rw[show S.ts.length=S.n from rfl,jqp,jyR B];exact E
 .have hl:(S.put k xs).ts.length=S.n+1:=by unfold DS.put DS.n;simp
  rw[hl]at hi hj
  by_cases A:i=S.n
  .by_cases h2:j=S.n
   .rw[A,h2]
   .rw[A,jqp,upd_ne h2]at e
    exact absurd e.symm (C j (by omega))
  .by_cases h2:j=S.n
   .rw[h2,jqp,upd_ne A]at e
    exact absurd e (C i (by omega))
   .rw[upd_ne A,upd_ne h2]at e
    exact h.em.inj i j (by show i<S.n;omega) (by show j<S.n;omega) e
 .exact h.dl.mono (by unfold DS.put DS.n;simp)
 .show P.D=mapD (upd φ S.n v) (prs S.D)
  rw[jEU h.dl];exact h.D
 .rw[<-h.nb]
  refine List.map_congr_left fun q hq=>?_;have:=h.nl q hq;rw[upd_ne (by omega)]
 .intro q hq
  have:=h.nl q hq;unfold DS.put DS.n at *;simp;omega
theorem Sim.add {φ:Nat->Nat}{S:DS}{P:PS}(h:Sim φ S P) {k:Nat}{ys:List Nat}(A:∀a ∈ ys,a<P.n):Sim φ S (P.add k ys):=by
 have e:P.add k ys={P with ts:=P.ts ++[⟨k,ys⟩]}:=by unfold PS.add;rw[h.run]
 rw[e];have B:=back_app (k:=k) h.bP A;refine⟨⟨fun i k' zs hi=>?_,h.em.inj⟩,h.bS,B,h.de,h.dl,h.D,?_,h.nb,h.nl,h.run⟩
 .have:=h.em.at' i k' zs hi
  show(P.ts ++[⟨k,ys⟩])[φ i]? =_;rw[Kb (jp5 this)];exact this
 .refine(ok_app h.bP B ?_).2 h.ok
  rw[h.D];intro p E;obtain⟨q,C,rfl⟩:=Uh.1 E;have:=h.dl q C;exact⟨h.lt this.1,h.lt this.2⟩
theorem Sim.dem {φ:Nat->Nat}{S:DS}{P:PS}(h:Sim φ S P) {a b:Nat}{p:Int}(C:a<S.n) (B:b<S.n):Rl φ (S.dem a b p) (P.dem (φ a) (φ b) p):=by
 have I:prs (S.dem a b p).D=prs S.D ++[(a,b)]:=by unfold DS.dem prs;simp
 have F:P.D ++[(φ a,φ b)]=mapD φ (prs S.D ++[(a,b)]):=by rw[h.D];unfold mapD;simp
 have E:Dl S.ts.length (prs S.D ++[(a,b)]):=by
  intro q A;rcases Yq.1 A with A|A
  .exact h.dl q A
  .rw[Kf]at A;subst A;exact⟨C,B⟩
 have H:=h.em.ok E h.bS h.bP
 by_cases c:Ok P.ts (P.D ++[(φ a,φ b)])
 .have e:P.dem (φ a) (φ b) p={P with D:=P.D ++[(φ a,φ b)]}:=by unfold PS.dem;rw[h.run];simp only[if_pos c]
  rw[e];refine .inl ⟨h.em,h.bS,h.bP,?_,?_,?_,c,h.nb,h.nl,h.run⟩
  .intro d hd
   rcases Yq.1 hd with hd|hd
   .exact h.de d hd
   .rw[Kf]at hd;subst hd;rfl
  .rw[I];exact E
  .rw[I];exact F
 .have e:P.dem (φ a) (φ b) p={P with st:=some (false,p)}:=by unfold PS.dem;rw[h.run];simp only[if_neg c]
  rw[e];refine .inr ⟨false,p,rfl,⟨⟨S.D,⟨a,b,p,false⟩,[],rfl,rfl,rfl,h.de,h.dl,fun _=>⟨C,B⟩,h.okS,fun _=>?_⟩,h.bS⟩⟩;intro K;rw[F]at c;refine c (H.2 ?_);have:prs (S.D ++[⟨a,b,p,false⟩])=prs S.D ++[(a,b)]:=by unfold prs;simp
  rw[this]at K;exact K
theorem Sim.fail {φ:Nat->Nat}{S:DS}{P:PS}(h:Sim φ S P) (p:Int):Rl φ ((S.bad p).put 0 []) (P.fail p):=by
 have e:P.fail p={P with st:=some (true,p)}:=by unfold PS.fail;rw[h.run]
 rw[e];have A:Back (S.ts ++[⟨0,[]⟩]):=back_app h.bS (fun a ha=>by cases ha);refine .inr ⟨true,p,rfl,⟨⟨S.D,⟨0,0,p,true⟩,[],rfl,rfl,rfl,h.de,?_,fun h=>(by cases h),?_,fun h=>(by cases h)⟩,A⟩⟩
 .exact h.dl.mono (by unfold DS.put DS.bad DS.n;simp)
 .exact(ok_app h.bS A h.dl).2 h.okS
variable {S':DS}
theorem jr9.ext {u:Bool}{p:Int}(h:jr9 S u p) (ht:∃z,S'.ts=S.ts ++z) (K:∃z,S'.D=S.D ++z) (C:Back S'.ts):jr9 S' u p:=by
 obtain⟨⟨I,d,D2,Z,h2,R,W,F,E,h7,U⟩,O⟩:=h;obtain⟨z,B⟩:=ht;obtain⟨y,Y⟩:=K;have H:S.n<=S'.n:=by unfold DS.n;rw[B];simp
 rw[B]at C;refine⟨⟨I,d,D2 ++y,by rw[Y,Z];simp,h2,R,W,F.mono H,fun hu=>⟨Yj (E hu).1 H,Yj (E hu).2 H⟩,?_,fun hu=>?_⟩,by rw[B];exact C⟩
 .rw[B];exact(ok_app O C F).2 h7
 .rw[B,ok_app O C ?_]
  .exact U hu
  .intro q A
   have e:prs (I ++[d])=prs I ++[(d.a,d.b)]:=by unfold prs;simp
   rw[e]at A;rcases Yq.1 A with A|A
   .exact F q A
   .rw[Kf]at A;subst A;exact E hu
def inn (P:PS) (xs:List ByteArray) (o:Int):Int:=if xs=[] then o else((P.bs.length+xs.length-1:Nat):Int)
mutual
noncomputable def pW:X->Int->PS->Nat × PS
 | .nd k p xs kids,o,P=>
   match k,kids with
   |1,_=>(P.n,P.add 1 [])
   |4,_=>(P.n,P.add 1 [])
   |2,_=>(P.n,P.add 2 [])
   |3,_=>(P.n,P.add 2 [])
   |6,_=>(P.n,P.add 3 [])
   |5,_=>match named P.bs (xs.headD ⟨#[]⟩) (P.bs.length+1) o with
    |some t=>(t,P)
    |none=>(0,P.fail p)
   |13,[a]=>let P1:=pP 1 a o P;(P1.n,P1.add 1 [])
   |14,[a]=>let P1:=pP 2 a o P;(P1.n,P1.add 2 [])
   |15,[a,b]=>let P2:=pP 1 b o (pP 1 a o P);(P2.n,P2.add 1 [])
   |16,[a,b]=>let P2:=pP 1 b o (pP 1 a o P);(P2.n,P2.add 1 [])
   |17,[a,b]=>let P2:=pP 1 b o (pP 1 a o P);(P2.n,P2.add 2 [])
   |21,[a]=>let P1:=pP 1 a o P;(P1.n,P1.add 3 [])
   |18,[a,b]=>pW b o (pP 3 a o P)
   |11,[a,b,c]=>
    let r1:=pW b o (pP 2 a o P)
    let r2:=pW c o r1.2
    (r1.1,r2.2.dem r2.1 r1.1 c.p)
   |8,[a,b]=>
    let r1:=pW a o (P.bind xs p o)
    pW b (inn P xs o) (r1.2.dem r1.1 P.n a.p)
   |10,[a,b]=>
    let r1:=pW a o ((P.bind xs p o).add 5 (rng P.n xs.length))
    pW b (inn P xs o) (r1.2.dem r1.1 (P.n+xs.length) a.p)
   |12,[b]=>
    let r1:=pW b (inn P xs o) (P.bind xs p o)
    (r1.2.n,r1.2.add 6 (rng P.n xs.length ++[r1.1]))
   |9,[a,b]=>
    let P1:=((P.bind xs p o).add 0 []).add 6 (rng (P.n+1) (xs.length-1) ++[P.n+xs.length])
    let r1:=pW a (inn P xs o) (P1.dem P.n (P.n+xs.length+1) p)
    pW b (inn P (xs.take 1) o) (r1.2.dem r1.1 (P.n+xs.length) a.p)
   |19,kids=>
    let r:=pWs kids o P
    (r.2.n,((r.2.add 0 []).add 6 (r.1.tail ++[r.2.n])).dem (r.1.headD 0) (r.2.n+1) p)
   |7,kids=>
    let r:=pWs kids o P
    (r.2.n,r.2.add 5 r.1)
   |20,[a,b]=>
    let r:=pE a o P
    (r.1,pP 1 b o r.2)
   |24,[a,b,c]=>
    let r:=pE a o P
    let r3:=pW c o (pP 1 b o r.2)
    let P3:=r3.2.dem r3.1 r.1 c.p
    (P3.n,P3.add 3 [])
   |23,[a,b]=>
    let r:=pW b o (pP 1 a o P)
    (r.2.n,r.2.add 4 [r.1])
   |22,[a]=>
    let r:=pE a o P
    (r.2.n,r.2.add 1 [])
   |_,_=>(0,P)
noncomputable def pP (k:Nat) (x:X) (o:Int) (P:PS):PS:=
 let r:=pW x o (P.add k [])
 r.2.dem r.1 P.n x.p
noncomputable def pE (x:X) (o:Int) (P:PS):Nat × PS:=
 let r:=pW x o ((P.add 0 []).add 4 [P.n])
 (P.n,r.2.dem r.1 (P.n+1) x.p)
noncomputable def pWs:List X->Int->PS->List Nat × PS
 |[],_,P=>([],P)
 |x ::l,o,P=>
  let r:=pW x o P
  let q:=pWs l o r.2
  (r.1 ::q.1,q.2)
end
structure Go (φ φ':Nat->Nat) (S S':DS) (P P':PS):Prop where
 rl:Rl φ' S' P'
 ts:∃z,S'.ts=S.ts ++z
 D:∃z,S'.D=S.D ++z
 bk:Back S'.ts
 old:∀i,i<S.n->φ' i=φ i
 new:P'.st=none->∀i,S.n<=i->i<S'.n->P.n<=φ' i
 run:P'.st=none->P.st=none/\(∃z,P'.ts=P.ts ++z)/\∃z,P'.bs=P.bs ++z
variable {φ':Nat->Nat}
theorem Go.le {A:PS}(h:Go φ φ' S S' P A):S.n<=S'.n:=by
 obtain⟨z,e⟩:=h.ts;unfold DS.n;rw[e];simp
theorem Go.leP {A:PS}(h:Go φ φ' S S' P A) (B:A.st=none):P.n<=A.n:=by
 obtain⟨_,⟨z,e⟩,_⟩:=h.run B;unfold PS.n;rw[e];simp
theorem Go.trans {E H:Nat->Nat}{C F:DS}{K I:PS}(h:Go φ E S C P K) (A:Go E H C F K I):Go φ H S F P I:=by
 have U:=h.le;refine⟨A.rl,?_,?_,A.bk,fun i hi=>?_,fun hr i h1 h2=>?_,fun hr=>?_⟩
 .obtain⟨z,e⟩:=h.ts;obtain⟨y,B⟩:=A.ts
  exact⟨z ++y,by rw[B,e,Yu]⟩
 .obtain⟨z,e⟩:=h.D;obtain⟨y,B⟩:=A.D
  exact⟨z ++y,by rw[B,e,Yu]⟩
 .rw[A.old i (by omega),h.old i hi]
 .obtain⟨hr1,_⟩:=A.run hr
  by_cases hi:i<C.n
  .rw[A.old i hi];exact h.new hr1 i h1 hi
  .have:=A.new hr i (by omega) h2
   have:=h.leP hr1;omega
 .obtain⟨hr1,⟨y,B⟩,⟨y2,e2'⟩⟩:=A.run hr
  obtain⟨O,⟨z,e⟩,⟨z2,R⟩⟩:=h.run hr1;exact⟨O,⟨z ++y,by rw[B,e,Yu]⟩,⟨z2 ++y2,by rw[e2',R,Yu]⟩⟩
theorem Go.refl (h:Rl φ S P) (A:Back S.ts):Go φ φ S S P P:=
 ⟨h,⟨[],by simp⟩,⟨[],by simp⟩,A,fun _ _=>rfl,fun _ i h1 h2=>by omega,fun hr=>⟨hr,⟨[],by simp⟩,⟨[],by simp⟩⟩⟩
theorem Rl.sim (h:Rl φ S P) (A:P.st=none):Sim φ S P:=by
 rcases h with h|⟨u,p,e,_⟩
 .exact h
 .rw[A]at e;cases e
variable {u:Bool × Int}
theorem add_stop (h:P.st=some u) (k:Nat) (xs:List Nat):P.add k xs=P:=by unfold PS.add;rw[h]
theorem dem_stop (h:P.st=some u) (a b:Nat) (p:Int):P.dem a b p=P:=by unfold PS.dem;rw[h]
theorem jsy (h:P.st=some u) (p:Int):P.fail p=P:=by unfold PS.fail;rw[h]
theorem jyv (h:P.st=some u) (x:ByteArray) (p o:Int):P.note x p o=P:=by unfold PS.note;rw[h]
theorem add_run (h:P.st=none) (k:Nat) (xs:List Nat):P.add k xs={P with ts:=P.ts ++[⟨k,xs⟩]}:=by unfold PS.add;rw[h]
theorem put_n (S:DS) (k:Nat) (xs:List Nat):(S.put k xs).n=S.n+1:=by unfold DS.put DS.n;simp
theorem jqB (h:Rl φ S P) (B:Back S.ts) {k:Nat}{ys:List Nat}(C:∀a ∈ xs,a<S.n) (F:P.st=none->ys=xs.map φ):∃φ',Go φ φ' S (S.put k xs) P (P.add k ys)/\(P.st=none->φ' S.n=P.n):=by
 have A:=back_app (k:=k) B C
 rcases h with h|⟨u,p,e,I⟩
 .have hys:=F h.run
  have E:∀a ∈ ys,a<P.n:=fun a ha=>by
   rw[hys]at ha;obtain⟨b,B,rfl⟩:=Uh.1 ha;exact h.lt (C b B)
  have H:=h.add (k:=k) E;have e:=add_run h.run k ys;have K:=H.put (k:=k) (v:=P.n) (xs:=xs) C (by rw[e];show(P.ts ++[_])[P.ts.length]? =_;rw[hys];simp) (fun i hi=>by have:=h.lt hi;omega);refine⟨upd φ S.n P.n,⟨.inl K,⟨_,rfl⟩,⟨[],by unfold DS.put;simp⟩,A,fun i hi=>upd_ne (by omega),fun _ i h3 h4=>?_,fun _=>⟨h.run,⟨_,by rw[e]⟩,⟨[],by rw[e];simp⟩⟩⟩,fun _=>jqp _ _ _⟩;rw[put_n]at h4;have:i=S.n:=by omega
  subst this;rw[jqp];exact Yy _
 .rw[add_stop e]
  exact⟨φ,⟨.inr ⟨u,p,e,I.ext ⟨_,rfl⟩ ⟨[],by unfold DS.put;simp⟩ A⟩,⟨_,rfl⟩,⟨[],by unfold DS.put;simp⟩,A,fun _ _=>rfl,fun hr=>(by rw[hr]at e;cases e),fun hr=>(by rw[hr]at e;cases e)⟩,fun hr=>(by rw[hr]at e;cases e)⟩
theorem jql (h:Rl φ S P) (A:Back S.ts) {a b a' b':Nat}{p:Int}(F:a<S.n) (B:b<S.n) (E:P.st=none->a'=φ a) (C:P.st=none->b'=φ b):Go φ φ S (S.dem a b p) P (P.dem a' b' p):=by
 rcases h with h|⟨u,q,e,H⟩
 .rw[E h.run,C h.run]
  have hd:=h.dem (p:=p) F B;refine⟨hd,⟨[],by unfold DS.dem;simp⟩,⟨_,rfl⟩,A,fun _ _=>rfl,fun _ i h1 h2=>absurd h2 (by show ¬i<S.n;omega),fun hr=>?_⟩;unfold PS.dem at hr ⊢;rw[h.run]at hr ⊢;simp only at hr ⊢
  split at hr
  .rename_i c;rw[if_pos c];exact⟨by first|trivial|rfl,⟨[],by simp⟩,⟨[],by simp⟩⟩
  .cases hr
 .rw[dem_stop e]
  exact⟨.inr ⟨u,q,e,H.ext ⟨[],by unfold DS.dem;simp⟩ ⟨_,rfl⟩ A⟩,⟨[],by unfold DS.dem;simp⟩,⟨_,rfl⟩,A,fun _ _=>rfl,fun hr=>(by rw[hr]at e;cases e),fun hr=>(by rw[hr]at e;cases e)⟩
theorem jGa (h:Rl φ S P) (B:Back S.ts) (p:Int):Go φ φ S ((S.bad p).put 0 []) P (P.fail p):=by
 have A:Back (S.ts ++[⟨0,[]⟩]):=back_app B (fun a ha=>by cases ha)
 rcases h with h|⟨u,q,e,C⟩
 .have hne:∀u,(P.fail p).st=some u->(P.fail p).st=none->False:=fun u h1 h2=>by rw[h1]at h2;cases h2
  have e:(P.fail p).st=some (true,p):=by unfold PS.fail;rw[h.run]
  exact⟨h.fail p,⟨_,rfl⟩,⟨_,rfl⟩,A,fun _ _=>rfl,fun hr=>(hne _ e hr).elim,fun hr=>(hne _ e hr).elim⟩
 .rw[jsy e]
  exact⟨.inr ⟨u,q,e,C.ext ⟨_,rfl⟩ ⟨_,rfl⟩ A⟩,⟨_,rfl⟩,⟨_,rfl⟩,A,fun _ _=>rfl,fun hr=>(by rw[hr]at e;cases e),fun hr=>(by rw[hr]at e;cases e)⟩
inductive jpW (φ:Nat->Nat) (bs:List Bd):Env->Int->Prop where
 |nil:jpW φ bs [] (-1)
 |cons {env:Env}{o:Int}{x:ByteArray}{t:Nat}{p:Int}{j:Nat}(h:jpW φ bs env o) (hj:bs[j]? =some ⟨x,p,φ t,o⟩) (ho:o<j):jpW φ bs (env ++[(x,t)]) j
theorem look_app (env:Env) (y x:ByteArray) (t:Nat):look (env ++[(y,t)]) x=if y=x then some t else look env x:=by
 induction env with
 |nil=>simp[look]
 |cons e r ih=>
  obtain⟨z,u⟩:=e;rw[Ka,look,ih]
  by_cases h:y=x
  .rw[if_pos h,if_pos h]
  .rw[if_neg h,if_neg h,look]
variable {env:Env}
theorem jEZ {x:ByteArray}{t:Nat}(h:look env x=some t):∃e ∈ env,e.2=t:=by
 induction env with
 |nil=>cases h
 |cons e r ih=>
  obtain⟨z,u⟩:=e;rw[look]at h
  cases hr :look r x with
  |some t'=>
   rw[hr]at h;cases h;obtain⟨e,he,A⟩:=ih hr;exact⟨e,Yv _ he,A⟩
  |none=>
   rw[hr]at h;simp only at h
   split at h
   .cases h;exact⟨_,Kx,rfl⟩
   .cases h
theorem jyI {bs:List Bd}{o:Int}(h:jpW φ bs env o) (x:ByteArray):∀m:Nat,o<m->named bs x m o=(look env x).map φ:=by
 induction h with
 |nil=>
  intro m _
  cases m with
  |zero=>rfl
  |succ m=>rw[named,if_pos (by omega)];rfl
 |@cons env o y t p j _ hj ho ih=>
  intro m A
  cases m with
  |zero=>omega
  |succ m=>
   rw[named,if_neg (by omega),Int.toNat_natCast,hj,look_app];simp only
   by_cases h:y=x
   .rw[if_pos h,if_pos h];rfl
   .rw[if_neg h,if_neg h];exact ih m (by omega)
theorem jpW.lt {φ:Nat->Nat}{bs:List Bd}{env:Env}{o:Int}(h:jpW φ bs env o):o<(bs.length:Int):=by
 cases h with
 |nil=>omega
 |cons _ hj _=>have:=(List.getElem?_eq_some_iff.1 hj).1;omega
theorem jpW.mono {bs:List Bd}{o:Int}{n:Nat}(h:jpW φ bs env o) (he:∀e ∈ env,e.2<n) (A:∀i,i<n->φ' i=φ i) (z:List Bd):jpW φ' (bs ++z) env o:=by
 induction h with
 |nil=>exact .nil
 |@cons env o x t p j _ hj ho ih=>
  refine .cons (p:=p) (ih fun e h=>he e (Uj _ h)) ?_ ho;have ht:=he (x,t) (List.mem_append_right _ (by simp));rw[Kb (List.getElem?_eq_some_iff.1 hj).1,hj,A t ht]
structure Cx (env:Env) (o:Int) (φ:Nat->Nat) (S:DS) (P:PS):Prop where
 rl:Rl φ S P
 bk:Back S.ts
 ps:0<S.n
 el:∀e ∈ env,e.2<S.n
 er:P.st=none->jpW φ P.bs env o
 z:P.st=none->φ 0=0
theorem Cx.go {env:Env}{o:Int}{φ φ':Nat->Nat}{S S':DS}{P A:PS}(h:Cx env o φ S P) (g:Go φ φ' S S' P A):Cx env o φ' S' A:=by
 have B:=g.le;have C:=h.ps;refine⟨g.rl,g.bk,by omega,fun e he=>by have:=h.el e he;omega,fun hr=>?_,fun hr=>?_⟩
 .obtain⟨hr0,_,⟨z,hz⟩⟩:=g.run hr
  rw[hz];exact(h.er hr0).mono h.el g.old z
 .rw[g.old 0 h.ps];exact h.z (g.run hr).1
def Wk (x:X):Prop:=∀(env:Env) (o:Int) (φ:Nat->Nat) (S:DS) (P:PS),Cx env o φ S P->∃φ',Go φ φ' S (dW x env S).2 P (pW x o P).2/\(dW x env S).1<(dW x env S).2.n/\((pW x o P).2.st=none->(pW x o P).1=φ' (dW x env S).1)
section
variable {env:Env}{o:Int}{φ:Nat->Nat}{S:DS}{P:PS}{x:X}
theorem jqk (F:Wk x) (C:Cx env o φ S P) (k:Nat):∃φ',Go φ φ' S (dP k x env S) P (pP k x o P):=by
 obtain⟨K,B,H⟩:=jqB (k:=k) (xs:=[]) (ys:=[]) C.rl C.bk (fun a ha=>by cases ha) (fun _=>rfl);obtain⟨R,A,l2,I⟩:=F env o K _ _ (C.go B);have W:=put_n S k [];have U:=A.le
 have O:=jql (p:=x.p) (a':=(pW x o (P.add k [])).1) (b':=P.n) A.rl A.bk l2 (b:=S.n) (by omega) I (fun hr=>by
  obtain⟨E,_⟩:=A.run hr
  rw[A.old S.n (by omega),H (B.run E).1])
 refine⟨R,?_⟩;rw[dP,pP];exact(B.trans A).trans O
theorem jv3 (hx:Wk x) (C:Cx env o φ S P):∃φ',Go φ φ' S (dE x env S).2 P (pE x o P).2/\(dE x env S).1<(dE x env S).2.n/\((pE x o P).2.st=none->(pE x o P).1=φ' (dE x env S).1):=by
 rw[dE,pE];simp only
 obtain⟨H,I⟩:∃H,(P.add 0 []).add 4 [P.n]=H:=⟨_,rfl⟩
 rw[I]
 have F:H.st=none->P.st=none/\H.ts=P.ts ++[⟨0,[]⟩,⟨4,[P.n]⟩]/\H.bs=P.bs:=by
  intro B
  cases hs :P.st with
  |some u=>rw[add_stop hs,add_stop hs]at I;rw[<-I,hs]at B;cases B
  |none=>
   rw[add_run hs]at I;rw[add_run (by exact hs)]at I;rw[<-I];exact⟨rfl,by simp,rfl⟩
 have k2:∀u,P.st=some u->H=P:=fun u hs=>by rw[<-I,add_stop hs,add_stop hs]
 have hR:Rl φ S H:=by
  rcases C.rl with h|⟨u,p,e,hF⟩
  .refine .inl ?_
   rw[<-I];have K:=h.add (k:=0) (ys:=[]) (fun a ha=>by cases ha);refine K.add (fun a ha=>?_);rw[Kf]at ha;subst ha;rw[add_run h.run];unfold PS.n;simp
  .rw[k2 _ e];exact .inr ⟨u,p,e,hF⟩
 have C1:Cx env o φ S H:=⟨hR,C.bk,C.ps,C.el,fun B=>by rw[(F B).2.2];exact C.er (F B).1,fun B=>C.z (F B).1⟩
 obtain⟨φ2,E,l2,e2⟩:=hx env o φ S H C1
 obtain⟨A,k1⟩:∃A,(dW x env S).2=A:=⟨_,rfl⟩
 obtain⟨P2,k4⟩:∃P2,(pW x o H).2=P2:=⟨_,rfl⟩
 rw[k1]at E l2 ⊢;rw[k4]at E e2 ⊢;have k8:=E.le
 obtain⟨W,Z⟩:∃W,W=upd (upd φ2 A.n P.n) (A.n+1) (P.n+1):=⟨_,rfl⟩
 have h5:Back ((A.put 0 []).put 4 [A.n]).ts:=back_app (back_app E.bk (fun a ha=>by cases ha)) (fun a ha=>by rw[Kf]at ha;subst ha;unfold DS.put DS.n;simp);have k5:((A.put 0 []).put 4 [A.n]).n=A.n+2:=by rw[put_n,put_n]
 have Y:∀i,i<A.n->W i=φ2 i:=fun i hi=>by rw[Z,upd_ne (by omega),upd_ne (by omega)]
 have h7:W A.n=P.n:=by rw[Z,upd_ne (by omega),jqp]
 have h6:W (A.n+1)=P.n+1:=by rw[Z,jqp]
 have k7:Rl W ((A.put 0 []).put 4 [A.n]) P2:=by
  rcases E.rl with h|⟨u,p,e,hF⟩
  .obtain⟨U,⟨z,R⟩,_⟩:=E.run h.run
   obtain⟨h3,O,_⟩:=F U;have h8:H.n=P.n+2:=by unfold PS.n;rw[O];simp
   have im:∀i,i<A.n->φ2 i<P.n\/P.n+2<=φ2 i:=fun i hi=>by
    by_cases K:i<S.n
    .left;rw[E.old i K];exact(C.rl.sim h3).lt K
    .right;have:=E.new h.run i (by omega) hi;omega
   have a1:P2.ts[P.n]? =some ⟨0,[]⟩:=by rw[R,O];unfold PS.n;simp
   have a2:P2.ts[P.n+1]? =some ⟨4,[P.n]⟩:=by rw[R,O];unfold PS.n;simp
   have K:=h.put (k:=0) (v:=P.n) (xs:=[]) (fun a ha=>by cases ha) (by rw[a1];rfl) (fun i hi=>by have:=im i hi;omega)
   have h2:=K.put (k:=4) (v:=P.n+1) (xs:=[A.n]) (fun a ha=>by rw[Kf]at ha;subst ha;rw[put_n];omega) (by rw[a2];simp[jqp]) (fun i hi=>by
    rw[put_n]at hi
    by_cases K:i=A.n
    .subst K;rw[jqp];omega
    .rw[upd_ne K];have:=im i (by omega);omega)
   refine .inl ?_;rw[Z];rw[put_n]at h2;exact h2
  .exact .inr ⟨u,p,e,hF.ext ⟨[⟨0,[]⟩,⟨4,[A.n]⟩],by unfold DS.put;simp⟩ ⟨[],by unfold DS.put;simp⟩ h5⟩
 have g3:=jql (p:=x.p) (a':=(pW x o H).1) (b':=P.n+1) (a:=(dW x env S).1) (b:=A.n+1) k7 h5 (by omega) (by omega) (fun B=>by rw[Y _ l2];exact e2 B) (fun B=>h6.symm);have h4:(((A.put 0 []).put 4 [A.n]).dem (dW x env S).1 (A.n+1) x.p).n=A.n+2:=k5;refine⟨W,⟨g3.rl,?_,?_,g3.bk,fun i hi=>?_,fun B i K h2=>?_,fun B=>?_⟩,by rw[h4];omega,fun B=>by rw[h7]⟩
 .obtain⟨z,R⟩:=E.ts
  exact⟨z ++[⟨0,[]⟩,⟨4,[A.n]⟩],by unfold DS.dem DS.put;simp[R]⟩
 .obtain⟨z,R⟩:=E.D
  exact⟨z ++[⟨(dW x env S).1,A.n+1,x.p,false⟩],by unfold DS.dem DS.put;simp[R]⟩
 .rw[Y i (by omega),E.old i hi]
 .rw[h4]at h2
  obtain⟨h0,_⟩:=g3.run B;obtain⟨U,_⟩:=E.run h0
  by_cases c1:i<A.n
  .rw[Y i c1]
   have:=E.new h0 i K c1;have h8:H.n=P.n+2:=by unfold PS.n;rw[(F U).2.1];simp
   omega
  .by_cases c2:i=A.n
   .subst c2;rw[h7];exact Yy _
   .have:i=A.n+1:=by omega
    subst this;rw[h6];omega
 .obtain⟨h0,⟨z2,hz2⟩,⟨y2,hy2⟩⟩:=g3.run B
  obtain⟨U,⟨z,R⟩,⟨y,hy⟩⟩:=E.run h0;obtain⟨h3,O,h9⟩:=F U;exact⟨h3,⟨_,by rw[hz2,R,O,Yu,Yu]⟩,⟨_,by rw[hy2,hy,h9,Yu]⟩⟩
theorem jv2:∀(l:List X),(∀x ∈ l,Wk x)->∀(φ:Nat->Nat) (S:DS) (P:PS),Cx env o φ S P->∃φ',Go φ φ' S (dWs l env S).2 P (pWs l o P).2/\(∀t ∈ (dWs l env S).1,t<(dWs l env S).2.n)/\((pWs l o P).2.st=none->(pWs l o P).1=(dWs l env S).1.map φ')
 |[],_,φ,S,P,C=>by
  rw[dWs,pWs];exact⟨φ,.refl C.rl C.bk,(fun t ht=>by cases ht),fun _=>rfl⟩
 |x ::l,h,φ,S,P,C=>by
  rw[dWs,pWs];simp only;obtain⟨F,B,l1,E⟩:=h x Kx env o φ S P C;obtain⟨H,A,l2,I⟩:=jv2 l (fun y hy=>h y (Yv _ hy)) F _ _ (C.go B);have:=A.le;refine⟨H,B.trans A,fun t ht=>?_,fun hr=>?_⟩
  .rcases Kk.1 ht with rfl|ht
   .omega
   .exact l2 t ht
  .rw[Kt,<-I hr,A.old _ l1,<-E (A.run hr).1]
end
theorem jtl {P:PS}(h:P.st=none) (x:ByteArray) (p o:Int):P.note x p o={P with ts:=P.ts ++[⟨0,[]⟩],bs:=P.bs ++[⟨x,p,P.n,o⟩]}:=by unfold PS.note;rw[h];simp only[add_run h];rw[h]
theorem jF9 {φ:Nat->Nat}{S:DS}{P:PS}(h:Rl φ S P) (F:Back S.ts) (x:ByteArray) (p o:Int):∃φ',Go φ φ' S (S.note x p) P (P.note x p o)/\(P.st=none->φ' S.n=P.n):=by
 obtain⟨φ',g,e⟩:=jqB (k:=0) (xs:=[]) (ys:=[]) h F (fun a ha=>by cases ha) (fun _=>rfl)
 rcases h with h|⟨u,q,E,H⟩
 .have hs:=g.rl.sim (by rw[add_run h.run];exact h.run)
  have A:=jtl h.run x p o;have B:=add_run h.run 0 [];refine⟨φ',⟨.inl ⟨?_,hs.bS,?_,hs.de,hs.dl,?_,?_,?_,?_,by rw[A];exact h.run⟩,g.ts,⟨[],by unfold DS.note DS.put;simp⟩,g.bk,g.old,fun _ i h1 h2=>g.new (by rw[B];exact h.run) i h1 h2,fun _=>⟨h.run,⟨_,by rw[A]⟩,⟨_,by rw[A]⟩⟩⟩,e⟩
  .have:=hs.em;rw[B]at this;rw[A];exact this
  .have:=hs.bP;rw[B]at this;rw[A];exact this
  .have:=hs.D;rw[B]at this;rw[A];exact this
  .have:=hs.ok;rw[B]at this;rw[A];exact this
  .rw[A]
   show List.map (fun q=>(q.1,φ' q.2.1,q.2.2)) (S.ns ++[(x,S.n,p)])=List.map (fun b=>(b.x,b.t,b.p)) (P.bs ++[Bd.mk x p P.n o]);have:=hs.nb;rw[B]at this;rw[Km,Km]
   congr 1
   show[(x,φ' S.n,p)]=[(x,P.n,p)];rw[e h.run]
  .intro q C
   rcases Yq.1 C with C|C
   .exact hs.nl q C
   .rw[Kf]at C;subst C
    show S.n<(S.put 0 []).n;rw[put_n];omega
 .have B:=add_stop E 0 []
  rw[B]at g;rw[jyv E];exact⟨φ',⟨.inr ⟨u,q,E,H.ext g.ts ⟨[],by unfold DS.note DS.put;simp⟩ g.bk⟩,g.ts,⟨[],by unfold DS.note DS.put;simp⟩,g.bk,g.old,g.new,g.run⟩,e⟩
theorem note_n (S:DS) (x:ByteArray) (p:Int):(S.note x p).n=S.n+1:=put_n S 0 []
theorem jsw (p:Int):∀(xs:List ByteArray) (env:Env) (o:Int) (φ:Nat->Nat) (S:DS) (P:PS),Cx env o φ S P->
 ∃φ',Go φ φ' S (S.each xs p) P (P.bind xs p o)/\(S.each xs p).n=S.n+xs.length/\(∀e ∈ upFrom S.n xs env,e.2<(S.each xs p).n)/\
  ((P.bind xs p o).st=none->jpW φ' (P.bind xs p o).bs (upFrom S.n xs env) (inn P xs o)/\(∀i,i<xs.length->φ' (S.n+i)=P.n+i)/\(P.bind xs p o).n=P.n+xs.length/\∀x r,xs=x ::r->jpW φ' (P.bind xs p o).bs (env ++[(x,S.n)]) (P.bs.length:Nat))
 |[],env,o,φ,S,P,C=>by
  refine⟨φ,.refl C.rl C.bk,rfl,C.el,fun A=>⟨?_,fun i hi=>(by cases hi),rfl,fun x r e=>by cases e⟩⟩;exact C.er A
 |x ::r,env,o,φ,S,P,C=>by
  rw[DS.each,PS.bind];obtain⟨U,I,R⟩:=jF9 C.rl C.bk x p o;have F:=C.go I;have E:=note_n S x p
  have O:Cx (env ++[(x,S.n)]) (P.bs.length:Nat) U (S.note x p) (P.note x p o):=by
   refine⟨F.rl,F.bk,F.ps,fun e he=>?_,fun A=>?_,F.z⟩
   .rcases Yq.1 he with he|he
    .exact F.el e he
    .rw[Kf]at he;subst he;show S.n<_;omega
   .have B:=(I.run A).1
    have he:=F.er A;refine .cons (p:=p) he ?_ (C.er B).lt;rw[jtl B,R B];simp
  obtain⟨φ2,H,n2,l2,Z⟩:=jsw p r (env ++[(x,S.n)]) (P.bs.length:Nat) U _ _ O;refine⟨φ2,I.trans H,by rw[n2,E];simp;omega,?_,fun A=>?_⟩
  .rw[upFrom];rw[E]at l2;exact l2
  .obtain⟨a1,a2,a3,_⟩:=Z A
   have W:=(H.run A).1;have B:=(I.run W).1;have K:(P.note x p o).n=P.n+1:=by rw[jtl B];unfold PS.n;simp
   have Y:(P.note x p o).bs.length=P.bs.length+1:=by rw[jtl B];simp
   refine⟨?_,fun i hi=>?_,by rw[a3,K];simp;omega,fun x' r' e=>by cases e;exact(O.go H).er A⟩
   .rw[upFrom]
    rw[E]at a1
    have:inn P (x ::r) o=inn (P.note x p o) r (P.bs.length:Nat):=by
     unfold inn;rw[if_neg (by simp),Y]
     by_cases A:r=[]
     .rw[if_pos A,A];simp
     .rw[if_neg A];simp
    rw[this];exact a1
   .cases i with
    |zero=>rw[Kz,Kz,H.old S.n (by omega),R B]
    |succ i=>
     have:=a2 i (by simp at hi;omega);rw[E,K]at this;rw[show S.n+(i+1)=S.n+1+i by omega,this];omega
theorem ju7 {φ:Nat->Nat}{n m k:Nat}(h:∀i,i<k->φ (n+i)=m+i):rng m k=(rng n k).map φ:=by
 unfold rng;rw[List.map_map];refine List.map_congr_left fun i hi=>?_;exact(h i (Ub.1 hi)).symm
theorem ju8 {n k:Nat}:∀a ∈ rng n k,a<n+k:=by
 intro a A;unfold rng at A;obtain⟨i,hi,rfl⟩:=Uh.1 A;have:=Ub.1 hi;omega
section
variable {env:Env}{o:Int}{φ:Nat->Nat}{S:DS}{P:PS}
theorem jpS {C:Nat->Nat}{A:DS}{B:PS}(g:Go φ C S A P B) (k:Nat) {xs ys:List Nat}(H:∀a ∈ xs,a<A.n) (F:B.st=none->ys=xs.map C):∃φ',Go φ φ' S (A.put k xs) P (B.add k ys)/\A.n<(A.put k xs).n/\((B.add k ys).st=none->B.n=φ' A.n):=by
 obtain⟨I,E,K⟩:=jqB (k:=k) g.rl g.bk H F;exact⟨I,g.trans E,by rw[put_n];omega,fun hr=>(K (E.run hr).1).symm⟩
theorem jsc {k:Nat}(C:Cx env o φ S P):∃φ',Go φ φ' S (S.put k []) P (P.add k [])/\S.n<(S.put k []).n/\((P.add k []).st=none->P.n=φ' S.n):=
 jpS (.refl C.rl C.bk) k (fun a ha=>by cases ha) (fun _=>rfl)
theorem jAP {p:Int}{xs:List ByteArray}(C:Cx env o φ S P):∃φ',Go φ φ' S (dW (.nd 5 p xs []) env S).2 P (pW (.nd 5 p xs []) o P).2/\(dW (.nd 5 p xs []) env S).1<(dW (.nd 5 p xs []) env S).2.n/\((pW (.nd 5 p xs []) o P).2.st=none->(pW (.nd 5 p xs []) o P).1=φ' (dW (.nd 5 p xs []) env S).1):=by
 rw[dW,pW]
 cases hl :look env (xs.headD ⟨#[]⟩) with
 |some t=>
  obtain⟨e,he,rfl⟩:=jEZ hl;have B:=C.el e he
  rcases C.rl with h|⟨u,q,A,E⟩
  .have hn:=jyI (C.er h.run) (xs.headD ⟨#[]⟩) (P.bs.length+1) (by have:=(C.er h.run).lt;omega)
   rw[hl]at hn;rw[hn];exact⟨φ,.refl (.inl h) C.bk,B,fun _=>rfl⟩
  .cases hn :named P.bs (xs.headD ⟨#[]⟩) (P.bs.length+1) o with
   |some v=>exact⟨φ,.refl C.rl C.bk,B,fun hr=>by rw[A]at hr;cases hr⟩
   |none=>
    simp only[jsy A];exact⟨φ,.refl C.rl C.bk,B,fun hr=>by rw[A]at hr;cases hr⟩
 |none=>
  have F:S.n<((S.bad p).put 0 []).n:=by rw[put_n];show S.n<S.n+1;omega
  have g:=jGa C.rl C.bk p
  cases hn :named P.bs (xs.headD ⟨#[]⟩) (P.bs.length+1) o with
  |some v=>
   rcases C.rl with h|⟨u,q,A,E⟩
   .have hn':=jyI (C.er h.run) (xs.headD ⟨#[]⟩) (P.bs.length+1) (by have:=(C.er h.run).lt;omega)
    rw[hl,hn]at hn';cases hn'
   .rw[jsy A]at g
    exact⟨φ,g,F,fun hr=>by rw[A]at hr;cases hr⟩
  |none=>
   refine⟨φ,g,F,fun hr=>?_⟩
   rcases C.rl with h|⟨u,q,A,E⟩
   .unfold PS.fail at hr;rw[h.run]at hr;cases hr
   .simp only[jsy A]at hr;rw[A]at hr;cases hr
end
end Inf
end Go.Proofs.YtlpmpelnhdoboaaGreatDoor
