import Derived.Test.YtnhbcdnmfafbiaaGreatDoorM42
import Derived.Test.YtnhbcdnmfafbiaaGreatDoorM43
import Derived.Test.YtnhbcdnmfafbiaaGreatDoorM44
import Derived.Test.YtnhbcdnmfafbiaaGreatDoorM45
import Derived.Test.YtnhbcdnmfafbiaaGreatDoorRows
import Derived.ProofKit
import Derived.LaidMore
import Derived.OpenShut
import Derived.Stop.Joined
import Derived.Lib.LaidTab
import Derived.ChangeMaps5
import Derived.ShutString
import Derived.ChangeSlices
import Derived.ChangeSame
import Derived.Test.YtnhbcdnmfafbiaaGreatDoorTie
import Derived.Test.YtnhbcdnmfafbiaaGreatDoorCards
import Derived.SevenTiedAt
set_option linter.unusedVariables false
set_option linter.unusedSimpArgs false
set_option maxHeartbeats 20000000
set_option maxRecDepth 100000
namespace Go.Proofs.YtnhbcdnmfafbiaaGreatDoor
namespace V
open Go.Proofs
def eStr:El:=⟨ByteArray,fun s=>[.s s]⟩
def hGs:Hx:=⟨fun _=>eStr,false,fun n=>cond (Nat.beq n 1 || Nat.beq n 77) (some eStr) none,false,false⟩
def ctWU:Cts:=ctp 162 JbH <|ctp 161 (kA (aC aI aN) fun a=>mkc rB b0 pTt True) <|ctp 109 (kA (aC (aG fCd) <|aC aI aN) fun a=>mkc (rS fU) b0 (fun l _=>PoU l) (LnU a.1 a.2.1)) ct0
def ctWI:Cts:=ctp 162 JbH <|ctp 161 (kA (aC aI aN) fun a=>mkc rB b0 pTt True) <|ctp 109 (kA (aC (aG fCd) <|aC aI aN) fun a=>mkc (rS fL5) b0 pTt (LnI a.1 a.2.1)) ct0
theorem Jhs:Good T1 ctWU:=by
 unfold ctWU;refine Jbr (Good.ad1 (Good.ad1 Jae ?_) ?_) JdM
 .rintro a h;exact JgH h
 .rintro a -;exact JdZ _
theorem Jht:Good T1 ctWI:=by
 unfold ctWI;refine Jbr (Good.ad1 (Good.ad1 Jae ?_) ?_) JdM
 .rintro a h;exact JgI h
 .rintro a -;exact JdZ _
def wlR (Q:UInt8->Prop) (y:ByteArray):Prop:=(decide ((y.size:Int)=4)=true->decide ((y.size:Int)=4)=true/\decide ((y.size:Int)=4)=true/\(0:Int)<=0/\0<y.size/\∀(u:UInt8),y[0]? =some u->decide ((y.size:Int)=4)=true/\decide ((y.size:Int)=4)=true/\decide ((y.size:Int)=4)=true/\True/\∀(x:Bool × Unit),True->decide ((y.size:Int)=4)=true/\(x.1=true->x.1=true/\x.1=true/\(0:Int)<=1/\1<y.size/\∀(u:UInt8),y[1]? =some u->x.1=true/\x.1=true/\x.1=true/\True/\∀(x_3:Bool × Unit),True->x.1=true/\(x_3.1=true->x_3.1=true/\x_3.1=true/\(0:Int)<=2/\2<y.size/\∀(u:UInt8),y[2]? =some u->x_3.1=true/\x_3.1=true/\x_3.1=true/\True/\∀(x:Bool × Unit),True->x_3.1=true/\(x.1=true->x.1=true/\x.1=true/\(0:Int)<=3/\3<y.size/\∀(u:UInt8),y[3]? =some u->x.1=true/\x.1=true/\x.1=true/\Q u/\∀(x_4:Bool × Unit),True->x.1=true/\True)/\(x.1=false->x.1=false/\x.1=false/\x.1=false/\x.1=false/\x.1=false/\x.1=false/\True))/\(x_3.1=false->x_3.1=false/\x_3.1=false/\x_3.1=false/\x_3.1=false/\x_3.1=false/\x_3.1=false/\false=false/\false=false/\false=false/\false=false/\false=false/\false=false/\false=false/\True))/\(x.1=false->x.1=false/\x.1=false/\x.1=false/\x.1=false/\x.1=false/\x.1=false/\false=false/\false=false/\false=false/\false=false/\false=false/\false=false/\false=false/\false=false/\false=false/\false=false/\false=false/\false=false/\false=false/\false=false/\True))/\(decide ((y.size:Int)=4)=false->decide ((y.size:Int)=4)=false/\decide ((y.size:Int)=4)=false/\decide ((y.size:Int)=4)=false/\decide ((y.size:Int)=4)=false/\decide ((y.size:Int)=4)=false/\decide ((y.size:Int)=4)=false/\false=false/\false=false/\false=false/\false=false/\false=false/\false=false/\false=false/\false=false/\false=false/\false=false/\false=false/\false=false/\false=false/\false=false/\false=false/\false=false/\false=false/\false=false/\false=false/\false=false/\false=false/\True)
theorem Jbx {Q:UInt8->Prop}{y:ByteArray}(h:∀u,y[3]? =some u->Q u):wlR Q y:=by
 unfold wlR;refine⟨fun q=>?_,fun q=>?_⟩
 .have hz:y.size=4:=by have:=dt q;omega
  refine⟨q,q,by omega,by omega,fun u _=>⟨q,q,q,trivial,fun x _=>⟨q,fun a=>⟨a,a,by omega,by omega,fun u _=>⟨a,a,a,trivial,fun x' _=>⟨a,fun b=>⟨b,b,by omega,by omega,fun u _=>⟨b,b,b,trivial,fun x _=>⟨b,fun c=>⟨c,c,by omega,by omega,fun u hu=>⟨c,c,c,h u hu,fun _ _=>⟨c,trivial⟩⟩⟩,fun c=>?_⟩⟩⟩,fun b=>?_⟩⟩⟩,fun a=>?_⟩⟩⟩
  all_goals repeat' first|trivial|rfl|assumption|refine⟨?_,?_⟩
 .repeat' first|trivial|rfl|assumption|refine⟨?_,?_⟩
theorem JbM {o:Int}(h0:0<=o) (B:o<34):∃y:ByteArray,gts (gsC fdL) (0+o.toNat*1) 1=some [C.s y]:=by
 rw[Nat.mul_one,Nat.zero_add];have hl:o.toNat<fdL.length:=by show o.toNat<34;omega
 have E:(gsC fdL)[o.toNat]? =some (.s ⟨⟨fdL[o.toNat]⟩⟩):=by unfold gsC;rw[List.getElem?_map,List.getElem?_eq_getElem hl];rfl
 refine⟨⟨⟨fdL[o.toNat]⟩⟩,?_⟩;unfold gts;rw[E];unfold gts;rw[if_pos (by show o.toNat+1<=34;omega)]
theorem Jd2 {o:Int}(hp:pop o=true) {y:ByteArray}(h:gts (gsC fdL) (0+o.toNat*1) 1=some [C.s y]) (u:UInt8) (B:y[3]? =some u):E42 (u.toNat:Nat):=by
 unfold pop at hp;simp only[Bool.or_eq_true,beq_iff_eq]at hp;rcases hp with(((((rfl|rfl)|rfl)|rfl)|rfl)|rfl)|rfl
 all_goals
  have h:some [C.s ⟨⟨[_,_,_,42]⟩⟩]=some [C.s y]:=h;cases h;cases B;exact⟨rfl⟩
theorem JcX {s:Sp}(h:LnI ⟨s.F,s.K,s.L⟩ s.n):Tot T1 (mkc rB b0 pTt True) 123 [.pl (.ag (fSp.f s))]:=vF (⟨hGs,[],[],[]⟩) Jht Tryz.func123 (LnI {F:=s.F,K:=s.K,L:=s.L} s.n/\∀(x:(Int × Int × Int × Int × Int) × Unit),True->br (decide (x.1.1<0)) (true=true/\True) (br (decide (x.1.1>=34)) True (br (decide (s.n=wr (s.e-1))) (True/\∀(x_1:Bool × Unit),True->br x_1.1 True ((0<=x.1.1/\x.1.1<(34:Nat))/\(∃(y:ByteArray),gts (gsC fdL) (0+x.1.1.toNat*1) 1=some [C.s y])/\∀(x_2:ByteArray),gts (gsC fdL) (0+x.1.1.toNat*1) 1=some [C.s x_2]->wlR (fun _=>True) x_2)) (false=false/\(0<=x.1.1/\x.1.1<(34:Nat))/\(∃(y:ByteArray),gts (gsC fdL) (0+x.1.1.toNat*1) 1=some [C.s y])/\∀(x_1:ByteArray),gts (gsC fdL) (0+x.1.1.toNat*1) 1=some [C.s x_1]->wlR (fun _=>True) x_1)))) (by kernel_rfl) ⟨h,fun⟨⟨o,_⟩,_⟩ _=>⟨fun _=>⟨rfl,trivial⟩,fun q=>⟨fun _=>trivial,fun r=>by
 have q:=df q;have r:=df r
 dsimp only at q r ⊢
 have a:0<=o:=by omega
 have b:o<34:=by omega
 exact⟨fun _=>⟨trivial,fun _ _=>⟨fun _=>trivial,fun _=>⟨⟨a,b⟩,JbM a b,fun _ _=>Jbx fun _ _=>trivial⟩⟩⟩,fun _=>⟨rfl,⟨a,b⟩,JbM a b,fun _ _=>Jbx fun _ _=>trivial⟩⟩⟩⟩⟩
theorem JeY {s:Sp}(h:LnU ⟨s.F,s.K,s.L⟩ s.n):Tot T1 (mkc rB b0 pTt True) 123 [.pl (.ag (fSp.f s))]:=vF (⟨hGs,[],[],[]⟩) Jhs Tryz.func123 (LnU {F:=s.F,K:=s.K,L:=s.L} s.n/\∀(x:Lu × Unit),PoU x.1->br (decide (x.1.o<0)) (true=true/\True) (br (decide (x.1.o>=34)) True (br (decide (s.n=wr (s.e-1))) (True/\∀(x_1:Bool × Unit),True->br x_1.1 True ((0<=x.1.o/\x.1.o<(34:Nat))/\(∃(y:ByteArray),gts (gsC fdL) (0+x.1.o.toNat*1) 1=some [C.s y])/\∀(x_2:ByteArray),gts (gsC fdL) (0+x.1.o.toNat*1) 1=some [C.s x_2]->wlR (fun u=>E42 (u.toNat:Nat)) x_2)) (false=false/\(0<=x.1.o/\x.1.o<(34:Nat))/\(∃(y:ByteArray),gts (gsC fdL) (0+x.1.o.toNat*1) 1=some [C.s y])/\∀(x_1:ByteArray),gts (gsC fdL) (0+x.1.o.toNat*1) 1=some [C.s x_1]->wlR (fun u=>E42 (u.toNat:Nat)) x_1)))) (by kernel_rfl) ⟨h,fun⟨⟨o,_,_,_⟩,_⟩ hp=>⟨fun _=>⟨rfl,trivial⟩,fun q=>⟨fun _=>trivial,fun r=>by
 have q:=df q;have r:=df r;have hp:=hp.p
 dsimp only at q r hp ⊢
 have a:0<=o:=by omega
 have b:o<34:=by omega
 exact⟨fun _=>⟨trivial,fun _ _=>⟨fun _=>trivial,fun _=>⟨⟨a,b⟩,JbM a b,fun _ hy=>Jbx (Jd2 hp hy)⟩⟩⟩,fun _=>⟨rfl,⟨a,b⟩,JbM a b,fun _ hy=>Jbx (Jd2 hp hy)⟩⟩⟩⟩⟩
end V
end Go.Proofs.YtnhbcdnmfafbiaaGreatDoor
set_option maxRecDepth 100000
namespace Go.Proofs.YtnhbcdnmfafbiaaGreatDoor
namespace V
open Go.Proofs
structure LwA (L:List (List C)):Prop where
 e:∀e ∈ L,(∃l:Lu,e=fU.f l/\pop l.o=true)\/∃l,e=fL5.f l
theorem JeX {s:Sp}(h:LwA s.L):Tot T1 (mkc rB b0 pTt True) 123 [.pl (.ag (fSp.f s))]:=by
 by_cases hn:0<=s.n/\s.n<s.L.length
 .have hj:s.n.toNat<s.L.length:=by omega
  have B:s.L[s.n.toNat]? =some s.L[s.n.toNat]:=List.getElem?_eq_getElem hj
  rcases h.e _ (List.getElem_mem hj)with⟨l,e,hp⟩|⟨l,e⟩
  .exact JeY ⟨l,hn.1,hn.2,by rw[<-e];exact B,hp⟩
  .exact JcX ⟨fun _ _=>⟨l,by rw[<-e];exact B⟩⟩
 .exact JcX ⟨fun a b=>absurd ⟨a,b⟩ hn⟩
def ctLn:Cts:=ctp 108 Jbd <|ctp 122 (kA (aC (aG fCd) <|aC aI aN) fun a=>mkc rI b0 (fun n _=>SmE n) (CfR a.1)) <|ctp 123 (kA (aC (aG fSp) aN) fun a=>mkc rB b0 pTt (LwA a.1.L)) ct0
theorem JgZ (xs:List Arg) (k:Ct) (h:Jbd xs=some k) (hp:k.pr):Tot T1 k 108 xs:=by
 unfold Jbd at h
 split at h
 .rename_i F K L n
  cases h;obtain⟨x,B,h2⟩:=(Jez (c:=⟨F,K,L⟩) hp n).vr (q:=True) rfl rfl fun _=>rfl;exact⟨x,B,Does.rvp (ns:=[n]) h2 rfl⟩
 .cases h
theorem JhM:Good T1 ctLn:=by
 unfold ctLn;refine Jbr (Good.ad1 (Good.ad1 Jae ?_) ?_) JgZ
 .rintro a h;exact JeX h
 .rintro a h;exact(JeA h.F h.l h.n _).vr rfl rfl fun _=>rfl
structure LzI (c d:CdS) (j i:Int) (s:Sp):Prop where
 o:QrI c d i
 v:i<c.F.length
 w:i=j
 L:s.L=c.L
 n:0<=s.n/\s.n<=2000000
 e:s.e<=1000000
def lzT:Rl Av:=.cons 1 (tA 1) <| .cons 2 tI <| .cons 3 tI <| .cons 4 tI <| .cons 5 (tA 5) .nil
def lzR:Rl Rt:=.cons 1 (rX 1 fCd) <| .cons 5 (rX 1 fSp) .nil
def lzM (s:Sp):Nat:=(s.e-s.n).toNat
def lnH (c:CdS):Hy:=⟨h0,[],[],[(2,.iv qrT qrR (fun q=>QrI c q.2.1 q.1.2.2.2.1) fun q=>qrM c q.1.2.2.2.1),(6,.iw lzT lzR (fun p q=>LzI c q.2.1 p.1.2.2.2.1 q.1.2.2.2.1 q.2.2.1) fun q=>lzM q.2.2.1)]⟩
theorem JgG {c:CdS}(h:CfR c) (E:LwA c.L):Tot T1 (mkc rII b0 pTt True) 65 [.pl (.ag (fCd.f c))]:=vR (lnH c) JhM [] [false,false] Tryz.func65 (QrI c c 0/\∀(a:(Unit × Int × Int × Int × Unit) × CdS × Unit),QrI c a.2.1 a.1.2.2.2.1->br (decide (a.1.2.2.2.1<↑a.2.1.F.length)) ((∀(e:List C),e ∈ a.2.1.F->∃(y:CfS),e=fCF.f y/\CfP y)/\∀(x:CfS × Unit),CfP x.1->CfR a.2.1/\∀(x_1:Int × Unit),SmE x_1.1->(∀(e:List C),e ∈ a.2.1.F->∃(y:CfS),e=fCF.f y/\CfP y)/\∀(x_2:CfS × Unit),CfP x_2.1->LzI c a.2.1 a.1.2.2.2.1 a.1.2.2.2.1 {F:=a.2.1.F,K:=a.2.1.K,L:=a.2.1.L,s:=x.1.d,n:=x_2.1.a,e:=x_1.1}/\∀(a_6:(Unit × Int × Int × Int × Unit × Unit) × CdS × Sp × Unit),LzI c a_6.2.1 a.1.2.2.2.1 a_6.1.2.2.2.1 a_6.2.2.1->br (decide (a_6.2.2.1.n<a_6.2.2.1.e)) (LwA a_6.2.2.1.L/\∀(x:Bool × Unit),True->br (!x.1) True (LzI c a_6.2.1 a.1.2.2.2.1 a_6.1.2.2.2.1 {F:=a_6.2.2.1.F,K:=a_6.2.2.1.K,L:=a_6.2.2.1.L,s:=a_6.2.2.1.s,n:=wr (a_6.2.2.1.n+1),e:=a_6.2.2.1.e}/\lzM {F:=a_6.2.2.1.F,K:=a_6.2.2.1.K,L:=a_6.2.2.1.L,s:=a_6.2.2.1.s,n:=wr (a_6.2.2.1.n+1),e:=a_6.2.2.1.e}<lzM a_6.2.2.1)) (QrI c a_6.2.1 (wr (a_6.1.2.2.2.1+1))/\qrM c (wr (a_6.1.2.2.2.1+1))<qrM c a.1.2.2.2.1)) True) (by kernel_rfl) (by
 refine⟨⟨rfl,by omega⟩,fun⟨⟨_,_,_,i,_⟩,d,_⟩ ⟨e,hi⟩=>?_⟩
 dsimp only at e hi ⊢
 subst e;have hn:=h.n;refine⟨fun q=>⟨h.F,fun⟨x,_⟩ _=>⟨h,fun⟨n,_⟩ hs=>⟨h.F,fun⟨y,_⟩ hy=>⟨⟨⟨rfl,hi⟩,dt q,rfl,rfl,⟨hy.a.1,Int.le_trans hy.a.2 (by omega)⟩,hs.h⟩,fun⟨⟨_,_,_,j,_,_⟩,d',s,_⟩ hz=>?_⟩⟩⟩⟩,fun _=>trivial⟩
 dsimp only at hz ⊢
 obtain⟨⟨M,J⟩,O,P,B,V,G⟩:=hz;subst M P;refine⟨fun r=>⟨by rw[B];exact E,fun _ _=>⟨fun _=>trivial,fun _=>?_⟩⟩,fun _=>?_⟩
 .have r:=dt r
  rw[jKX (x:=s.n+1) (by omega) (by omega)];exact⟨⟨⟨rfl,J⟩,O,rfl,B,⟨by dsimp only;omega,by dsimp only;omega⟩,G⟩,by unfold lzM;dsimp only;omega⟩
 .rw[jKX (x:=j+1) (by omega) (by omega)]
  exact⟨⟨rfl,by omega⟩,by unfold qrM;omega⟩)
structure FtP (c:CdS):Prop where
 l:Tot T1 (mkc rII b0 pTt True) 65 [.pl (.ag (fCd.f c))]
 r:Tot T1 (mkc rII b0 pTt True) 66 [.pl (.ag (fCd.f c))]
def ctFz:Cts:=ctp 65 (kA (aC (aG fCd) aN) fun a=>mkc rII b0 pTt (FtP a.1)) <|ctp 66 (kA (aC (aG fCd) aN) fun a=>mkc rII b0 pTt (FtP a.1)) ct0
theorem JhO:Good T1 ctFz:=by
 unfold ctFz;refine Good.ad1 (Good.ad1 Jae ?_) ?_
 .rintro a h;exact h.r
 .rintro a h;exact h.l
theorem Jhd {c:CdS}(h:FtP c):Tot T1 (mkc rII b0 pTt True) 34 [.pl (.ag (fCd.f c))]:=vR hy JhO [] [false,false] Tryz.func34 (FtP c/\∀(x:(Int × Int) × Unit),True->br (decide (x.1.1≠0)) True (FtP c/\∀(x:(Int × Int) × Unit),True->True)) (by kernel_rfl) ⟨h,fun _ _=>⟨fun _=>trivial,fun _=>⟨h,fun _ _=>trivial⟩⟩⟩
theorem JfL {x:ByteArray}(h:rdE x=0):jLl x:=by
 unfold rdE at h
 split at h
 .cases h
 .split at h
  .assumption
  .cases h
theorem JhX (x:ByteArray):LwA (cdK x).L:=⟨fun e he=>by
 obtain⟨e0,h0,rfl⟩:=List.mem_map.1 he;obtain⟨p,rfl⟩:=Ja9 h0;show(∃l:Lu,(if pop _ then _ else _)=_/\_)\/∃l,(if pop _ then _ else _)=_
 split
 .rename_i hp
  exact .inl ⟨⟨nv x p 1,nv x (p+1) 1,nv x (p+2) 2,nv x (p+4) 2⟩,rfl,hp⟩
 .exact .inr ⟨(_,_,_,_,_),rfl⟩⟩
theorem JhV {x:ByteArray}(h:rdE x=0):CfR (cdW x):=by
 have E:=JfL h;refine⟨fun e he=>?_,?_,?_⟩
 .obtain⟨j,hj,rfl⟩:=List.mem_map.1 he
  have a:=nv2 x (8+6*j);obtain⟨y,B,hy⟩:=(JbV h).F _ he;exact⟨y,B,hy,by rw[<-jTF B];show _<=nv _ _ _/\nv _ _ _<=_;omega⟩
 .show(jKB x 8 (nF x)).length<=_
  have a:=nv2 x 2;have b:=nv2 x 4;have c:=nv2 x 6;unfold jKB;rw[List.length_map,List.length_range];unfold nF;omega
 .show((lsF x (8+6*nF x+8*nK x) (nL x)).map wkL).length<=_
  have a:=nv2 x 2;have b:=nv2 x 4;have c:=nv2 x 6;unfold lsF;rw[List.length_map,List.length_map,List.length_range];unfold nL;omega
theorem JhY (x:ByteArray):WA (.ag (fCd.f (cdK x))) (.ag (fCd.f (cdW x))):=by
 have:cdW x=⟨(cdK x).F,(cdK x).K,(cdK x).L.map wkL⟩:=by
  unfold cdW cdK;simp only[List.map_map]
  congr 1
  apply List.map_congr_left;intro e B;obtain⟨p,rfl⟩:=Ja9 B;show _=wkL (if pop _ then _ else _)
  split <;> rfl
 rw[this];refine JcU (Jby fun e B=>?_);obtain⟨e0,h0,rfl⟩:=List.mem_map.1 B;obtain⟨p,rfl⟩:=Ja9 h0;show Wl (if pop _ then _ else _) (wkL (if pop _ then _ else _))
 split
 .exact Wl.refl _
 .exact .cons (.rfl _) (.cons (.rfl _) (.cons (.rfl _) (.cons (.rfl _) (.cons (.j _) .nil))))
theorem Jhe {x:ByteArray}(h:rdE x=0):∃r:Int × Int,Does T1 34 [.pl (.ag (fCd.f (cdK x)))] [pI r.1,pI r.2] []:=by
 have hR:=JhV h;obtain⟨a,_,ha⟩:=(JfG ⟨JbV h,hR⟩).vr (q:=True) rfl rfl fun _=>rfl;obtain⟨b,_,B⟩:=Jhd (c:=cdK x) ⟨JgG ⟨hR.F,hR.n,by have:=hR.l;unfold cdW at this;unfold cdK;rw[List.length_map]at this ⊢;exact this⟩ (JhX x),⟨a,trivial,ha.wka (JhY x)⟩⟩;exact⟨b.1,B⟩
end V
end Go.Proofs.YtnhbcdnmfafbiaaGreatDoor
namespace Go.Proofs.YtnhbcdnmfafbiaaGreatDoor
namespace V
open Go.Proofs
theorem Jhj {x:ByteArray}(h:rdE x=0):∃r:Int × Int,Does T1 34 [.pl (.ag (fCd.f (cdK x)))] [pI r.1,pI r.2] []:=Jhe h
end V
end Go.Proofs.YtnhbcdnmfafbiaaGreatDoor
set_option maxRecDepth 100000
namespace Go.Proofs.YtnhbcdnmfafbiaaGreatDoor
namespace V
open Go.Proofs
def Jaz (c:CdS):CdS:=⟨c.F,c.K,c.L.map wkP⟩
def Jay (c:CdS):CdS:=⟨c.F,c.K,c.L.map wkL⟩
noncomputable def ckF (c:CdS):Int × Int:=Classical.epsilon fun r:Int × Int=>Does T1 34 [.pl (.ag (fCd.f c))] [pI r.1,pI r.2] []
structure RdX (c:CdS):Prop where
 e:∃x,rdE x=0/\c=rdC x
def ru0:Ru:=⟨[],[],[],0,[],0,⟨false,0,false,0,false,0,false,0,false,0,false,0,false,0,false,0⟩,[],⟨0,0,0,[],[]⟩,0,0,0,[],0,0⟩
def bgP (c:CdS) (w d:Int) (n:List (List C)) (r:Ru):Prop:=BgR r/\Does T 30 [.pl (.ag (fCd.f c)),pI w,pI d,.pl (.c (.r false 1 n))] [.ow [.bx (fR.f r)] true] []
noncomputable def bgF (c:CdS) (w d:Int) (n:List (List C)):Ru:=@Classical.epsilon _ ⟨ru0⟩ (bgP c w d n)
def rEE:Pz (List Arg):=⟨Int × Int,fun x=>[pI x.1,pI x.2],fun l=>match l with
 |[.pl (.c (.i .i64 e)),.pl (.c (.i .i64 a))]=>some (e,a)
 |_=>none,fun b x e=>by split at e <;> cases e;rfl⟩
structure EqE (a:Int × Int) (b:Int × Int):Prop where
 e:a=b
structure EqR (a b:Ru):Prop where
 e:a=b
structure BgX (c:CdS) (d:Int) (n:List (List C)):Prop where
 x:RdX c
 y:d<=64
 q:Rw fI (fun _=>True) n
 l:n.length<=16
theorem ckX {c:CdS}(h:RdX c):Tot T1 (mkc rEE b0 (fun r _=>EqE r (ckF (Jaz c))) True) 34 [.pl (.ag (fCd.f c))]:=by
 obtain⟨x,hx,rfl⟩:=h;have sp:Does T1 34 [.pl (.ag (fCd.f (cdK x)))] [pI (ckF (cdK x)).1,pI (ckF (cdK x)).2] []:=Classical.epsilon_spec (p:=fun r:Int × Int=>Does T1 34 [.pl (.ag (fCd.f (cdK x)))] [pI r.1,pI r.2] []) (Jhj hx);exact⟨(((ckF (cdK x)).1,(ckF (cdK x)).2),()),⟨rfl⟩,sp.wka (JhW x)⟩
theorem bgX {c:CdS}{w d:Int}{n:List (List C)}(h:BgX c d n):Tot T1 (mkc (rBo fR) b0 (fun r _=>EqR r (bgF (Jay c) w d n)) True) 30 [.pl (.ag (fCd.f c)),pI w,pI d,.pl (.c (.r false 1 n))]:=by
 obtain⟨⟨x,hx,rfl⟩,hd,hn,hl⟩:=h
 have sp:bgP (cdW x) w d n (bgF (cdW x) w d n):=@Classical.epsilon_spec _ (bgP (cdW x) w d n) (by
  obtain⟨⟨r,u⟩,e,hd⟩:=jZH (JbV hx) w d (by omega) hn (by omega)
  exact⟨r,e,hd⟩)
 exact Tot.vr (p:=True) (B:=b0) ⟨(bgF (cdW x) w d n,()),⟨rfl⟩,sp.2.wka (JhU x)⟩ rfl rfl fun _=>rfl
noncomputable def ctSt:Cts:=ctp 33 (kA (aC aSs aN) fun a=>mkc rCE b0 (fun(r:CdS × Int × Int) _=>RdR a.1 r.1 r.2.1) True) <|ctp 34 (kA (aC (aG fCd) aN) fun a=>mkc rEE b0 (fun r _=>EqE r (ckF (Jaz a.1))) (RdX a.1)) <|ctp 30 (kA (aC (aG fCd) <|aC aI <|aC aI <|aC (aR 1) aN) fun a=>mkc (rBo fR) b0 (fun r _=>EqR r (bgF (Jay a.1) a.2.1 a.2.2.1 a.2.2.2.1)) (BgX a.1 a.2.2.1 a.2.2.2.1)) ct0
theorem Jef:Good T1 ctSt:=by
 unfold ctSt;refine Good.ad1 (Good.ad1 (Good.ad1 Jae ?_) ?_) ?_
 .rintro a h;exact bgX h
 .rintro a h;exact ckX h
 .rintro a -;exact Tot.vr (jem _) rfl rfl fun _=>rfl
def fM0:Pz (List C):=⟨Unit,fun _=>[.pn],fun l=>match l with
 |[.pn]=>some ()
 |_=>none,fun b x e=>by split at e <;> cases e;rfl⟩
def fM1:Pz (List C):=⟨Ru,fun r=>[.bx (fR.f r)],fun l=>match l with
 |[.bx l]=>fR.un l
 |_=>none,fun b x e=>by
  rcases b with _|⟨c,_|⟨d,b⟩⟩
  .cases e
  .cases c <;> first|(cases e;done)|exact congrArg (fun l=>[C.bx l]) (fR.ok _ _ e)
  .cases c <;> cases e⟩
structure StY (s:ByteArray) (w d:Int) (n:List (List C)):Prop where
 w:0<=w/\w<=4096
 d:1<=d/\d<=64
 l:n.length<=16
 r:rdE s=0
 k:(ckF (Jaz (rdC s))).1=0
structure St0 (e a:Int):Prop where
 q:e=0/\a=0
noncomputable def stE (s:ByteArray) (w d:Int) (n:List (List C)):Int:=if w<0\/w >4096 then 21 else if d<1\/d >64 then 22 else if(n.length:Int) >16 then 23 else if rdE s≠0 then rdE s else(ckF (Jaz (rdC s))).1
structure StN (s:ByteArray) (w d:Int) (n:List (List C)) (e:Int):Prop where
 z:e≠0
 q:e=stE s w d n
theorem Jfj {s:ByteArray}{w d:Int}{n:List (List C)}(hn:Rw fI (fun _=>True) n) (h:StY s w d n):Tot T1 (mkc rEE (bS fM1) (fun r m=>St0 r.1 r.2/\EqR m (bgF (Jay (rdC s)) w d n)) True) 19 [.bp [.pn],pSs s,pI w,pI d,.pl (.c (.r false 1 n))]:=vR (⟨hM,[],[],[]⟩) Jef [] [false,false] Tryz.func19 (br (decide (w<0)) (true=true/\False) (br (decide (w >4096)) False (br (decide (d<1)) (true=true/\False) (br (decide (d >64)) False (br (decide (↑n.length >(16:Int))) False (True/\∀(x:(CdS × Int × Int) × Unit),RdR s x.1.1 x.1.2.1->br (decide (x.1.2.1≠0)) False (RdX x.1.1/\∀(x_1:(Int × Int) × Unit),EqE x_1.1 (ckF (Jaz x.1.1))->br (decide (x_1.1.1≠0)) False (BgX x.1.1 d n/\∀(x_2:Ru × Unit),EqR x_2.1 (bgF (Jay x.1.1) w d n)->St0 0 0/\EqR x_2.1 (bgF (Jay (rdC s)) w d n))))))))) (by kernel_rfl) (by
 obtain⟨J,hd,hl,E,hk⟩:=h;refine⟨fun q=>by have:=dt q;omega,fun _=>⟨fun q=>by have:=dt q;omega,fun _=>⟨fun q=>by have:=dt q;omega,fun _=>⟨fun q=>by have:=dt q;omega,fun _=>⟨fun q=>by have:=dt q;omega,fun _=>⟨trivial,fun⟨⟨c,e,a⟩,_⟩ hR=>?_⟩⟩⟩⟩⟩⟩;have ez:=hR.z
 dsimp only at ez ⊢
 refine⟨fun q=>absurd (ez.trans E) (dt q),fun q=>?_⟩;have B:c=rdC s:=hR.y (ez.trans E)
 have X:RdX c:=⟨s,E,B⟩
 refine⟨X,fun⟨⟨e2,a2⟩,_⟩ ⟨e3⟩=>?_⟩
 have G:e2=0:=by
  have:e2=(ckF (Jaz c)).1:=congrArg Prod.fst e3;rw[this,B];exact hk
 exact⟨fun q=>absurd G (dt q),fun _=>⟨⟨X,hd.2,hn,hl⟩,fun⟨r,_⟩ ⟨er⟩=>⟨⟨rfl,rfl⟩,⟨by rw[<-B];exact er⟩⟩⟩⟩)
theorem Jcc {s:ByteArray}{w d:Int}{n:List (List C)}(hn:Rw fI (fun _=>True) n) (h:¬StY s w d n):Tot T1 (mkc rEE (bS fM0) (fun r m=>StN s w d n r.1) True) 19 [.bp [.pn],pSs s,pI w,pI d,.pl (.c (.r false 1 n))]:=vR (⟨hM,[],[],[]⟩) Jef [] [false,false] Tryz.func19 (br (decide (w<0)) (true=true/\StN s w d n 21) (br (decide (w >4096)) (StN s w d n 21) (br (decide (d<1)) (true=true/\StN s w d n 22) (br (decide (d >64)) (StN s w d n 22) (br (decide (↑n.length >(16:Int))) (StN s w d n 23) (True/\∀(x:(CdS × Int × Int) × Unit),RdR s x.1.1 x.1.2.1->br (decide (x.1.2.1≠0)) (StN s w d n x.1.2.1) (RdX x.1.1/\∀(x_1:(Int × Int) × Unit),EqE x_1.1 (ckF (Jaz x.1.1))->br (decide (x_1.1.1≠0)) (StN s w d n x_1.1.1) (BgX x.1.1 d n/\∀(x_2:Ru × Unit),EqR x_2.1 (bgF (Jay x.1.1) w d n)->False)))))))) (by kernel_rfl) (by
 refine⟨fun q=>⟨rfl,by decide,by unfold stE;rw[if_pos (.inl (dt q))]⟩,fun M=>⟨fun q=>⟨by decide,by unfold stE;rw[if_pos (.inr (dt q))]⟩,fun h2=>?_⟩⟩;have M:=df M;have h2:=df h2;have nw:¬(w<0\/w >4096):=by omega
 refine⟨fun q=>⟨rfl,by decide,by unfold stE;rw[if_neg nw,if_pos (.inl (dt q))]⟩,fun O=>⟨fun q=>⟨by decide,by unfold stE;rw[if_neg nw,if_pos (.inr (dt q))]⟩,fun P=>?_⟩⟩;have O:=df O;have P:=df P;have nd:¬(d<1\/d >64):=by omega
 refine⟨fun q=>⟨by decide,by unfold stE;rw[if_neg nw,if_neg nd,if_pos (dt q)]⟩,fun B=>⟨trivial,fun⟨⟨c,e,a⟩,_⟩ hR=>?_⟩⟩;have B:=df B;have ez:=hR.z
 dsimp only at ez ⊢
 refine⟨fun q=>⟨dt q,by unfold stE;rw[if_neg nw,if_neg nd,if_neg B,if_pos (by rw[<-ez];exact dt q)];exact ez⟩,fun q=>?_⟩;have q:e=0:=Decidable.not_not.1 (df q);have E:c=rdC s:=hR.y q;have G:rdE s=0:=ez.symm.trans q
 have X:RdX c:=⟨s,G,E⟩
 refine⟨X,fun⟨⟨e2,a2⟩,_⟩ ⟨e3⟩=>?_⟩;have J:e2=(ckF (Jaz c)).1:=congrArg Prod.fst e3;refine⟨fun q=>⟨dt q,by unfold stE;rw[if_neg nw,if_neg nd,if_neg B,if_neg (fun z=>z G),<-E];exact J⟩,fun q=>absurd ⟨by omega,by omega,by omega,G,?_⟩ h⟩;have q:e2=0:=Decidable.not_not.1 (df q)
 rw[<-E,<-J];exact q)
end V
end Go.Proofs.YtnhbcdnmfafbiaaGreatDoor
namespace Go.Proofs.YtnhbcdnmfafbiaaGreatDoor
namespace V
open Go.Proofs
structure StC (c:CdS) (w d:Int) (n:List (List C)):Prop where
 e:∃s,phi c s/\StY s w d n
theorem StY.cls {c:CdS}(h:Rw fL jKy c.L) {s B:ByteArray}(a:phi c s) (b:phi c B) {w d:Int}{n:List (List C)}(q:StY s w d n):StY B w d n:=by
 obtain⟨E,G⟩:=Jci h a b;have J:=(G q.r).1;exact⟨q.w,q.d,q.l,by rw[E];exact q.r,by rw[show Jaz (rdC B)=Jaz (rdC s)from J];exact q.k⟩
theorem Jfn {c:CdS}(h:Rw fL jKy c.L) {s B:ByteArray}(a:phi c s) (b:phi c B) (w d:Int) (n:List (List C)):stE B w d n=stE s w d n:=by
 obtain⟨E,G⟩:=Jci h a b;unfold stE;rw[E]
 by_cases q:rdE s=0
 .rw[show Jaz (rdC B)=Jaz (rdC s)from(G q).1]
 .rw[if_pos q,if_pos q]
noncomputable def ruF (c:CdS) (w d:Int) (n:List (List C)):Ru:=open Classical in if h:∃s,phi c s/\StY s w d n then bgF (Jay (rdC h.choose)) w d n else ru0
noncomputable def seF (c:CdS) (w d:Int) (n:List (List C)):Int:=open Classical in if h:∃s,phi c s then stE h.choose w d n else 1
def us1 (c:CdS):Arg:=.pl (.c (.us (phi c)))
theorem Jc3 {c:CdS}{w:World}{A:Nat->Prop}{mo:Nat->Mo}{fp:Nat->List Nat}{v:Value}(h:TV w A mo fp (.c (.us (phi c))) v):∃s,phi c s/\TV w A mo fp (.c (.s s)) v:=by
 have h:RC w A (.us (phi c)) v []:=h
 cases h with
 |us p=>exact⟨_,p,RC.s _⟩
theorem fn19:jRb T1.P 19:=by
 by_cases q:StY ByteArray.empty (-1) 0 []
 .exact absurd q.w.1 (by decide)
 .exact(Jcc Rw.nil q).choose_spec.2.1
theorem Jfk {c:CdS}(E:jLh c) {w d:Int}{n:List (List C)}(hn:Rw fI (fun _=>True) n) (h:StC c w d n):Does T1 19 [.bp [.pn],us1 c,pI w,pI d,.pl (.c (.r false 1 n))] [pI 0,pI 0] [[.bx (fR.f (ruF c w d n))]]:=by
 refine Does.ref1 fn19 fun W A mo fp v hv=>?_;obtain⟨s,hs,M⟩:=Jc3 hv;refine⟨_,M,?_⟩;have B:∃s,phi c s/\StY s w d n:=h.e;have P:=B.choose_spec.2.cls E.L B.choose_spec.1 hs;obtain⟨⟨⟨e,a⟩,r⟩,⟨⟨G,J⟩,⟨O⟩⟩,hd⟩:=Jfj hn P
 dsimp only at G J
 have er:r=ruF c w d n:=by
  unfold ruF;rw[dif_pos B];refine O.trans ?_;rw[show Jay (rdC s)=Jay (rdC B.choose)from((Jci E.L B.choose_spec.1 hs).2 B.choose_spec.2.r).2]
 subst G J er;exact hd
theorem Jfl {c:CdS}(M:jLh c) {w d:Int}{n:List (List C)}(hn:Rw fI (fun _=>True) n) (h:¬StC c w d n):Does T1 19 [.bp [.pn],us1 c,pI w,pI d,.pl (.c (.r false 1 n))] [pI (seF c w d n),.pl (.c .ui)] [[.pn]]/\((∃s,phi c s)->seF c w d n≠0):=by
 have G:∀s,phi c s->stE s w d n=seF c w d n:=fun s hs=>by
  have J:∃s,phi c s:=⟨s,hs⟩
  unfold seF;rw[dif_pos J];exact Jfn M.L J.choose_spec hs w d n
 constructor
 .refine Does.ref1 fn19 fun W A mo fp v hv=>?_
  obtain⟨s,hs,O⟩:=Jc3 hv;refine⟨_,O,?_⟩;obtain⟨⟨⟨e,a⟩,r⟩,⟨E,B⟩,hd⟩:=Jcc hn (s:=s) fun q=>h ⟨⟨s,hs,q⟩⟩
  dsimp only at E B
  rw[G s hs]at B;subst B;exact Does.wk2 hd (.j _)
 .rintro ⟨s,hs⟩
  obtain⟨⟨⟨e,a⟩,r⟩,⟨E,B⟩,hd⟩:=Jcc hn (s:=s) fun q=>h ⟨⟨s,hs,q⟩⟩
  dsimp only at E B
  rw[G s hs]at B;rw[<-B];exact E
end V
end Go.Proofs.YtnhbcdnmfafbiaaGreatDoor
set_option maxRecDepth 100000
namespace Go.Proofs.YtnhbcdnmfafbiaaGreatDoor
namespace V
open Go.Proofs
theorem Jf0 {c:CdS}(h:jLh c):∃s,phi c s:=by
 let L':List (List C):=c.L.map fun e=>e.take 4 ++[I 0]
 have i:In0 c.L L':=⟨List.length_map ..,fun j l hj=>⟨0,by
  show(c.L.map _)[j]? =_
  rw[List.getElem?_map,hj];rfl,.inl rfl⟩⟩
 have r:Rw fL5 Tt L':=fun e he=>by
  obtain⟨e0,h0,rfl⟩:=List.mem_map.1 he;obtain⟨l,rfl,_⟩:=h.L e0 h0;exact⟨(l.o,l.r,l.x,l.y,0),rfl,trivial⟩
 have p:ByP ⟨c.F,c.K,L'⟩:=⟨fun e he=>(h.F e he).imp fun _ q=>⟨q.1,trivial⟩,fun e he=>(h.K e he).imp fun _ q=>⟨q.1,trivial⟩,r,h.f,h.k,by show L'.length<=_;rw[i.n];exact h.l⟩
 obtain⟨⟨s,u⟩,hs,_⟩:=Jad p;exact⟨s,L',i,p,hs⟩
def fN0:Pz (List C):=⟨Unit,fun _=>[],fun l=>match l with
 |[]=>some ()
 |_=>none,fun b x e=>by split at e <;> cases e;rfl⟩
structure GoQ (r:Ru):Prop where
 o:jJG r 0
 g:0<=r.gr/\r.gr<=65536
 s:r.st<=r.gr
def goP (r:Ru) (n:Int) (x:Rs × Ru):Prop:=GoR x.1/\Does T 31 [pR r,pI n] [.pl (.ag (fRs.f x.1))] [fR.f x.2]
def rs0:Rs:=⟨0,0,[],0,0,0,0⟩
noncomputable def goA (r:Ru) (n:Int):Rs × Ru:=@Classical.epsilon _ ⟨(rs0,ru0)⟩ (goP r n)
noncomputable def goF (r:Ru) (n:Int):Rs:=(goA r n).1
noncomputable def goU (r:Ru) (n:Int):Ru:=(goA r n).2
structure EqS (a b:Rs):Prop where
 e:a=b
theorem Jd0 {r:Ru}(h:GoQ r) (n:Int):goP r n (goA r n):=@Classical.epsilon_spec _ (goP r n) (by
 obtain⟨⟨x,r'⟩,e,hd⟩:=jYr h.o h.g h.s n
 exact⟨(x,r'),e,hd⟩)
theorem goX {r:Ru}(h:GoQ r) (n:Int):Tot T1 (mkc (rS fRs) bR (fun x r'=>EqS x (goF r n)/\EqR r' (goU r n)) True) 31 [pR r,pI n]:=by
 exact Tot.vr (p:=True) (B:=bR) ⟨(goF r n,goU r n),⟨⟨rfl⟩,⟨rfl⟩⟩,(Jd0 h n).2⟩ rfl rfl fun _=>rfl
noncomputable def ctGo:Cts:=ctp 31 (kA (aC (aP fR) <|aC aI aN) fun a=>mkc (rS fRs) bR (fun x r'=>EqS x (goF a.1 a.2.1)/\EqR r' (goU a.1 a.2.1)) (GoQ a.1)) ct0
theorem JhN:Good T1 ctGo:=by
 unfold ctGo;refine Good.ad1 Jae ?_;rintro a h;exact goX h _
theorem Jgo {r:Ru}(h:GoQ r) (n:Int):Tot T1 (mkc (rS fRs) (bS fM1) (fun x r'=>EqS x (goF r n)/\EqR r' (goU r n)) True) 20 [.bp [.bx (fR.f r)],pI n]:=vF (⟨hM,[],[],[]⟩) JhN Tryz.func20 (br false (EqS {e:=20,v:=0,o:=[],s:=0,r:=0,g:=0,u:=0} (goF r n)/\EqR r (goU r n)) (GoQ r/\∀(x:Rs × Ru),EqS x.1 (goF r n)/\EqR x.2 (goU r n)->EqS x.1 (goF r n)/\EqR x.2 (goU r n))) (by kernel_rfl) ⟨fun q=>(by cases q),fun _=>⟨h,fun _ hx=>hx⟩⟩
theorem JdD:Tot T1 (mkc (rBo fN0) b0 (fun _ _=>True) True) 6 []:=vR (⟨hM,[],[],[]⟩) Jae [] [true] Tryz.func6 True (by kernel_rfl) trivial
theorem JgA:Tot T1 (mkc (rBo fM0) b0 (fun _ _=>True) True) 18 []:=vR (⟨hM,[],[],[]⟩) Jae [] [true] Tryz.func18 True (by kernel_rfl) trivial
theorem Jdf {c:CdS}{w d:Int}{n:List (List C)}(hn:Rw fI (fun _=>True) n) (h:StC c w d n):GoQ (ruF c w d n):=by
 have B:∃s,phi c s/\StY s w d n:=h.e;have Y:=B.choose_spec.2;unfold ruF;rw[dif_pos B]
 have sp:bgP (cdW B.choose) w d n (bgF (cdW B.choose) w d n):=@Classical.epsilon_spec _ (bgP (cdW B.choose) w d n) (by
  obtain⟨⟨r,u⟩,e,hd⟩:=jZH (JbV Y.r) w d (by have:=Y.d;omega) hn (by have:=Y.l;omega)
  exact⟨r,e,hd⟩)
 have b:=sp.1;exact⟨b.ok,by rw[show(bgF (Jay (rdC B.choose)) w d n).gr=0 from b.gr];omega,by rw[show(bgF (Jay (rdC B.choose)) w d n).gr=0 from b.gr,show(bgF (Jay (rdC B.choose)) w d n).st=0 from b.st];omega⟩
def rRB:Pz (List Arg):=⟨Rs × Bool,fun x=>[.pl (.ag (fRs.f x.1)),pB x.2],fun l=>match l with
 |[.pl (.ag v),.pl (.c (.b b))]=>(match fRs.un v with
  |some w=>some (w,b)
  |none=>none)
 |_=>none,fun b x e=>by
  split at e
  .split at e
   .rename_i h;cases e;rw[fRs.ok _ _ h];rfl
   .cases e
  .cases e⟩
noncomputable def Jbs:Cts:=ctp 6 (kA aN fun _=>mkc (rBo fN0) b0 (fun _ _=>True) True) <|ctp 18 (kA aN fun _=>mkc (rBo fM0) b0 (fun _ _=>True) True) ct0
theorem JcI:Good T1 Jbs:=by
 unfold Jbs;refine Good.ad1 (Good.ad1 Jae ?_) ?_
 .rintro a -;exact JgA
 .rintro a -;exact JdD
noncomputable def ctRA:Cts:=ctp 8 (kA (aC (aQ fN0) <|aC aSs aN) fun a=>mkc rSE b0 (fun r _=>CmA a.2.1 r.1 r.2.1 r.2.2) (RfA a.2.1)) Jbs
theorem JhG:Good T1 ctRA:=by
 unfold ctRA;refine Good.ad1 JcI ?_;rintro a h;exact Jeu h
noncomputable def ctRB:Cts:=ctp 8 (kA (aC (aQ fN0) <|aC aSs aN) fun a=>mkc rSU b0 (fun r _=>CmB a.2.1 r.2) (RfB a.2.1)) Jbs
theorem JhF:Good T1 ctRB:=by
 unfold ctRB;refine Good.ad1 JcI ?_;rintro a h;exact Jet h
structure RnN (r:Rs) (b:Bool):Prop where
 q:r=rs0/\b=false
def ruH:Hy:=⟨hM,[],[(2,[(12,3000012)]),(6,[(16,3000016)])],[]⟩
theorem JfF {x:ByteArray}(h:RfA x) (n:List (List C)) (w d f:Int):Tot T1 (mkc rRB b0 (fun r _=>RnN r.1 r.2) True) 9 [pSs x,.pl (.c (.r false 1 n)),pI w,pI d,pI f]:=vR ruH JhG [] [false,false] Tryz.func9 (True/\∀(x_1:Unit × Unit),True->RfA x/\∀(x_2:(ByteArray × Int × Int) × Unit),CmA x x_2.1.1 x_2.1.2.1 x_2.1.2.2->br (decide (x_2.1.2.1≠0)) (RnN {e:=0,v:=0,o:=[],s:=0,r:=0,g:=0,u:=0} false) (True/\∀(x:Unit × Unit),True->False)) (by kernel_rfl) ⟨trivial,fun _ _=>⟨h,fun⟨⟨s,e,a⟩,_⟩ ⟨⟨e1,_⟩⟩=>⟨fun _=>⟨rfl,rfl⟩,fun q=>absurd (e1.symm.trans (Decidable.not_not.1 (df q))) h.q⟩⟩⟩
theorem JfE {x:ByteArray}(h:RfB x) (n:List (List C)) (w d f:Int):Tot T1 (mkc rRB b0 (fun r _=>RnN r.1 r.2) True) 9 [pSs x,.pl (.c (.r false 1 n)),pI w,pI d,pI f]:=vR ruH JhF [] [false,false] Tryz.func9 (True/\∀(x_1:Unit × Unit),True->RfB x/\∀(x_2:(ByteArray × Int) × Unit),CmB x x_2.1.2->br (decide (x_2.1.2≠0)) (RnN {e:=0,v:=0,o:=[],s:=0,r:=0,g:=0,u:=0} false) (True/\∀(x:Unit × Unit),True->False)) (by kernel_rfl) ⟨trivial,fun _ _=>⟨h,fun⟨⟨s,e⟩,_⟩ ⟨e1⟩=>⟨fun _=>⟨rfl,rfl⟩,fun q=>absurd (e1.symm.trans (Decidable.not_not.1 (df q))) h.t⟩⟩⟩
def aUs:Pz Arg:=⟨ByteArray->Prop,fun p=>.pl (.c (.us p)),fun x=>match x with
 | .pl (.c (.us p))=>some p
 |_=>none,fun b x e=>by split at e <;> cases e;rfl⟩
structure UsP (c:CdS) (p:ByteArray->Prop) (n:List (List C)):Prop where
 k:jLh c
 e:p=phi c
 r:Rw fI (fun _=>True) n
structure UsN (c:CdS) (p:ByteArray->Prop) (w d:Int) (n:List (List C)):Prop where
 p:UsP c p n
 s:¬StC c w d n
structure UsY (c:CdS) (p:ByteArray->Prop) (w d:Int) (n:List (List C)):Prop where
 p:UsP c p n
 s:StC c w d n
structure NzI (e:Int):Prop where
 q:e≠0
theorem Je6 {c:CdS}{p:ByteArray->Prop}{w d:Int}{n:List (List C)}(h:UsN c p w d n):Tot T1 (mkc rEU (bS fM0) (fun e _=>NzI e) True) 19 [.bp (fM0.f ()),.pl (.c (.us p)),pI w,pI d,.pl (.c (.r false 1 n))]:=by
 obtain⟨⟨hk,rfl,B⟩,hs⟩:=h;have q:=Jfl hk B hs;exact⟨(seF c w d n,()),⟨q.2 (Jf0 hk)⟩,q.1⟩
theorem Je5 {c:CdS}{p:ByteArray->Prop}{w d:Int}{n:List (List C)}(h:UsY c p w d n):Tot T1 (mkc rEE (bS fM1) (fun r m=>St0 r.1 r.2/\EqR m (ruF c w d n)) True) 19 [.bp (fM0.f ()),.pl (.c (.us p)),pI w,pI d,.pl (.c (.r false 1 n))]:=by
 obtain⟨⟨hk,rfl,B⟩,hs⟩:=h;exact⟨((0,0),ruF c w d n),⟨⟨rfl,rfl⟩,⟨rfl⟩⟩,Jfk hk B hs⟩
noncomputable def JbT:Cts:=ctp 8 (kA (aC (aQ fN0) <|aC aSs aN) fun a=>mkc rUE b0 (fun r _=>CmC a.2.1 r.1 r.2.1 r.2.2) (RfC a.2.1)) Jbs
theorem Jei:Good T1 JbT:=by
 unfold JbT;refine Good.ad1 JcI ?_;rintro a h;exact Jes h
noncomputable def JcH (c:CdS):Cts:=ctp 19 (kA (aC (aP fM0) <|aC aUs <|aC aI <|aC aI <|aC (aR 1) aN) fun a=>mkc rEU (bS fM0) (fun e _=>NzI e) (UsN c a.2.1 a.2.2.1 a.2.2.2.1 a.2.2.2.2.1)) JbT
theorem JhE (c:CdS):Good T1 (JcH c):=by
 unfold JcH;refine Good.ad1 Jei ?_;rintro a h;exact Je6 h
noncomputable def JcG (c:CdS):Cts:=ctp 20 (kA (aC (aP fM1) <|aC aI aN) fun a=>mkc (rS fRs) (bS fM1) (fun x r'=>EqS x (goF a.1 a.2.1)/\EqR r' (goU a.1 a.2.1)) (GoQ a.1)) <|ctp 19 (kA (aC (aP fM0) <|aC aUs <|aC aI <|aC aI <|aC (aR 1) aN) fun a=>mkc rEE (bS fM1) (fun r m=>St0 r.1 r.2/\EqR m (ruF c a.2.2.1 a.2.2.2.1 a.2.2.2.2.1)) (UsY c a.2.1 a.2.2.1 a.2.2.2.1 a.2.2.2.2.1)) JbT
theorem JhD (c:CdS):Good T1 (JcG c):=by
 unfold JcG;refine Good.ad1 (Good.ad1 Jei ?_) ?_
 .rintro a h;exact Je5 h
 .rintro a h;exact Jgo h _
theorem JfC {c:CdS}(E:Good T1 (JcH c)) {x:ByteArray}(B:c=JaA x) (h:RfC x) {n:List (List C)}(hn:Rw fI (fun _=>True) n) {w d:Int}(hs:¬StC c w d n) (f:Int):Tot T1 (mkc rRB b0 (fun r _=>RnN r.1 r.2) True) 9 [pSs x,.pl (.c (.r false 1 n)),pI w,pI d,pI f]:=vR ruH (E) [] [false,false] Tryz.func9 (True/\∀(x_1:Unit × Unit),True->RfC x/\∀(x_2:((ByteArray->Prop) × Int × Int) × Unit),CmC x x_2.1.1 x_2.1.2.1 x_2.1.2.2->br (decide (x_2.1.2.1≠0)) (RnN {e:=0,v:=0,o:=[],s:=0,r:=0,g:=0,u:=0} false) (True/\∀(x:Unit × Unit),True->UsN c ((),x_2.1.1,w,d,n,()).2.1 w d n/\∀(x:Int × Unit),NzI x.1->br (decide (x.1≠0)) (RnN {e:=0,v:=0,o:=[],s:=0,r:=0,g:=0,u:=0} false) False)) (by kernel_rfl) (by
 refine⟨trivial,fun _ _=>⟨h,fun⟨⟨p,e,a⟩,_⟩ ⟨⟨e1,e2,e3⟩⟩=>⟨fun q=>absurd e2 (dt q),fun q=>⟨trivial,fun _ _=>⟨⟨⟨by rw[B];exact Jey h.q,by rw[B];exact e1,hn⟩,hs⟩,fun⟨e,_⟩ he=>⟨fun _=>⟨rfl,rfl⟩,fun q=>absurd (Decidable.not_not.1 (df q)) he.q⟩⟩⟩⟩⟩⟩)
structure RnY (c:CdS) (n:List (List C)) (w d f:Int) (r:Rs) (b:Bool):Prop where
 q:r=goF (ruF c w d n) f/\b=true
theorem JfB {c:CdS}(E:Good T1 (JcG c)) {x:ByteArray}(B:c=JaA x) (h:RfC x) {n:List (List C)}(hn:Rw fI (fun _=>True) n) {w d:Int}(hs:StC c w d n) (f:Int):Tot T1 (mkc rRB b0 (fun r _=>RnY c n w d f r.1 r.2) True) 9 [pSs x,.pl (.c (.r false 1 n)),pI w,pI d,pI f]:=vR ruH (E) [] [false,false] Tryz.func9 (True/\∀(x_1:Unit × Unit),True->RfC x/\∀(x_2:((ByteArray->Prop) × Int × Int) × Unit),CmC x x_2.1.1 x_2.1.2.1 x_2.1.2.2->br (decide (x_2.1.2.1≠0)) (RnY c n w d f {e:=0,v:=0,o:=[],s:=0,r:=0,g:=0,u:=0} false) (True/\∀(x:Unit × Unit),True->UsY c ((),x_2.1.1,w,d,n,()).2.1 w d n/\∀(x:(Int × Int) × Ru),St0 x.1.1 x.1.2/\EqR x.2 (ruF c w d n)->br (decide (x.1.1≠0)) (RnY c n w d f {e:=0,v:=0,o:=[],s:=0,r:=0,g:=0,u:=0} false) (GoQ x.2/\∀(x_3:Rs × Ru),EqS x_3.1 (goF x.2 f)/\EqR x_3.2 (goU x.2 f)->RnY c n w d f x_3.1 true))) (by kernel_rfl) (by
 refine⟨trivial,fun _ _=>⟨h,fun⟨⟨p,e,a⟩,_⟩ ⟨⟨e1,e2,e3⟩⟩=>⟨fun q=>absurd e2 (dt q),fun q=>⟨trivial,fun _ _=>⟨⟨⟨by rw[B];exact Jey h.q,by rw[B];exact e1,hn⟩,hs⟩,fun⟨⟨e,a⟩,r⟩ ⟨⟨⟨he,_⟩⟩,⟨er⟩⟩=>⟨fun q=>absurd he (dt q),fun q=>?_⟩⟩⟩⟩⟩⟩
 dsimp only at er ⊢
 subst er
 exact⟨Jdf hn hs,fun⟨x,r⟩ ⟨⟨ex⟩,_⟩=>⟨ex,rfl⟩⟩)
end V
end Go.Proofs.YtnhbcdnmfafbiaaGreatDoor
set_option maxRecDepth 100000
namespace Go.Proofs.YtnhbcdnmfafbiaaGreatDoor
namespace V
open Go.Proofs
structure Jb2 (l a b:List (List C)) (i:Int):Prop where
 e:a=l/\b=l
 q:0<=i/\i<=l.length
def bgiT:Rl Av:=.cons 0 (tR 1) <| .cons 1 (tR 1) <| .cons 5 tI .nil
def bgiH (l:List (List C)):Hy:=⟨h0,[],[],[(4,.iv bgiT .nil (fun q=>Jb2 l q.1.1 q.1.2.1 q.1.2.2.1) fun q=>ixM l.length q.1.2.2.1)]⟩
structure Jbg (l:List (List C)):Prop where
 r:Rw fI (fun _=>True) l
 n:l.length<=1000
theorem Jh1 {l:List (List C)}(h:Jbg l):Tot T1 (mkc rB b0 (fun b _=>b=true) True) 35 [.pl (.c (.r false 1 l)),.pl (.c (.r false 1 l))]:=vF (bgiH l) Jae Tryz.func35 (br (decide ((l.length:Int) >(l.length:Int))) (false=true) (Jb2 l l l 0/\∀(a:(List (List C) × List (List C) × Int × Unit) × Unit),Jb2 l a.1.1 a.1.2.1 a.1.2.2.1->br (decide (a.1.2.2.1<↑(List.length a.1.1))) (0<=a.1.2.2.1/\(∃(y:Int),a.1.1[Int.toNat a.1.2.2.1]? =some [I y])/\∀(x:Int),a.1.1[Int.toNat a.1.2.2.1]? =some [I x]->0<=a.1.2.2.1/\(∃(y:Int),a.1.2.1[Int.toNat a.1.2.2.1]? =some [I y])/\∀(x_1:Int),a.1.2.1[Int.toNat a.1.2.2.1]? =some [I x_1]->br (decide (x≠x_1)) (false=true) (Jb2 l a.1.1 a.1.2.1 (wr (a.1.2.2.1+1))/\ixM l.length (wr (a.1.2.2.1+1))<ixM l.length a.1.2.2.1)) (true=true))) (by kernel_rfl) (by
 obtain⟨B,hn⟩:=h;refine⟨fun q=>absurd (dt q) (by omega),fun _=>⟨⟨⟨rfl,rfl⟩,by omega⟩,fun⟨⟨a,b,i,_⟩,_⟩ ⟨⟨e1,e2⟩,hi⟩=>?_⟩⟩
 dsimp only at e1 e2 hi ⊢
 subst e1 e2;refine⟨fun q=>?_,fun _=>rfl⟩;have q:=dt q;have ex:∃y:Int,b[i.toNat]? =some [I y]:=B.at (show i.toNat<b.length by omega);refine⟨by omega,ex,fun x hx=>⟨by omega,ex,fun y hy=>?_⟩⟩
 have e:x=y:=by
  rw[hx]at hy;have:=Option.some.inj hy;simp only[I,List.cons.injEq,C.i.injEq,true_and,and_true]at this;exact this
 refine⟨fun z=>absurd e (dt z),fun _=>?_⟩;rw[JaN (by omega)]
 exact⟨⟨⟨rfl,rfl⟩,by omega⟩,by unfold ixM;omega⟩)
structure JbY (a b:List (List C)):Prop where
 e:a=b
 r:Jbg a
def ctBe:Cts:=ctp 35 (kA (aC (aR 1) <|aC (aR 1) aN) fun a=>mkc rB b0 (fun b _=>b=true) (JbY a.1 a.2.1)) ct0
theorem JhS:Good T1 ctBe:=by
 unfold ctBe;refine Good.ad1 Jae ?_;rintro ⟨x,y,_⟩ ⟨e,h⟩
 dsimp only at e h
 subst e;exact Jh1 h
theorem Jfy {l:List (List C)}(h:Jbg l):Tot T1 (mkc rB b0 (fun b _=>b=true) True) 21 [.pl (.c (.r false 1 l)),.pl (.c (.r false 1 l))]:=vF hy JhS Tryz.func21 (br (decide ((l.length:Int)≠(l.length:Int))) (false=true) (JbY l l/\∀(x:Bool × Unit),x.1=true->x.1=true)) (by kernel_rfl) ⟨fun q=>absurd rfl (dt q),fun _=>⟨⟨rfl,h⟩,fun _ hx=>hx⟩⟩
def ctSi:Cts:=ctp 21 (kA (aC (aR 1) <|aC (aR 1) aN) fun a=>mkc rB b0 (fun b _=>b=true) (JbY a.1 a.2.1)) ct0
theorem Jhw:Good T1 ctSi:=by
 unfold ctSi;refine Good.ad1 Jae ?_;rintro ⟨x,y,_⟩ ⟨e,h⟩
 dsimp only at e h
 subst e;exact Jfy h
theorem Jh5 {x:Rs}(h:Jbg x.o):Tot T1 (mkc rB b0 (fun b _=>b=true) True) 10 [.pl (.ag (fRs.f x)),.pl (.ag (fRs.f x))]:=vF hy Jhw Tryz.func10 (br (decide (x.e≠x.e)) (true=true/\false=true) (br (decide (x.v≠x.v)) (true=true/\false=true) (br (decide (x.r≠x.r)) (true=true/\false=true) (br (decide (x.s≠x.s)) (false=true) (JbY x.o x.o/\∀(x:Bool × Unit),x.1=true->x.1=true))))) (by kernel_rfl) ⟨fun q=>absurd rfl (dt q),fun _=>⟨fun q=>absurd rfl (dt q),fun _=>⟨fun q=>absurd rfl (dt q),fun _=>⟨fun q=>absurd rfl (dt q),fun _=>⟨⟨rfl,h⟩,fun _ hx=>hx⟩⟩⟩⟩⟩
structure RnC (x:ByteArray) (w d:Int) (n:List (List C)):Prop where
 r:RfC x
 s:StC (JaA x) w d n
noncomputable def rnF (x:ByteArray) (w d f:Int) (n:List (List C)):Rs × Bool:=open Classical in if RnC x w d n then(goF (ruF (JaA x) w d n) f,true) else(rs0,false)
structure RnR (x:ByteArray) (w d f:Int) (n:List (List C)) (r:Rs) (b:Bool):Prop where
 q:(r,b)=rnF x w d f n
theorem JfA (x:ByteArray) {n:List (List C)}(hn:Rw fI (fun _=>True) n) (w d f:Int):Tot T1 (mkc rRB b0 (fun r _=>RnR x w d f n r.1 r.2) True) 9 [pSs x,.pl (.c (.r false 1 n)),pI w,pI d,pI f]:=by
 have no:¬RnC x w d n->∀r b,RnN r b->RnR x w d f n r b:=fun h r b ⟨q⟩=>⟨by unfold rnF;rw[if_neg h,q.1,q.2]⟩
 by_cases B:(trF x).2.1=0
 .by_cases hB:JaO x=0
  .by_cases hS:StC (JaA x) w d n
   .obtain⟨⟨⟨r,b⟩,u⟩,e,hd⟩:=JfB (JhD (JaA x)) rfl ⟨B,hB⟩ hn hS f
    refine⟨((r,b),u),⟨?_⟩,hd⟩;unfold rnF;rw[if_pos ⟨⟨B,hB⟩,hS⟩];exact congr (congrArg Prod.mk e.q.1) e.q.2
   .obtain⟨⟨⟨r,b⟩,u⟩,e,hd⟩:=JfC (JhE (JaA x)) rfl ⟨B,hB⟩ hn hS f
    exact⟨((r,b),u),no (fun h=>hS h.s) _ _ e,hd⟩
  .obtain⟨⟨⟨r,b⟩,u⟩,e,hd⟩:=JfE ⟨B,hB⟩ n w d f
   exact⟨((r,b),u),no (fun h=>hB h.r.t) _ _ e,hd⟩
 .obtain⟨⟨⟨r,b⟩,u⟩,e,hd⟩:=JfF ⟨B⟩ n w d f
  exact⟨((r,b),u),no (fun h=>B h.r.q) _ _ e,hd⟩
theorem Jdg (x:ByteArray) {n:List (List C)}(hn:Rw fI (fun _=>True) n) (w d f:Int):Jbg (rnF x w d f n).1.o:=by
 unfold rnF
 split
 .rename_i h
  have g:=(Jd0 (Jdf hn h.s) f).1;exact⟨g.o,g.n⟩
 .exact⟨Rw.nil,by decide⟩
theorem Two.rn {x y:ByteArray}(h:Two x y) (hx:(trF x).2.1=0) (w d f:Int) (n:List (List C)):rnF y w d f n=rnF x w d f n:=by
 have e:RnC y w d n↔RnC x w d n:=⟨fun q=>⟨⟨hx,by rw[<-h.tf];exact q.r.t⟩,by rw[<-h.cd];exact q.s⟩,fun q=>⟨⟨h.e,by rw[h.tf];exact q.r.t⟩,by rw[h.cd];exact q.s⟩⟩
 unfold rnF;rw[h.cd]
 by_cases q:RnC x w d n
 .rw[if_pos q,if_pos (e.2 q)]
 .rw[if_neg q,if_neg fun z=>q (e.1 z)]
end V
end Go.Proofs.YtnhbcdnmfafbiaaGreatDoor
set_option maxRecDepth 100000
namespace Go.Proofs.YtnhbcdnmfafbiaaGreatDoor
namespace V
open Go.Proofs
structure Dk where
 (n:List (List C))
 (w d f m:Int)
def fDk:Pz (List C):=⟨Dk,fun k=>[.r false 1 k.n,I k.w,I k.d,I k.f,I k.m],fun l=>match l with
 |[.r false 1 n,.i .i64 w,.i .i64 d,.i .i64 f,.i .i64 m]=>some ⟨n,w,d,f,m⟩
 |_=>none,fun b x e=>by split at e <;> cases e;rfl⟩
structure InP (n:List (List C)):Prop where
 r:Rw fI (fun _=>True) n
noncomputable def JbS:Cts:=ctp 6 (kA aN fun _=>mkc (rBo fN0) b0 (fun _ _=>True) True) <|ctp 7 (kA (aC (aQ fN0) <|aC aSs aN) fun a=>mkc rSE b0 (fun r _=>ShR a.2.1 r.1 r.2.1 r.2.2) True) <|ctp 9 (kA (aC aSs <|aC (aR 1) <|aC aI <|aC aI <|aC aI aN) fun a=>mkc rRB b0 (fun r _=>RnR a.1 a.2.2.1 a.2.2.2.1 a.2.2.2.2.1 a.2.1 r.1 r.2) (InP a.2.1)) ct0
theorem Jeh:Good T1 JbS:=by
 unfold JbS;refine Good.ad1 (Good.ad1 (Good.ad1 Jae ?_) ?_) ?_
 .rintro a ⟨h⟩;exact JfA _ h _ _ _
 .rintro a -;exact jVm _
 .rintro a -;exact JdD
noncomputable def ctSA:Cts:=ctp 8 (kA (aC (aQ fN0) <|aC aSs aN) fun a=>mkc rSE b0 (fun r _=>CmA a.2.1 r.1 r.2.1 r.2.2) (RfA a.2.1)) JbS
theorem Jhz:Good T1 ctSA:=by
 unfold ctSA;refine Good.ad1 Jeh ?_;rintro a h;exact Jeu h
structure Alk (a b:Rs):Prop where
 e:a=b
 r:Jbg a.o
noncomputable def JbR:Cts:=ctp 10 (kA (aC (aG fRs) <|aC (aG fRs) aN) fun a=>mkc rB b0 (fun b _=>b=true) (Alk a.1 a.2.1)) JbS
theorem Jeg:Good T1 JbR:=by
 unfold JbR;refine Good.ad1 Jeh ?_;rintro ⟨x,y,_⟩ ⟨e,h⟩
 dsimp only at e h
 subst e;exact Jh5 h
noncomputable def ctSB:Cts:=ctp 8 (kA (aC (aQ fN0) <|aC aSs aN) fun a=>mkc rSU b0 (fun r _=>CmB a.2.1 r.2) (RfB a.2.1)) JbR
theorem Jhy:Good T1 ctSB:=by
 unfold ctSB;refine Good.ad1 Jeg ?_;rintro a h;exact Jet h
noncomputable def ctSC:Cts:=ctp 8 (kA (aC (aQ fN0) <|aC aSs aN) fun a=>mkc rUE b0 (fun r _=>CmC a.2.1 r.1 r.2.1 r.2.2) (RfC a.2.1)) JbR
theorem Jhx:Good T1 ctSC:=by
 unfold ctSC;refine Good.ad1 Jeg ?_;rintro a h;exact Jes h
def shH:Hy:=⟨h0,[],[(2,[(5,3000005)])],[]⟩
theorem Jfu {k:Dk}(hn:InP k.n) {x:ByteArray}(h:RfA x):Tot T1 (mkc rB b0 (fun b _=>b=true) True) 5 [.br (fDk.f k),pSs x]:=vF shH Jhz Tryz.func5 (True/\∀(x_1:Unit × Unit),True->True/\∀(x_2:(ByteArray × Int × Int) × Unit),ShR x x_2.1.1 x_2.1.2.1 x_2.1.2.2->RfA x/\∀(x_3:(ByteArray × Int × Int) × Unit),CmA x x_3.1.1 x_3.1.2.1 x_3.1.2.2->br (decide (x_2.1.2.1≠0)) (br (decide (x_2.1.1={data:=#[]})) (br (decide (x_2.1.2.2>=0)) (br (decide (x_2.1.2.2<=↑x.size)) (br (decide (x_3.1.2.1=x_2.1.2.1)) (decide (x_3.1.2.2=x_2.1.2.2)=true) (false=true)) (false=true)) (false=true)) (false=true)) (True/\∀(x_4:(ByteArray × Int × Int) × Unit),ShR x_2.1.1 x_4.1.1 x_4.1.2.1 x_4.1.2.2->br (decide (x_2.1.1={data:=#[]})) (true=true/\false=true) (br (decide ((x_2.1.1.size:Int) >(x.size:Int))) (true=true/\false=true) (br (decide (x_4.1.1≠x_2.1.1)) (true=true/\false=true) (br (decide (x_4.1.2.1≠0)) (true=true/\false=true) (br (decide (x_4.1.2.2≠0)) (false=true) (RfA x_2.1.1/\∀(x_5:(ByteArray × Int × Int) × Unit),CmA x_2.1.1 x_5.1.1 x_5.1.2.1 x_5.1.2.2->br (decide (x_5.1.2.1≠x_3.1.2.1)) (false=true) (InP k.n/\∀(x_6:(Rs × Bool) × Unit),RnR x k.w k.d k.f k.n x_6.1.1 x_6.1.2->InP k.n/\∀(x:(Rs × Bool) × Unit),RnR x_2.1.1 k.w k.d k.f k.n x.1.1 x.1.2->br (!x_6.1.2 == x.1.2) (true=true/\false=true) (br (decide (x_6.1.1.g≠x.1.1.g)) (true=true/\false=true) (br (decide (x_6.1.1.u≠x.1.1.u)) (false=true) False)))))))))) (by kernel_rfl) (by
 refine⟨trivial,fun _ _=>⟨trivial,fun⟨⟨t,e,a⟩,_⟩ hS=>⟨h,fun⟨⟨s,f,q⟩,_⟩ hC=>?_⟩⟩⟩;obtain⟨B,S2,_⟩:=hS
 dsimp only at B S2 hC ⊢
 have ez:e≠0:=by rw[B];exact h.q
 obtain⟨s2,E⟩:=S2 ez;have P:=(Jbh x).p
 exact⟨fun _=>⟨fun _=>⟨fun _=>⟨fun _=>⟨fun _=>decide_eq_true (by rw[hC.q.2,E]),fun q=>absurd (by rw[hC.q.1,B]) (df q)⟩,fun q=>absurd (by rw[E];exact P.2.1) (df q)⟩,fun q=>absurd (by rw[E];exact P.1) (df q)⟩,fun q=>absurd s2 (df q)⟩,fun q=>absurd ez (df q)⟩)
theorem shY {x t:ByteArray}(W:Two x t):t≠{data:=#[]}:=fun e=>by
 have:=W.n;rw[e]at this;exact absurd this (by decide)
theorem Jft {k:Dk}(hn:InP k.n) {x:ByteArray}(h:RfB x):Tot T1 (mkc rB b0 (fun b _=>b=true) True) 5 [.br (fDk.f k),pSs x]:=vF shH Jhy Tryz.func5 (True/\∀(x_1:Unit × Unit),True->True/\∀(x_2:(ByteArray × Int × Int) × Unit),ShR x x_2.1.1 x_2.1.2.1 x_2.1.2.2->RfB x/\∀(x_3:(ByteArray × Int) × Unit),CmB x x_3.1.2->br (decide (x_2.1.2.1≠0)) (br (decide (x_2.1.1={data:=#[]})) (br (decide (x_2.1.2.2>=0)) (br (decide (x_2.1.2.2<=↑x.size)) (br (decide (x_3.1.2=x_2.1.2.1)) False (false=true)) (false=true)) (false=true)) (false=true)) (True/\∀(x_4:(ByteArray × Int × Int) × Unit),ShR x_2.1.1 x_4.1.1 x_4.1.2.1 x_4.1.2.2->br (decide (x_2.1.1={data:=#[]})) (true=true/\false=true) (br (decide ((x_2.1.1.size:Int) >(x.size:Int))) (true=true/\false=true) (br (decide (x_4.1.1≠x_2.1.1)) (true=true/\false=true) (br (decide (x_4.1.2.1≠0)) (true=true/\false=true) (br (decide (x_4.1.2.2≠0)) (false=true) (RfB x_2.1.1/\∀(x_5:(ByteArray × Int) × Unit),CmB x_2.1.1 x_5.1.2->br (decide (x_5.1.2≠x_3.1.2)) (false=true) (InP k.n/\∀(x_6:(Rs × Bool) × Unit),RnR x k.w k.d k.f k.n x_6.1.1 x_6.1.2->InP k.n/\∀(x:(Rs × Bool) × Unit),RnR x_2.1.1 k.w k.d k.f k.n x.1.1 x.1.2->br (!x_6.1.2 == x.1.2) (true=true/\false=true) (br (decide (x_6.1.1.g≠x.1.1.g)) (true=true/\false=true) (br (decide (x_6.1.1.u≠x.1.1.u)) (false=true) (Alk x_6.1.1 x.1.1/\∀(x:Bool × Unit),x.1=true->x.1=true))))))))))) (by kernel_rfl) (by
 refine⟨trivial,fun _ _=>⟨trivial,fun⟨⟨t,e,a⟩,_⟩ hS=>⟨h,fun⟨⟨s,f⟩,_⟩ hC=>?_⟩⟩⟩;have ez:e=0:=hS.q.trans h.q;obtain⟨a0,tx⟩:=hS.y ez;have W:=two h.q tx;refine⟨fun q=>absurd ez (dt q),fun _=>⟨trivial,fun⟨⟨u,g,z⟩,_⟩ hU=>?_⟩⟩;have B:g=0:=hU.q.trans W.e;obtain⟨z0,G⟩:=hU.y B;have E:u=t:=W.sh tx G;refine⟨fun q=>absurd (dt q) (shY W),fun _=>⟨fun q=>absurd (dt q) (show ¬(t.size:Int) >x.size by have z:t.size<=x.size:=W.z;omega),fun _=>⟨fun q=>absurd E (dt q),fun _=>⟨fun q=>absurd B (dt q),fun _=>⟨fun q=>absurd z0 (dt q),fun _=>⟨⟨W.e,by rw[W.tf];exact h.t⟩,fun⟨⟨s2,g2⟩,_⟩ hG=>⟨fun q=>absurd (hG.q.trans (W.tf.trans hC.q.symm)) (dt q),fun _=>⟨hn,fun⟨⟨r1,b1⟩,_⟩ ⟨hr1⟩=>⟨hn,fun⟨⟨r2,b2⟩,_⟩ ⟨hr2⟩=>?_⟩⟩⟩⟩⟩⟩⟩⟩⟩
 dsimp only at hr1 hr2 ⊢
 rw[W.rn h.q,<-hr1]at hr2;obtain⟨rfl,rfl⟩:=Prod.mk.inj hr2;have row:=Jdg x hn.r k.w k.d k.f;rw[<-hr1]at row
 exact⟨fun q=>absurd q (by simp),fun _=>⟨fun q=>absurd rfl (dt q),fun _=>⟨fun q=>absurd rfl (dt q),fun _=>⟨⟨rfl,row⟩,fun _ hx=>hx⟩⟩⟩⟩)
theorem Jfs {k:Dk}(hn:InP k.n) {x:ByteArray}(h:RfC x):Tot T1 (mkc rB b0 (fun b _=>b=true) True) 5 [.br (fDk.f k),pSs x]:=vF shH Jhx Tryz.func5 (True/\∀(x_1:Unit × Unit),True->True/\∀(x_2:(ByteArray × Int × Int) × Unit),ShR x x_2.1.1 x_2.1.2.1 x_2.1.2.2->RfC x/\∀(x_3:((ByteArray->Prop) × Int × Int) × Unit),CmC x x_3.1.1 x_3.1.2.1 x_3.1.2.2->br (decide (x_2.1.2.1≠0)) (br (decide (x_2.1.1={data:=#[]})) (br (decide (x_2.1.2.2>=0)) (br (decide (x_2.1.2.2<=↑x.size)) (br (decide (x_3.1.2.1=x_2.1.2.1)) (decide (x_3.1.2.2=x_2.1.2.2)=true) (false=true)) (false=true)) (false=true)) (false=true)) (True/\∀(x_4:(ByteArray × Int × Int) × Unit),ShR x_2.1.1 x_4.1.1 x_4.1.2.1 x_4.1.2.2->br (decide (x_2.1.1={data:=#[]})) (true=true/\false=true) (br (decide ((x_2.1.1.size:Int) >(x.size:Int))) (true=true/\false=true) (br (decide (x_4.1.1≠x_2.1.1)) (true=true/\false=true) (br (decide (x_4.1.2.1≠0)) (true=true/\false=true) (br (decide (x_4.1.2.2≠0)) (false=true) (RfC x_2.1.1/\∀(x_5:((ByteArray->Prop) × Int × Int) × Unit),CmC x_2.1.1 x_5.1.1 x_5.1.2.1 x_5.1.2.2->br (decide (x_5.1.2.1≠x_3.1.2.1)) (false=true) (InP k.n/\∀(x_6:(Rs × Bool) × Unit),RnR x k.w k.d k.f k.n x_6.1.1 x_6.1.2->InP k.n/\∀(x:(Rs × Bool) × Unit),RnR x_2.1.1 k.w k.d k.f k.n x.1.1 x.1.2->br (!x_6.1.2 == x.1.2) (true=true/\false=true) (br (decide (x_6.1.1.g≠x.1.1.g)) (true=true/\false=true) (br (decide (x_6.1.1.u≠x.1.1.u)) (false=true) (Alk x_6.1.1 x.1.1/\∀(x:Bool × Unit),x.1=true->x.1=true))))))))))) (by kernel_rfl) (by
 refine⟨trivial,fun _ _=>⟨trivial,fun⟨⟨t,e,a⟩,_⟩ hS=>⟨h,fun⟨⟨s,f,q⟩,_⟩ hC=>?_⟩⟩⟩;have ez:e=0:=hS.q.trans h.q;obtain⟨a0,tx⟩:=hS.y ez;have W:=two h.q tx;refine⟨fun q=>absurd ez (dt q),fun _=>⟨trivial,fun⟨⟨u,g,z⟩,_⟩ hU=>?_⟩⟩;have B:g=0:=hU.q.trans W.e;obtain⟨z0,G⟩:=hU.y B;have E:u=t:=W.sh tx G;refine⟨fun q=>absurd (dt q) (shY W),fun _=>⟨fun q=>absurd (dt q) (show ¬(t.size:Int) >x.size by have z:t.size<=x.size:=W.z;omega),fun _=>⟨fun q=>absurd E (dt q),fun _=>⟨fun q=>absurd B (dt q),fun _=>⟨fun q=>absurd z0 (dt q),fun _=>⟨⟨W.e,by rw[W.tf];exact h.t⟩,fun⟨⟨s2,g2,q2⟩,_⟩ hG=>⟨fun q=>absurd (hG.q.2.1.trans hC.q.2.1.symm) (dt q),fun _=>⟨hn,fun⟨⟨r1,b1⟩,_⟩ ⟨hr1⟩=>⟨hn,fun⟨⟨r2,b2⟩,_⟩ ⟨hr2⟩=>?_⟩⟩⟩⟩⟩⟩⟩⟩⟩
 dsimp only at hr1 hr2 ⊢
 rw[W.rn h.q,<-hr1]at hr2;obtain⟨rfl,rfl⟩:=Prod.mk.inj hr2;have row:=Jdg x hn.r k.w k.d k.f;rw[<-hr1]at row
 exact⟨fun q=>absurd q (by simp),fun _=>⟨fun q=>absurd rfl (dt q),fun _=>⟨fun q=>absurd rfl (dt q),fun _=>⟨⟨rfl,row⟩,fun _ hx=>hx⟩⟩⟩⟩)
theorem Jfr {k:Dk}(hn:InP k.n) (x:ByteArray):Tot T1 (mkc rB b0 (fun b _=>b=true) True) 5 [.br (fDk.f k),pSs x]:=by
 by_cases h:(trF x).2.1=0
 .by_cases h2:JaO x=0
  .exact Jfs hn ⟨h,h2⟩
  .exact Jft hn ⟨h,h2⟩
 .exact Jfu hn ⟨h⟩
end V
end Go.Proofs.YtnhbcdnmfafbiaaGreatDoor
set_option maxRecDepth 100000
namespace Go.Proofs.YtnhbcdnmfafbiaaGreatDoor
namespace V
open Go.Proofs
def fDo:Pz (List C):=⟨Dk,fun k=>[.r true 1 k.n,I k.w,I k.d,I k.f,I k.m],fun l=>match l with
 |[.r true 1 n,.i .i64 w,.i .i64 d,.i .i64 f,.i .i64 m]=>some ⟨n,w,d,f,m⟩
 |_=>none,fun b x e=>by split at e <;> cases e;rfl⟩
structure InN (n:List (List C)):Prop where
 r:Rw fI (fun _=>True) n
 n:n.length<=4096
structure DkE (k:Dk) (n:List (List C)):Prop where
 e:k.n=n
theorem Jhm {n:List (List C)}(hn:InN n) (w d f m:Int):Tot T1 (mkc (rBo fDo) b0 (fun k _=>DkE k n) True) 4 [.pl (.c (.r false 1 n)),pI w,pI d,pI f,pI m]:=vR hy Jae [] [true] Tryz.func4 (pln n/\0+n.length<=4000000000/\DkE {n:=n,w:=w,d:=d,f:=f,m:=m} n) (by kernel_rfl) ⟨hn.r.plx fun _=>rfl,by have:=hn.n;omega,⟨rfl⟩⟩
noncomputable def ctDk:Cts:=ctp 4 (kA (aC (aR 1) <|aC aI <|aC aI <|aC aI <|aC aI aN) fun a=>mkc (rBo fDo) b0 (fun k _=>DkE k a.1) (InN a.1)) <|ctp 5 (kA (aC (aQ fDk) <|aC aSs aN) fun a=>mkc rB b0 (fun b _=>b=true) (InP a.1.n)) ct0
theorem JhQ:Good T1 ctDk:=by
 unfold ctDk;refine Good.ad1 (Good.ad1 Jae ?_) ?_
 .rintro a h;exact Jfr h _
 .rintro a h;exact Jhm h _ _ _ _
theorem Jfv {n:List (List C)}(hn:Rw fI (fun _=>True) n) (x:ByteArray) (w d f:Int):Tot T1 (mkc rB b0 (fun b _=>b=true) True) 3 [pSs x,.pl (.c (.r false 1 n)),pI w,pI d,pI f]:=vF (⟨h0,[],[(4,[(11,3000011),(11,0)])],[]⟩) JhQ Tryz.func3 (br (decide ((x.size:Int) >4096)) (true=true/\true=true) (br (decide (↑n.length >(4096:Int))) (true=true) (InN n/\∀(x:Dk × Unit),DkE x.1 n->pln x.1.n/\InP x.1.n/\∀(x:Bool × Unit),x.1=true->x.1=true))) (by kernel_rfl) (by
 refine⟨fun _=>⟨rfl,rfl⟩,fun _=>⟨fun _=>rfl,fun q=>?_⟩⟩;have q:=df q;refine⟨⟨hn,by omega⟩,fun⟨k,_⟩ ⟨e⟩=>?_⟩
 dsimp only at e ⊢
 rw[e]
 exact⟨hn.plx fun _=>rfl,⟨hn⟩,fun _ h=>h⟩)
end V
end Go.Proofs.YtnhbcdnmfafbiaaGreatDoor
namespace Go.Proofs.YtnhbcdnmfafbiaaGreatDoor
namespace V
open Go.Proofs Go.Proofs.YtnhbcdnmfafbiaaGreatDoor Go.ChangeShapes Go.WideShapes Go.ChangeAt Go.WideMaps Go.WideElems Go.ChangeMaps Go.RowKit
theorem zOwn:ownKnob Tryz.prog.godebug=none:=by kernel_rfl
theorem zGN:Tryz.prog.globalNamed "slim/words.texts"=some 0:=by kernel_rfl
theorem zTN:(Tryz.prog.globals[0]?).map (·.type)=some 193:=by kernel_rfl
theorem zUN:Tryz.prog.underlying 193=some (.array 35 9):=by kernel_rfl
theorem zNN:Tryz.prog.cellsOf 193=35:=by kernel_rfl
theorem zGF:Tryz.prog.globalNamed "slim/check.fields"=some 1:=by kernel_rfl
theorem zTF:(Tryz.prog.globals[1]?).map (·.type)=some 209:=by kernel_rfl
theorem zUF:Tryz.prog.underlying 209=some (.array 34 9):=by kernel_rfl
theorem zNF:Tryz.prog.cellsOf 209=34:=by kernel_rfl
theorem zGP2:Tryz.prog.globalNamed "internal/strconv.uint64pow10"=some 2:=by kernel_rfl
theorem zTP:(Tryz.prog.globals[2]?).map (·.type)=some 261:=by kernel_rfl
theorem zCS:Tryz.prog.cellsOf 9=1:=by kernel_rfl
theorem zUP:Tryz.prog.underlying 261=some (.array 20 125):=by kernel_rfl
theorem zUU:Tryz.prog.underlying 125=some (.int .u64):=by kernel_rfl
theorem zCU:Tryz.prog.cellsOf 125=1:=by kernel_rfl
theorem zCP:Tryz.prog.cellsOf 261=20:=by kernel_rfl
def pwL:List Int:=[1,10,100,1000,10000,100000,1000000,10000000,100000000,1000000000,10000000000,100000000000,1000000000000,10000000000000,100000000000000,1000000000000000,10000000000000000,100000000000000000,1000000000000000000,10000000000000000000]
theorem jFj:(Rows.laid_slim_words_texts:DataW Unit)= .agg (txL.map fun l=>.lit (.string l)):=rfl
theorem jju:(Rows.laid_slim_check_fields:DataW Unit)= .agg (fdL.map fun l=>.lit (.string l)):=rfl
theorem JgT:(Rows.laid_internal_strconv_uint64pow10:DataW Unit)=Lib.tabData .u64 pwL:=rfl
theorem JcW {w:World}{A:Nat->Prop}:∀ls:List (List UInt8),RL w A (gsC ls) (ls.map fun l=>.string ⟨l.toArray⟩) []
 |[]=>.nil
 |l ::ls=>.cons (F:=[]) (F':=[]) (.s _) (JcW ls)
theorem JeF {w:World}{A:Nat->Prop}{k:IntKind}:∀ls:List Int,RL w A (ls.map fun z=>.i k z) (ls.map fun z=>.int k z) []
 |[]=>.nil
 |l ::ls=>.cons (F:=[]) (F':=[]) (.i _ _) (JeF ls)
theorem jlV {H:Type}{enc:TypeId × Value->H}{P:Program}{w:World}{base:Nat}{sp:Nat->Bool}{E:Bool}{fuel:Nat}{t e:TypeId}{n:Nat}{cs:List Value}{B:List (List UInt8)}{p:List MemPlace}
 (ht:P.underlying t=some (.array n e)) (V:P.underlying e=some .string) (G:P.cellsOf e=1) (hct:P.cellsOf t=n) (h:DataW.trod enc P w base sp E fuel t cs=some (.agg (B.map fun l=>.lit (.string l)),p)) :
 cs=B.map fun l=>.string ⟨l.toArray⟩:=by
 obtain⟨xs,m,_,hx,h5,h7,Y⟩:=DataW.trod_array ht h
 have J:B.map (fun l=>(DataW.lit (.string l):DataW H))=xs.map (·.1):=by
  have:=congrArg Prod.fst hx;simpa using this
 have h6:B.length=n:=by have:=congrArg List.length J;simp at this;omega
 apply List.ext_getElem?;intro i
 by_cases hi:i<n
 .have hl:B[i]? =some B[i]:=List.getElem?_eq_getElem (by omega)
  have O:=Y i hi;rw[G,Nat.mul_one,List.getElem?_eq_getElem (by omega)]at O;obtain⟨s,Z,h4,_⟩:=DataW.trod_string V O
  have h2:cs[i]? =some (.string s):=by
   have:=congrArg (·[0]?) Z;simpa[List.getElem?_take,List.getElem?_drop] using this
  have M:(B.map (fun l=>(DataW.lit (.string l):DataW H)))[i]? =some (.lit (.string B[i])):=by simp[hl]
  rw[J,List.getElem?_map,List.getElem?_eq_getElem (by omega),h4]at M;simp only[Option.map_some,Option.some.injEq,DataW.lit.injEq,Lit.string.injEq]at M;rw[h2,List.getElem?_map,hl,Option.map_some,<-M]
 .rw[List.getElem?_eq_none (by omega),List.getElem?_eq_none (by rw[List.length_map];omega)]
theorem Jb9 {P:Program}{w:World}{n:String}{g:Nat}{cs:Array Value}(B:P.globalNamed n=some g) (h:w.var? P n=some cs):∃ty fz,w.heap[g]? =some (.cells cs ty fz):=by
 simp only[World.var?,B,Option.bind_some]at h
 split at h
 .cases h;exact⟨_,_,by assumption⟩
 .cases h
theorem JeI {W:World}(h:laidMetH Tryz.prog Rows.shorterRow.laid W) (A:Nat->Prop):Jbv T1 W A:=by
 rw[MakeChecks.laidMetH_plain _ _ _ (by kernel_rfl)]at h;obtain⟨ps,⟨g0,t0,q9,f0,p0,q0,r4,r6,r8,r2,⟨g1,t1,r1,f1,p1,q1,r5,r7,r9,r3,⟨g2,t2,J,f2,p2,q2,h4,h7,k1,B,⟨g3,t3,M,f3,p3,q3,h5,h8,k5,E,⟨g4,t4,O,f4,p4,q4,h6,h9,k6,G,_,_⟩,_⟩,_⟩,_⟩,_⟩,_⟩:=h;obtain rfl:=Option.some.inj (zGP2.symm.trans h4);obtain rfl:=Option.some.inj (zTP.symm.trans h7);obtain rfl:=Option.some.inj (zGN.symm.trans h5);obtain rfl:=Option.some.inj (zTN.symm.trans h8);obtain rfl:=Option.some.inj (zGF.symm.trans h6);obtain rfl:=Option.some.inj (zTF.symm.trans h9);rw[JgT]at B;rw[jFj]at E;rw[jju]at G;have P:=Lib.cells_of_tab zUP zUU zCU zCP B;have V:=jlV zUN Tryz.underlying9 zCS zNN E;have Y:=jlV zUF Tryz.underlying9 zCS zNF G;obtain⟨k7,Z,k2⟩:=Jb9 zGP2 k1;obtain⟨k8,h1,k3⟩:=Jb9 zGN k5;obtain⟨k9,h3,k4⟩:=Jb9 zGF k6;refine⟨fun g cs h=>?_⟩;have h:glT (1000000+g)=some cs:=h;unfold glT at h
 cases b0 :Nat.beq (1000000+g) 1000000 with
 |true=>
  have:=Nat.eq_of_beq_eq_true b0;obtain rfl:g=0:=by omega
  rw[b0]at h;cases h;refine⟨M,k8,h1,k3,?_,by rw[V];exact JcW _⟩;rw[<-Array.length_toList,V];rfl
 |false=>
  rw[b0]at h
  cases b1 :Nat.beq (1000000+g) 1000001 with
  |true=>
   have:=Nat.eq_of_beq_eq_true b1;obtain rfl:g=1:=by omega
   rw[b1]at h;cases h;refine⟨O,k9,h3,k4,?_,by rw[Y];exact JcW _⟩;rw[<-Array.length_toList,Y];rfl
  |false=>
   rw[b1]at h
   cases b2 :Nat.beq (1000000+g) 1000002 with
   |true=>
    have:=Nat.eq_of_beq_eq_true b2;obtain rfl:g=2:=by omega
    rw[b2]at h;cases h;refine⟨J,k7,Z,k2,?_,by rw[P];exact JeF pwL⟩;rw[<-Array.length_toList,P];rfl
   |false=>rw[b2]at h;cases h
theorem JeK (os:Os) (args:Array Value):laidMetH Tryz.prog Rows.shorterRow.laid ((World.doorLaid Tryz.prog 34 os).forCall (fun _ _=>0) ⟨#[],args,[]⟩).memory:=
 laidMetH_of_parts3 (fuel:=8) (laidMet_of_run' 8 (by kernel_rfl) (by kernel_rfl)) (by kernel_rfl) (by kernel_rfl)
theorem Jb3 {w:World}{p:Addr}{u:Value}(h:w.cell? p=some u):p.block<w.heap.size:=by
 rcases Nat.lt_or_ge p.block w.heap.size with h2|h2
 .exact h2
 .unfold World.cell? at h
  rw[Array.getElem?_eq_none (by omega)]at h;cases h
theorem JeH {W:World}{a:Addr}{len cap:Nat}{zs:List Int}(hl:len<=cap) (E:zs.length=cap) (B:∀i,i<zs.length->W.cell? (a.add i)=some (.int .i64 (zs.getD i 0))):zs.length=(if decide (a.block<W.heap.size) then cap else len):=by
 rcases Nat.eq_zero_or_pos cap with h0|h0
 .split <;> omega
 .have h1:a.block<W.heap.size:=Jb3 (B 0 (by omega))
  rw[if_pos (by simpa using h1)];exact E
def rwI (l:List Int):List (List C):=l.map fun z=>[I z]
theorem Jfz (l:List Int):Rw fI (fun _=>True) (rwI l):=fun e he=>by
 obtain⟨z,_,rfl⟩:=List.mem_map.1 he;exact⟨z,rfl,trivial⟩
theorem JeG {w:World}{A:Nat->Prop}:∀(l:List Int) (vs:List Value),(∀i,i<l.length->vs[i]? =some (.int .i64 (l.getD i 0)))->RE w A 1 (rwI l) vs []
 |[],vs,_=>.nil _ _
 |z ::l,vs,h=>by
  have h0:=h 0 (by simp)
  cases vs with
  |nil=>cases h0
  |cons v vs=>
   obtain rfl:v= .int .i64 z:=by simpa using h0
   refine RE.cons (F:=[]) (F':=[]) (by simp) ?_ (JeG l vs fun i hi=>?_)
   .exact RL.cons (F:=[]) (F':=[]) (.i _ _) .nil
   .have:=h (i+1) (by simp;omega)
    simpa using this
theorem JeJ {W:World}{a:Addr}{len cap:Nat}{zs:List Int}(hl:len<=cap) (J:zs.length=cap) (G:∀i,i<zs.length->W.cell? (a.add i)=some (.int .i64 (zs.getD i 0))):∃A:Nat->Prop,(∀k,A k->k<W.heap.size)/\RC W A (.r false 1 (rwI (zs.take len))) (.slice (some a) len cap) []:=by
 rcases Nat.eq_zero_or_pos len with h0|h0
 .subst h0
  refine⟨fun _=>False,fun k h=>h.elim,?_⟩;rw[List.take_zero];exact .re _ _ _
 .have h1:=G 0 (by omega)
  refine⟨fun k=>k=a.block,fun k e=>by rw[e];exact Jb3 h1,?_⟩;obtain⟨g,off,sp⟩:=a;unfold World.cell? at h1
  split at h1
  .rename_i arr ty fz E
   split at h1
   .cases h1
   .rename_i hsp
    obtain rfl:sp=none:=by
     cases sp with
     |none=>rfl
     |some x=>exact(hsp rfl).elim
    have E:W.heap[g]? =some (.cells arr ty fz):=E
    have hx:∀i,i<zs.length->arr[off+i]? =some (.int .i64 (zs.getD i 0)):=fun i hi=>by
     have:=G i hi;unfold World.cell? at this;rw[show Addr.add ⟨g,off,none⟩ i=⟨g,off+i,none⟩ by unfold Addr.add;split <;> simp_all]at this;simp only[E]at this;exact this
    have B:(rwI (zs.take len)).length=len:=by unfold rwI;rw[List.length_map,List.length_take];omega
    have:=RC.rf (w:=W) (A:=fun k=>k=g) (g:=g) (off:=off) (l:=rwI (zs.take len)) (z:=1) (cap:=cap) rfl E (by omega) (by
     rw[B];have:=hx (len-1) (by omega);have:=(Array.getElem?_eq_some_iff.1 this).1
     omega) (by rw[B];exact hl) (JeG _ _ fun i hi=>by
      rw[List.length_take]at hi
      rw[List.getElem?_drop,Array.getElem?_toList,hx i (by omega),List.getD_eq_getElem?_getD,List.getD_eq_getElem?_getD,List.getElem?_take,if_pos (by omega)])
    rw[B]at this;exact this
  .cases h1
theorem Jde {W:World}(hl:∀A,Jbv T1 W A) {s:ByteArray}{v:Value}{zs:List Int}{A:Nat->Prop}(G:∀k,A k->k<W.heap.size) (J:RC W A (.r false 1 (rwI zs)) v []) (x y z:Int):Calls Tryz.prog 3 #[.string s,v,.int .i64 x,.int .i64 y,.int .i64 z] W fun e w'=>e= .returned (.bool true)/\Below W.heap.size W w':=by
 obtain⟨r,B,hd⟩:=Jfv (Jfz zs) s x y z;have hd:Does T1 3 ([.c (.s s),.c (.r false 1 (rwI zs)),.c (I x),.c (I y),.c (I z)].map Arg.pl) _ []:=hd;refine(hd.callsV G (hl A) (vs:=[.string s,v,.int .i64 x,.int .i64 y,.int .i64 z]) rfl ?_).mono ?_
 .intro i a u ha hu mo fp
  match i,ha,hu with
  |0,ha,hu=>cases ha;cases hu;exact .s _
  |1,ha,hu=>cases ha;cases hu;exact J
  |2,ha,hu=>cases ha;cases hu;exact .i _ _
  |3,ha,hu=>cases ha;cases hu;exact .i _ _
  |4,ha,hu=>cases ha;cases hu;exact .i _ _
  |i+5,ha,hu=>cases ha
 .rintro e w' ⟨u,A',mo,fp,rfl,hb,E⟩
  obtain⟨b,_⟩:=r;have B:b=true:=B;subst B;have E:RC w' A' (.b true) u []:=E;cases E;exact⟨rfl,hb⟩
set_option maxRecDepth 100000 in
theorem zLifted (os:Os) (O:os.Started) (H:Type) (enc:TypeId × Value->H) :
 ReturnsInHanded {} Tryz.checked os 3 .any (fun w args=>(Rows.shorterSpec.pre enc Tryz.prog Tryz.f3 [] false w args/\laidMetH Tryz.prog Rows.shorterRow.laid w)/\sizedMet enc Tryz.prog Tryz.f3 (OpenSpec.ofChange Rows.shorterSpec) false w args)
  (Rows.shorterSpec.post enc Tryz.prog Tryz.f3 false true false false):=by
 refine returnsInHanded_of_change_and (C:=Tryz.checked) (X:=fun w _=>laidMetH Tryz.prog Rows.shorterRow.laid w) (fun _ _ _ hh h=>h.of_heap hh) zOwn O (by kernel_rfl) Tryz.func3
  (ChangeSpec.witness_shaped (enc:=enc) (C:=Tryz.checked) (os:=os) (X:=fun w _=>laidMetH Tryz.prog Rows.shorterRow.laid w) false (World.doorLaid Tryz.prog 34 os) #[.string ⟨#[]⟩,.slice none 0 0,.int .i64 0,.int .i64 0,.int .i64 0] 8 rfl (World.shaped_of_RefB (by kernel_rfl) (by kernel_rfl)) (by kernel_rfl) (by kernel_rfl) (by kernel_rfl) (JeK os _)) ?_
 intro W base args ds gs k1 Y hW _ _ hL _;have J:∀(j:Nat) t v,Tryz.f3.params[j]? =some t->args[j]? =some v->Value.okWide Tryz.prog W .any base t v:=Y;have h5:=hW;obtain⟨p,q,h8,hV,rfl,k6,k7⟩:=hW;have G:DataW.TrodAll enc Tryz.prog W 0 (fun _=>true) true Tryz.f3.params.toList args.toList ds p:=h8;rw[Tryz.params3]at G J;obtain⟨rfl,rfl⟩:=trodVars_none hV;obtain⟨v0,r0,d0,e0,p0,q0,ha,rfl,rfl,h0,G⟩:=trodAll_cons G;obtain⟨v1,r1,d1,P,p1,q1,rfl,rfl,rfl,h1,G⟩:=trodAll_cons G;obtain⟨v2,r2,d2,e2,p2,q2,rfl,rfl,rfl,h2,G⟩:=trodAll_cons G;obtain⟨v3,r3,d3,e3,p3,q3,rfl,rfl,rfl,h3,G⟩:=trodAll_cons G;obtain⟨v4,r4,d4,e4,p4,q4,rfl,rfl,rfl,h4,G⟩:=trodAll_cons G;obtain⟨rfl,rfl,rfl⟩:=trodAll_nil G;obtain rfl:args=#[v0,v1,v2,v3,v4]:=Array.toList_inj.1 ha;obtain⟨s,rfl,rfl,rfl,ws⟩:=open_string Tryz.underlying9 (J 0 9 v0 rfl rfl) h0;obtain⟨E,rfl,rfl,rfl,w2⟩:=open_int Tryz.underlying3 (J 2 3 v2 rfl rfl) h2;obtain⟨B,rfl,rfl,rfl,w3⟩:=open_int Tryz.underlying3 (J 3 3 v3 rfl rfl) h3;obtain⟨fuel,rfl,rfl,rfl,w4⟩:=open_int Tryz.underlying3 (J 4 3 v4 rfl rfl) h4;have hl:=JeI hL;clear h8 Y;simp only[List.append_nil,List.nil_append]at h5;obtain⟨fu,hf⟩:=h1;have hu:Tryz.prog.underlying 22=some (.slice 3):=by kernel_rfl
 have h9:Tryz.prog.cellsOf 3=1:=by kernel_rfl
 obtain⟨a1,n1,c1,rfl⟩:=okWide_slice hu (J 1 22 v1 rfl rfl)
 rcases open_ints hu Tryz.underlying3 h9 hf with⟨V,hx⟩|⟨a,len,cap,zs,V,k5,h6,k3,h7,hx,M,k4⟩
 .simp only[Value.cells,List.cons.injEq,Value.slice.injEq,and_true]at V
  obtain⟨rfl,rfl,rfl⟩:=V;obtain⟨rfl,rfl⟩:=Prod.mk.inj hx;refine(Jde (s:=s) (zs:=[]) hl (A:=fun _=>False) (fun k h=>h.elim) (.rn false 1) E B fuel).mono fun e W' ⟨he,hb⟩=>?_;subst he;have P:Rows.shorterSpec.fn H ([.lit (.string s.data.toList),.nil,.lit (.int .i64 E),.lit (.int .i64 B),.lit (.int .i64 fuel)] ++[])={results:=[.lit (.bool true)],args:=[.lit (.string s.data.toList),.nil,.lit (.int .i64 E),.lit (.int .i64 B),.lit (.int .i64 fuel)]}:=by simp[Rows.shorterSpec]
  refine⟨_,rfl,_,_,_,[],[],[],h5,?_,?_,?_,hb.frame _,fun h=>by cases h⟩
  .rw[P];exact trodAll_mk1 (shut_bool Tryz.underlying4 true)
  .rw[P]
   have Z:DataW.Trod enc Tryz.prog W' 0 (fun b=>decide (b<W.heap.size)) true 22 (.slice none 0 0) (.nil) []:=shut_slice_nil hu;have:=trodAll_cons_mk (shut_string Tryz.underlying9 ws) (trodAll_cons_mk Z (trodAll_cons_mk (shut_int Tryz.underlying3 w2) (trodAll_mk2 (shut_int Tryz.underlying3 w3) (shut_int Tryz.underlying3 w4))));simp only[List.nil_append,List.append_nil]at this;exact this
  .rw[P];rfl
 .simp only[Value.cells,List.cons.injEq,Value.slice.injEq,and_true]at V
  obtain⟨rfl,rfl,rfl⟩:=V;obtain⟨rfl,rfl⟩:=Prod.mk.inj hx;simp only[if_true]at h7;obtain⟨A,G,k2⟩:=JeJ h6 h7 M;refine(Jde (s:=s) hl G k2 E B fuel).mono fun e W' ⟨he,hb⟩=>?_;subst he;have P:Rows.shorterSpec.fn H ([.lit (.string s.data.toList),.slice (lits .i64 (zs.take n1)) (lits .i64 (zs.drop n1)),.lit (.int .i64 E),.lit (.int .i64 B),.lit (.int .i64 fuel)] ++[])={results:=[.lit (.bool true)],args:=[.lit (.string s.data.toList),.slice (lits .i64 (zs.take n1)) (lits .i64 (zs.drop n1)),.lit (.int .i64 E),.lit (.int .i64 B),.lit (.int .i64 fuel)]}:=by simp[Rows.shorterSpec]
  refine⟨_,rfl,_,_,_,[],(MemPlace.row a zs.length),[],h5,?_,?_,?_,hb.frame _,fun h=>by cases h⟩
  .rw[P];exact trodAll_mk1 (shut_bool Tryz.underlying4 true)
  .rw[P]
   have Z:DataW.Trod enc Tryz.prog W' 0 (fun b=>decide (b<W.heap.size)) true 22 (.slice (some a) n1 c1) (.slice (lits .i64 (zs.take n1)) (lits .i64 (zs.drop n1))) (MemPlace.row a zs.length):=⟨2,shut_ints 0 hu Tryz.underlying3 h9 (Nat.zero_le _) h6 k3 (JeH h6 h7 M) (fun i hi=>(hb.cell (Jb3 (M i hi))).trans (M i hi)) k4⟩
   have:=trodAll_cons_mk (shut_string Tryz.underlying9 ws) (trodAll_cons_mk Z (trodAll_cons_mk (shut_int Tryz.underlying3 w2) (trodAll_mk2 (shut_int Tryz.underlying3 w3) (shut_int Tryz.underlying3 w4))));simp only[List.nil_append,List.append_nil]at this;exact this
  .rw[P];rfl
end V
end Go.Proofs.YtnhbcdnmfafbiaaGreatDoor
namespace Go.Proofs.YtnhbcdnmfafbiaaGreatDoor
open Go
theorem shorter_holds:Rows.ShorterSaid:=
 OpenClaim.holds_of_wide 3 Tryz.f3 rfl rfl rfl rfl rfl rfl rfl ⟨rfl,rfl,rfl,rfl,rfl⟩ rfl rfl rfl rfl rfl (by as_aux_lemma=>kernel_rfl) Tryz.func3 Jfw
  (of_decide_eq_true (by as_aux_lemma=>kernel_rfl)) (by unfold Func.isWrapper;first|(rw[if_pos (by decide +kernel)];kernel_rfl)|(rw[if_neg (by decide +kernel)];exact⟨rfl,rfl⟩))
  (fun os started H enc _=>V.zLifted os started H enc)
theorem shorter_card:Rows.ShorterCardSaid:=
 Claim7.holds_tied_plain_at .later [] [.data,.data,.data,.data,.data] true Rows.shorterCard.stood.harness false
  shorter_holds (fun _ h=>by cases h) (by as_aux_lemma=>kernel_rfl) (fun _ h=>by cases h) shorter_row_tie rfl ⟨rfl,rfl⟩ (by as_aux_lemma=>kernel_rfl) rfl
  (fun f fn hf hfn=>by
   obtain rfl:f=3:=Option.some.inj ((show Tryz.prog.funcNamed "slim/slimkeep.Shorter"=some 3 by as_aux_lemma=>kernel_rfl).symm.trans hf) |>.symm;obtain rfl:fn=Tryz.f3:=(Option.some.inj (Tryz.func3.symm.trans hfn)).symm
   exact⟨by as_aux_lemma=>kernel_rfl,fun j t ht=>by
    rw[Tryz.params3]at ht;have hm:t ∈ [9,22,3,3,3]:=by simpa using Array.mem_of_getElem? ht
    have B:([9,22,3,3,3].all fun u=>!Tryz.prog.wantsStandIn u)=true:=by as_aux_lemma=>kernel_rfl
    exact(show Tryz.prog.wantsStandIn t=false by simpa using List.all_eq_true.1 B t hm)⟩)
  (by as_aux_lemma=>kernel_rfl)
#print axioms shorter_card
end Go.Proofs.YtnhbcdnmfafbiaaGreatDoor
