import Derived.Test.YtnhbcdnmfafbiaaGreatDoorM41
import Derived.WalkKit
import Derived.WalkSpells
import Derived.WalkLawsBesides
import Derived.Deep.Quiet
import Derived.Deep.LoopGhost
import Derived.Deep.Cut
import Derived.Deep.MidRow
import Derived.Lib.Hide
import Derived.Laws.MakeOwn
import Derived.Laws.OwnMore
import Derived.OwnWalk
import Derived.Handy
set_option linter.unusedVariables false
set_option linter.unusedSimpArgs false
set_option maxHeartbeats 20000000
namespace Go.Proofs.YtnhbcdnmfafbiaaGreatDoor
namespace V
open Go.Proofs
structure Two (x y:ByteArray):Prop where
 e:(trF y).2.1=0
 p:ntl (trF y).1=ntl (trF x).1
 z:y.size<=x.size
 n:0<y.size
theorem two {x y:ByteArray}(h:(trF x).2.1=0) (hy:TxR (ntl (trF x).1) y):Two x y:=by
 have T:=Jbh x;rw[h]at T;obtain⟨⟨t,ws,X⟩,G⟩:=T.tx
 have M:teA (ntl (trF x).1) ((ntl (trF x).1).length-1)=t:=by
  obtain⟨_,_,a3⟩:=Jdj G.r (by obtain⟨_,_,_,_,_,_,_,_,_,_,_,h2⟩:=T.y rfl;exact h2) X.g X.p;exact a3.eq
 have gm:=X.g.mi;have E:=X.g.all X.w;have ak:=gm.ak;have hd:=hy.e;rw[M,Jc0 _ _ E,List.nil_append]at hd;have hd:D y=bz false (mi 0 t):=hd;have sz:y.size=W0 wz (mi 0 t):=by rw[<-jJZ,hd];exact(JeB _).1
 have le:=X.g.s2 (z:=wz) rfl rfl;have Y:y.size<=x.size:=by have:=X.z;omega
 have P:y.size<=400:=by have:=X.h;omega
 obtain⟨w,r,O⟩:∃w r,mi 0 t=w ::r:=by
  cases q :mi 0 t with
  |nil=>exact absurd q ak.n
  |cons w r=>exact⟨w,r,rfl⟩
 have A:At y 0 w r:=by
  rw[O]at hd E ak;exact⟨⟨Int.le_refl _,by omega⟩,by show(D y).drop 0=_;rw[List.drop_zero,hd];rfl,E w (by simp),fun v hv=>E v (by simp[hv]),ak.a⟩
 have V:0<y.size:=by have:=A.size;have:=A.wk.lt;omega
 have sk:∀{B:Int},SkR y 0 B->B=0:=fun {B} hs=>Decidable.byContradiction fun n=>(hs.p n).elim A.rm.2.1 A.rm.1
 have bk:∀{B e a:Int}{l:List WdS},SkR y 0 B->Lx y B l e a->e=0/\l.map wdO=mi 0 t ++[jrt]:=fun {B e a l} hs hl=>by
  have:=sk hs;subst this;exact Lx.back (mi 0 t) E ak.a (Int.le_refl _) (by omega) (by show(D y).drop 0=_;rw[List.drop_zero,hd]) hl
 have pa:Pa 12 .e (mi 0 t ++[jrt]) t [jrt]:=gm.cp [jrt] (JaH (by simp[hk,jrt]));have J:=Jbh y
 have e0:(trF y).2.1=0:=by
  refine Decidable.byContradiction fun n=>?_;obtain⟨B,l,e',Z,hs,hl,q⟩:=J.z n P;obtain⟨b1,b2⟩:=bk hs hl;have:=q b1 t [jrt] (by rw[b2];exact pa);exact this rfl
 obtain⟨B,l,t',r',_,hs,hl,hp,hr,hn,_,_⟩:=J.y e0;rw[(bk hs hl).2]at hp;obtain⟨rfl,_⟩:=Pa.det hp pa;exact⟨e0,by rw[hn,X.p],Y,V⟩
theorem Two.tf {x y:ByteArray}(h:Two x y):JaO y=JaO x:=by unfold JaO;rw[h.p]
theorem Two.cd {x y:ByteArray}(h:Two x y):JaA y=JaA x:=by unfold JaA;rw[h.p]
theorem Two.sh {x y s:ByteArray}(h:Two x y) (hy:TxR (ntl (trF x).1) y) (hs:TxR (ntl (trF y).1) s):s=y:=jZ7 (by rw[hs.e,hy.e,h.p])
theorem JcU {c:CdS}{B:List (List C)}(h:We c.L B):WA (.ag (fCd.f c)) (.ag (fCd.f ⟨c.F,c.K,B⟩)):=fun w A mo fp v hv=>by
 obtain⟨arr,e,q⟩:∃arr:Array Value,v= .agg arr/\RL w A (fCd.f c) arr.toList []:=hv;refine⟨arr,e,?_⟩;generalize arr.toList=vs at q;obtain⟨F,K,L⟩:=c;have q:RL w A [.r false 4 F,.r false 1 K,.r false 5 L] vs []:=q;show RL w A [.r false 4 F,.r false 1 K,.r false 5 B] vs [];generalize hF:([]:List Nat)=G at q
 cases q with
 |cons q1 q2=>
  cases q2 with
  |cons q2 q3=>
   cases q3 with
   |cons q3 q4=>
    cases q4;have E:=q1.pl rfl;have J:=q2.pl rfl;subst E J;simp only[List.append_nil,List.nil_append]at hF;subst hF;exact RL.cons (F:=[]) (F':=[]) q1 (.cons (F:=[]) (F':=[]) q2 (.cons (F:=[]) (F':=[]) (q3.row h) .nil))
def wkP (e:List C):List C:=match e with
 |[.i .i64 o,r,x,y,p]=>if pop o then[.i .i64 o,r,x,y,.ui] else e
 |e=>e
def cdK (x:ByteArray):CdS:=⟨(rdC x).F,(rdC x).K,(rdC x).L.map wkP⟩
def cdW (x:ByteArray):CdS:=⟨(rdC x).F,(rdC x).K,(rdC x).L.map wkL⟩
theorem Jby {f:List C->List C}:∀{L:List (List C)},(∀e ∈ L,Wl e (f e))->We L (L.map f)
 |[],_=>.nil
 |e ::L,h=>.cons (h e (List.mem_cons_self ..)) (Jby fun q hq=>h q (List.mem_cons_of_mem _ hq))
theorem Ja9 {x:ByteArray}{e:List C}(h:e ∈ (rdC x).L):∃p,e=fL.f (lnF x p):=by
 obtain⟨j,_,rfl⟩:=List.mem_map.1 h;exact⟨_,rfl⟩
theorem JhW (x:ByteArray):WA (.ag (fCd.f (rdC x))) (.ag (fCd.f (cdK x))):=JcU (Jby fun e he=>by
 obtain⟨p,rfl⟩:=Ja9 he;show Wl [I _,I _,I _,I _,I _] (if pop _ then _ else _)
 split
 .exact .cons (.rfl _) (.cons (.rfl _) (.cons (.rfl _) (.cons (.rfl _) (.cons (.j _) .nil))))
 .exact Wl.refl _)
theorem JhU (x:ByteArray):WA (.ag (fCd.f (rdC x))) (.ag (fCd.f (cdW x))):=JcU (Jby fun e he=>by
 obtain⟨p,rfl⟩:=Ja9 he
 exact .cons (.rfl _) (.cons (.rfl _) (.cons (.rfl _) (.cons (.rfl _) (.cons (.j _) .nil)))))
theorem JbV {x:ByteArray}(h:rdE x=0):Jb1 (cdW x):=by
 have B:jLl x:=by
  unfold rdE at h
  split at h
  .cases h
  .split at h
   .assumption
   .cases h
 refine⟨fun e he=>?_,fun e he=>?_,fun e he=>?_⟩
 .obtain⟨j,hj,rfl⟩:=List.mem_map.1 he
  have:=(B.f j (List.mem_range.1 hj)).f;refine⟨_,rfl,?_⟩;have a:=nv2 x (8+6*j);have b:=nv1 x (8+6*j+2);have c:=nv1 x (8+6*j+3);have d:=nv2 x (8+6*j+4);exact⟨⟨by show _<=nv _ _ _;omega,by show nv _ _ _<=_;omega⟩,⟨by show _<=nv _ _ _;omega,by show nv _ _ _<=_;omega⟩,⟨by show _<=nv _ _ _;omega,by show nv _ _ _<=_;omega⟩,⟨by show _<=nv _ _ _;omega,by have q:nv x (8+6*j+4) 2<=1024:=this.d;show nv _ _ _<=_;omega⟩⟩
 .obtain⟨j,hj,rfl⟩:=List.mem_map.1 he
  exact⟨_,rfl,jWN _ _ _⟩
 .obtain⟨e0,h0,rfl⟩:=List.mem_map.1 he
  obtain⟨p,rfl⟩:=Ja9 h0;have b:=nv2 x (p+2);exact⟨⟨nv x p 1,nv x (p+1) 1,nv x (p+2) 2,nv x (p+4) 2⟩,rfl,⟨by show _<=nv _ _ _;omega,by show nv _ _ _<=_;omega⟩⟩
theorem Jdd {f:List C->List C}(hf:∀o r x y p p':Int,(p=p'\/pop o=true)->f (fL5.f (o,r,x,y,p))=f (fL5.f (o,r,x,y,p'))) {L B:List (List C)}(h:jQ7 L B):B.map f=L.map f:=by
 apply List.ext_getElem?;intro j
 by_cases E:j<L.length
 .obtain⟨o,r,x,y,p,p',e1,e2,q⟩:=h.e j E
  rw[List.getElem?_map,List.getElem?_map,e1,e2];exact congrArg some (hf o r x y p p' q).symm
 .rw[List.getElem?_eq_none (by rw[List.length_map,h.n];omega),List.getElem?_eq_none (by rw[List.length_map];omega)]
theorem Jci {c:CdS}(h:Rw fL jKy c.L) {s B:ByteArray}(a:phi c s) (b:phi c B):rdE B=rdE s/\(rdE s=0->cdK B=cdK s/\cdW B=cdW s):=by
 obtain⟨M,O⟩:=JfZ h a b;refine⟨M.symm,fun q=>?_⟩;obtain⟨E,G,J⟩:=O q
 constructor
 .unfold cdK
  rw[E,G,Jdd (fun o r x y p p' q=>?_) J];show(if pop o then _ else _)=(if pop o then _ else _);rcases q with rfl|q
  .rfl
  .rw[if_pos q,if_pos q]
 .unfold cdW
  rw[E,G,Jdd (fun o r x y p p' q=>rfl) J]
end V
end Go.Proofs.YtnhbcdnmfafbiaaGreatDoor
set_option maxRecDepth 100000
namespace Go.Proofs.YtnhbcdnmfafbiaaGreatDoor
namespace V
open Go.Proofs
structure Ld where
 (r:Bool)
 (m a0 a1 a2 a3 a4 a5 a6 a7 a8 a9 a10 a11 a12 a13 a14 a15:Int)
def fLd:Pz (List C):=⟨Ld,fun e=>[.b e.r,I e.m,U e.a0,U e.a1,U e.a2,U e.a3,U e.a4,U e.a5,U e.a6,U e.a7,U e.a8,U e.a9,U e.a10,U e.a11,U e.a12,U e.a13,U e.a14,U e.a15],fun l=>match l with
 |[.b r,.i .i64 m,.i .u64 a0,.i .u64 a1,.i .u64 a2,.i .u64 a3,.i .u64 a4,.i .u64 a5,.i .u64 a6,.i .u64 a7,.i .u64 a8,.i .u64 a9,.i .u64 a10,.i .u64 a11,.i .u64 a12,.i .u64 a13,.i .u64 a14,.i .u64 a15]=>some ⟨r,m,a0,a1,a2,a3,a4,a5,a6,a7,a8,a9,a10,a11,a12,a13,a14,a15⟩
 |_=>none,fun b x e=>by split at e <;> cases e;rfl⟩
structure Fl where
 (F K L:List (List C))
 (f:Int)
 (R:List (List C))
def fFl:Pz (List C):=⟨Fl,fun x=>[.r false 4 x.F,.r false 1 x.K,.r false 5 x.L,I x.f,.r true 18 x.R],fun l=>match l with
 |[.r false 4 F,.r false 1 K,.r false 5 L,.i .i64 f,.r true 18 R]=>some ⟨F,K,L,f,R⟩
 |_=>none,fun b x e=>by split at e <;> cases e;rfl⟩
structure JaM (x:Fl):Prop where
 c:Jb1 ⟨x.F,x.K,x.L⟩
 R:Rw fLd (fun _=>True) x.R
 n:x.R.length<=2000000000
 f:0<=x.f/\x.f<=1000000
def pTt {α β:Type}:α->β->Prop:=fun _ _=>True
def A63 (n:Int):Int:=wr ↑(BitVec.ofInt 64 n &&& BitVec.ofInt 64 63).toNat
theorem a63 (n:Int):¬A63 n<0:=by
 have h:(BitVec.ofInt 64 n &&& BitVec.ofInt 64 63).toNat<=63:=by
  rw[BitVec.toNat_and];exact Nat.le_trans Nat.and_le_right (by decide)
 unfold A63;rw[jKX (by omega) (by omega)];omega
theorem Jdv (n:Int):Tot T (mkc rI b0 pTt True) 202 [pI n]:=vF hy jJV Tryz.func202 (¬A63 n<0/\True) (by kernel_rfl) ⟨a63 n,trivial⟩
theorem Jg8 (n:Int):Tot T (mkc rB b0 pTt True) 161 [pI n]:=vF hy jJV Tryz.func161 (br (decide (n≠17)) (br (decide (n≠31)) (br (decide (n≠32)) True True) True) True) (by kernel_rfl) ⟨fun _=>⟨fun _=>⟨fun _=>trivial,fun _=>trivial⟩,fun _=>trivial⟩,fun _=>trivial⟩
def ctOn:Cts:=ctp 202 (kA (aC aI aN) fun a=>mkc rI b0 pTt True) ct0
theorem Jen:Good T ctOn:=Good.add jJV fun a _=>Jdv _
def fiT:Rl Av:=.cons 0 tI <| .cons 3 tI <| .cons 4 tI .nil
structure FiI (n n' i:Int):Prop where
 e:n'=n
 l:0<=i/\i<=5000000000
def fiM (n i:Int):Nat:=(n-i).toNat
def fiH (n:Int):Hy:=⟨h0,[],[],[(3,.iv fiT .nil (fun q=>FiI n q.1.1 q.1.2.2.1) fun q=>fiM n q.1.2.2.1)]⟩
theorem Jhi {n:Int}(h:sm n):Tot T (mkc rI b0 pTt True) 201 [pI n]:=vF (fiH n) Jen Tryz.func201 (FiI n n 0/\∀(a:(Int × Int × Int × Unit) × Unit),FiI n a.1.1 a.1.2.2.1->br (decide (a.1.2.2.1<a.1.1)) (True/\∀(x:Int × Unit),True->FiI n a.1.1 (wr (a.1.2.2.1+1))/\fiM n (wr (a.1.2.2.1+1))<fiM n a.1.2.2.1) True) (by kernel_rfl) (by
 refine⟨⟨rfl,by omega⟩,fun⟨⟨n',_,i,_⟩,_⟩ ⟨e,l⟩=>?_⟩
 dsimp only at e l ⊢
 subst e;have h2:=h.2;refine⟨fun q=>⟨trivial,fun _ _=>?_⟩,fun _=>trivial⟩;have q:=dt q;rw[jKX (by omega) (by omega)]
 exact⟨⟨rfl,by omega⟩,by unfold fiM;omega⟩)
def ctFi:Cts:=ctp 201 (kA (aC aI aN) fun a=>mkc rI b0 pTt (sm a.1)) ctOn
theorem Jer:Good T ctFi:=Good.add Jen fun a h=>Jhi h
theorem Jd4 {x:CfS}(h:jKn x):Tot T (mkc rI b0 pTt True) 164 [.pl (.ag (fCF.f x))]:=vF hy Jer Tryz.func164 (sm x.b/\∀(x_1:Int × Unit),True->br (decide (x.c=1)) (True/\∀(x:Int × Unit),True->True) True) (by kernel_rfl) ⟨h.b,fun _ _=>⟨fun _=>⟨trivial,fun _ _=>trivial⟩,fun _=>trivial⟩⟩
theorem Jdb {m:Int}{P:Nat->Prop}:∀{n:Nat},(∀j:Nat,m=j->j<n->P j)->spl m n P
 |0,_=>trivial
 |n+1,h=>⟨Jdb fun j e l=>h j e (by omega),fun e=>h n e (by omega)⟩
def wdQ (n:Int) (P:Nat->Prop) (R:Prop):Prop:=(64:Int)≠0/\(decide (wr (n.tdiv 64)>=0)=true->(decide (wr (n.tdiv 64)<16)=true->(0<=wr (n.tdiv 64)/\wr (n.tdiv 64)<(16:Nat))/\spl (wr (n.tdiv 64)) 16 P)/\(decide (wr (n.tdiv 64)<16)=false->True))/\(decide (wr (n.tdiv 64)>=0)=false->R)
theorem Jb4 {n:Int}{P:Nat->Prop}{R:Prop}(h:∀j:Nat,wr (n.tdiv 64)=j->j<16->P j) (r:R):wdQ n P R:=⟨by omega,fun h0=>⟨fun h1=>⟨⟨dt h0,dt h1⟩,Jdb h⟩,fun _=>trivial⟩,fun _=>r⟩
theorem Jg5 (e:Ld) (n:Int):Tot T (mkc rB b0 pTt True) 203 [.br (fLd.f e),pI n]:=vF (⟨hx true,[],[],[]⟩) jJV Tryz.func203 (wdQ n (fun _=>¬A63 n<0/\True) True) (by kernel_rfl) (Jb4 (fun _ _ _=>⟨a63 n,trivial⟩) trivial)
theorem Je7 (e:Ld) (n:Int):Tot T (mkc r0 (bS fLd) pTt True) 205 [.bp (fLd.f e),pI n]:=vN (⟨hx true,[],[],[]⟩) jJV Tryz.func205 (wdQ n (fun j=>¬A63 n<0/\(wr (n.tdiv 64)=j/\j<16)/\True) (false=false/\True)) (by kernel_rfl) (Jb4 (fun j e l=>⟨a63 n,⟨e,l⟩,trivial⟩) ⟨rfl,trivial⟩)
theorem JgR (e:Ld) (n:Int):Tot T (mkc r0 (bS fLd) pTt True) 206 [.bp (fLd.f e),pI n]:=vN (⟨hx true,[],[],[]⟩) jJV Tryz.func206 (wdQ n (fun j=>¬A63 n<0/\(wr (n.tdiv 64)=j/\j<16)/\True) (false=false/\True)) (by kernel_rfl) (Jb4 (fun j e l=>⟨a63 n,⟨e,l⟩,trivial⟩) ⟨rfl,trivial⟩)
def hdc:Hx:=⟨fun _=>eI,false,fun _=>none,false,true⟩
theorem Jgt (e f:Ld):Tot T (mkc r0 (bS fLd) pTt True) 200 [.bp (fLd.f {e with r:=true}),.br (fLd.f f)]:=vN (⟨hdc,[],[],[(4,.un 17)]⟩) jJV Tryz.func200 True (by kernel_rfl) trivial
theorem Jgu (e f:Ld):Tot T (mkc r0 (bS fLd) pTt True) 200 [.bp (fLd.f {e with r:=false}),.br (fLd.f f)]:=vN (⟨hdc,[],[],[(4,.un 17)]⟩) jJV Tryz.func200 True (by kernel_rfl) trivial
theorem Jgs (e f:Ld):Tot T (mkc r0 (bS fLd) pTt True) 200 [.bp (fLd.f e),.br (fLd.f f)]:=by
 cases h :e.r
 .have q:=Jgu e f
  rw[show({e with r:=false}:Ld)=e by rw[<-h]]at q;exact q
 .have q:=Jgt e f
  rw[show({e with r:=true}:Ld)=e by rw[<-h]]at q;exact q
end V
end Go.Proofs.YtnhbcdnmfafbiaaGreatDoor
set_option maxRecDepth 100000
namespace Go.Proofs.YtnhbcdnmfafbiaaGreatDoor
namespace V
open Go.Proofs
structure CfP (x:CfS):Prop where
 c:jKn x
 a:0<=x.a/\x.a<=1000000
structure SmE (n:Int):Prop where
 l:0<=n
 h:n<=1000000
theorem CfP.z:CfP ⟨0,0,0,0⟩:=⟨⟨jJH (by simp) (by simp),jJH (by simp) (by simp),jJH (by simp) (by simp),by simp⟩,by simp⟩
theorem Jez {c:CdS}(h:Rw fCF CfP c.F) (n:Int):Tot T (mkc (rS fCF) b0 (fun f _=>CfP f) True) 108 [.pl (.ag (fCd.f c)),pI n]:=vF hm jJV Tryz.func108 (br (decide (n<0)) (true=true/\CfP {a:=0,b:=0,c:=0,d:=0}) (br (decide (n>=↑c.F.length)) (CfP {a:=0,b:=0,c:=0,d:=0}) (0<=n/\(∃(y:CfS),c.F[n.toNat]? =some (fCF.f y))/\∀(x:CfS),c.F[n.toNat]? =some (fCF.f x)->CfP x))) (by kernel_rfl) (by
 have z:=CfP.z;refine⟨fun _=>⟨rfl,z⟩,fun h0=>⟨fun _=>z,fun B=>?_⟩⟩;have h0:=df h0;have B:=df B;refine⟨by omega,h.at (by omega),fun x hx=>?_⟩;obtain⟨y,E,hy⟩:=h.of hx
 rw[jTF E];exact hy)
def Jbd (xs:List Arg):Option Ct:=match xs with
 |[.rv [.r false 4 F,.r false 1 K,.r false 5 L] false,.pl (.c (.i .i64 n))]=>some (mkc (rS fCF) b0 (fun f _=>CfP f) (Rw fCF CfP F))
 |_=>none
theorem Jg0 (xs:List Arg) (k:Ct) (h:Jbd xs=some k) (hp:k.pr):Tot T k 108 xs:=by
 unfold Jbd at h
 split at h
 .rename_i F K L n
  cases h;obtain⟨x,B,h2⟩:=Jez (c:=⟨F,K,L⟩) hp n;exact⟨x,B,Does.rvp (ns:=[n]) h2 rfl⟩
 .cases h
theorem JeA {c:CdS}(h:Rw fCF CfP c.F) (hl:c.L.length<=1000000) (hf:c.F.length<=1000000) (n:Int):Tot T (mkc rI b0 (fun n _=>SmE n) True) 122 [.pl (.ag (fCd.f c)),pI n]:=vF hm jJV Tryz.func122 (br (decide (n<0)) (true=true/\SmE ↑c.L.length) (br (decide (n>=wr (↑c.F.length-1))) (SmE ↑c.L.length) (0<=wr (n+1)/\(∃(y:CfS),c.F[(wr (n+1)).toNat]? =some (fCF.f y))/\∀(x:CfS),c.F[(wr (n+1)).toNat]? =some (fCF.f x)->SmE x.a))) (by kernel_rfl) (by
 have B:SmE c.L.length:=⟨by omega,by omega⟩
 refine⟨fun _=>⟨rfl,B⟩,fun q0=>⟨fun _=>B,fun q1=>?_⟩⟩;have q0:=df q0;have q1:=df q1;have G:wr (c.F.length-1)=c.F.length-1:=jKX (by omega) (by omega);rw[G]at q1;have hn:wr (n+1)=n+1:=jKX (by omega) (by omega);rw[hn];refine⟨by omega,h.at (by omega),fun z hz=>?_⟩;obtain⟨J,E,ok⟩:=h.of hz;rw[jTF E]
 exact⟨ok.a.1,ok.a.2⟩)
def ctRe:Cts:=ctp 108 jP5 <|ctp 164 (kA (aC (aG fCF) aN) fun a=>mkc rI b0 pTt (jKn a.1)) ctFi
theorem JhB:Good T ctRe:=jKu (Good.add Jer fun a h=>Jd4 h) jX3
theorem JfJ {x:Fl}(h:JaM x) {l:Lu}(hl:jKm l):Tot T (mkc rI b0 pTt True) 204 [.br (fFl.f x),.pl (.ag (fU.f l))]:=vF hy JhB Tryz.func204 (br (decide (l.o=2)) (true=true/\True/\∀(x:Int × Unit),True->True) (br (decide (l.o=15)) (true=true/\True/\∀(x:Int × Unit),True->True) (br (decide (l.o=16)) (true=true/\True/\∀(x:Int × Unit),True->True) (br (decide (l.o=26)) (true=true/\True/\∀(x:Int × Unit),True->True) (br (decide (l.o=22)) (True/\∀(x:Int × Unit),True->True) (br (decide (l.o=7)) (true=true/\True/\∀(x:Int × Unit),True->True/\∀(x:Int × Unit),True->True) (br (decide (l.o=8)) (true=true/\True/\∀(x:Int × Unit),True->True/\∀(x:Int × Unit),True->True) (br (decide (l.o=9)) (true=true/\True/\∀(x:Int × Unit),True->True/\∀(x:Int × Unit),True->True) (br (decide (l.o=10)) (true=true/\True/\∀(x:Int × Unit),True->True/\∀(x:Int × Unit),True->True) (br (decide (l.o=11)) (true=true/\True/\∀(x:Int × Unit),True->True/\∀(x:Int × Unit),True->True) (br (decide (l.o=12)) (true=true/\True/\∀(x:Int × Unit),True->True/\∀(x:Int × Unit),True->True) (br (decide (l.o=13)) (true=true/\True/\∀(x:Int × Unit),True->True/\∀(x:Int × Unit),True->True) (br (decide (l.o=14)) (true=true/\True/\∀(x:Int × Unit),True->True/\∀(x:Int × Unit),True->True) (br (decide (l.o=23)) (true=true/\True/\∀(x:Int × Unit),True->True/\∀(x:Int × Unit),True->True) (br (decide (l.o=24)) (True/\∀(x:Int × Unit),True->True/\∀(x:Int × Unit),True->True) (br (decide (l.o=25)) (True/\∀(x:Int × Unit),True->True/\∀(x:Int × Unit),True->True/\∀(x:Int × Unit),True->True) (br (decide (l.o=21)) (True/\∀(x:Int × Unit),True->True/\∀(x:Int × Unit),True->True) (br (decide (l.o=5)) (true=true/\True/\∀(x:Int × Unit),True->True) (br (decide (l.o=18)) (true=true/\True/\∀(x:Int × Unit),True->True) (br (decide (l.o=27)) (True/\∀(x:Int × Unit),True->True) (br (decide (l.o=29)) (true=true/\(∀(e:List C),e ∈ x.F->∃(y:CfS),e=fCF.f y/\jKn y)/\∀(x:CfS × Unit),jKn x.1->jKn x.1/\∀(x:Int × Unit),True->True) (br (decide (l.o=31)) ((∀(e:List C),e ∈ x.F->∃(y:CfS),e=fCF.f y/\jKn y)/\∀(x:CfS × Unit),jKn x.1->jKn x.1/\∀(x:Int × Unit),True->True) (br (decide (l.o=30)) (true=true/\sm l.x/\∀(x:Int × Unit),True->True/\∀(x:Int × Unit),True->True) (br (decide (l.o=32)) (sm l.x/\∀(x:Int × Unit),True->True/\∀(x:Int × Unit),True->True) (br (decide (l.o=33)) (True/\∀(x:Int × Unit),True->True) True))))))))))))))))))))))))) (by kernel_rfl) (by
 have hF:=h.c.F;have hx:=hl.x
 repeat' first|exact trivial|rfl|exact hF|exact hx|assumption|(refine⟨?_,?_⟩)|intro _)
structure FlP (x:Fl) (l:Lu):Prop where
 x:JaM x
 l:jKm l
def ctMr:Cts:=ctp 204 (kA (aC (aQ fFl) <|aC (aG fU) aN) fun a=>mkc rI b0 pTt (FlP a.1 a.2.1)) <|ctp 203 (kA (aC (aQ fLd) <|aC aI aN) fun a=>mkc rB b0 pTt True) ct0
theorem JhJ:Good T ctMr:=Good.add (Good.add jJV fun a h=>Jg5 _ _) fun a h=>JfJ h.x h.l
theorem Jgy {x:Fl}(h:JaM x) {l:Lu}(hl:jKm l) (e:Ld):Tot T (mkc rB b0 pTt True) 165 [.br (fFl.f x),.pl (.ag (fU.f l)),.br (fLd.f e)]:=vF hy JhJ Tryz.func165 (br (decide (l.o=3)) (true=true/\True/\∀(x:Bool × Unit),True->True) (br (decide (l.o=4)) (True/\∀(x:Bool × Unit),True->True) (FlP x l/\∀(x:Int × Unit),True->True))) (by kernel_rfl) (by
 have q:FlP x l:=⟨h,hl⟩
 repeat' first|exact trivial|rfl|exact q|(refine⟨?_,?_⟩)|intro _)
def ctRu:Cts:=ctp 202 (kA (aC aI aN) fun a=>mkc rI b0 pTt True) <|ctp 205 (kA (aC (aP fLd) <|aC aI aN) fun a=>mkc r0 (bS fLd) pTt True) <|ctp 206 (kA (aC (aP fLd) <|aC aI aN) fun a=>mkc r0 (bS fLd) pTt True) ct0
theorem JhA:Good T ctRu:=Good.add (Good.add (Good.add jJV fun a h=>JgR _ _) fun a h=>Je7 _ _) fun a _=>Jdv _
theorem JfD (e:Ld) (l:Lu):Tot T (mkc r0 (bS fLd) pTt True) 166 [.bp (fLd.f e),.pl (.ag (fU.f l))]:=vN hy JhA Tryz.func166 (br (decide (l.o=1)) (true=true/\True/\∀(x:Int × Unit),True->True) (br (decide (l.o=2)) (true=true/\True/\∀(x:Int × Unit),True->True) (br (decide (l.o=3)) (true=true/\True/\∀(x:Int × Unit),True->True) (br (decide (l.o=7)) (true=true/\True/\∀(x:Int × Unit),True->True) (br (decide (l.o=8)) (true=true/\True/\∀(x:Int × Unit),True->True) (br (decide (l.o=9)) (true=true/\True/\∀(x:Int × Unit),True->True) (br (decide (l.o=10)) (true=true/\True/\∀(x:Int × Unit),True->True) (br (decide (l.o=11)) (true=true/\True/\∀(x:Int × Unit),True->True) (br (decide (l.o=12)) (true=true/\True/\∀(x:Int × Unit),True->True) (br (decide (l.o=13)) (true=true/\True/\∀(x:Int × Unit),True->True) (br (decide (l.o=14)) (true=true/\True/\∀(x:Int × Unit),True->True) (br (decide (l.o=15)) (true=true/\True/\∀(x:Int × Unit),True->True) (br (decide (l.o=16)) (true=true/\True/\∀(x:Int × Unit),True->True) (br (decide (l.o=22)) (true=true/\True/\∀(x:Int × Unit),True->True) (br (decide (l.o=24)) (true=true/\True/\∀(x:Int × Unit),True->True) (br (decide (l.o=26)) (true=true/\True/\∀(x:Int × Unit),True->True) (br (decide (l.o=28)) (True/\∀(x:Int × Unit),True->True) (br (decide (l.o=4)) (True/\∀(x:Int × Unit),True->True/\∀(x:Unit × Ld),True->True) (br (decide (l.o=5)) (True/\∀(x:Unit × Ld),True->True) (br (decide (l.o=6)) (True/\∀(x:Unit × Ld),True->True) (br (decide (l.o=19)) (true=true/\True/\∀(x:Int × Unit),True->True) (br (decide (l.o=20)) (true=true/\True/\∀(x:Int × Unit),True->True) (br (decide (l.o=23)) (True/\∀(x:Int × Unit),True->True) (br (decide (l.o=29)) (true=true/\True/\∀(x:Int × Unit),True->True) (br (decide (l.o=30)) (True/\∀(x:Int × Unit),True->True) True))))))))))))))))))))))))) (by kernel_rfl) (by
 repeat' first|exact trivial|rfl|(refine⟨?_,?_⟩)|intro _)
end V
end Go.Proofs.YtnhbcdnmfafbiaaGreatDoor
set_option maxRecDepth 100000
namespace Go.Proofs.YtnhbcdnmfafbiaaGreatDoor
namespace V
open Go.Proofs
def pUu {α:Type}:α->Prop:=fun _=>True
structure FlS (x y:Fl):Prop where
 F:y.F=x.F
 K:y.K=x.K
 L:y.L=x.L
 f:y.f=x.f
 n:y.R.length=x.R.length
 R:Rw fLd pUu x.R->Rw fLd pUu y.R
theorem Rw.set {S:Pz (List C)}{p:S.α->Prop}{l:List (List C)}(h:Rw S p l) (j:Nat) {x:S.α}(hx:p x):Rw S p (l.set j (S.f x)):=fun e he=>by
 rcases List.mem_or_eq_of_mem_set he with q|q
 .exact h e q
 .exact⟨x,q,hx⟩
theorem Jdr (v u:Ld):ovl (fLd.f v) 0 (fLd.f u)=fLd.f u:=by kernel_rfl
theorem FlS.refl (x:Fl):FlS x x:=⟨rfl,rfl,rfl,rfl,rfl,id⟩
theorem FlS.trans {x y z:Fl}(h:FlS x y) (k:FlS y z):FlS x z:=⟨k.F.trans h.F,k.K.trans h.K,k.L.trans h.L,k.f.trans h.f,k.n.trans h.n,fun q=>k.R (h.R q)⟩
def ctMt:Cts:=ctp 200 (kA (aC (aP fLd) <|aC (aQ fLd) aN) fun a=>mkc r0 (bS fLd) pTt True) ct0
theorem JhI:Good T ctMt:=Good.add jJV fun a h=>Jgs _ _
def JbL:Hx:=⟨fun n=>cond (Nat.beq n 18) (eS fLd) eI,false,fun _=>none,true,false⟩
theorem Jh3 {x:Fl}(h:Rw fLd pUu x.R) (z:Int) (e:Ld):Tot T (mkc r0 (bS fFl) (fun _ y=>FlS x y) True) 163 [.bp (fFl.f x),pI z,.br (fLd.f e)]:=vN (⟨JbL,[],[],[]⟩) JhI Tryz.func163 (br (decide (wr (z-x.f)>=0)) (br (decide (wr (z-x.f)<↑x.R.length)) (0<=wr (z-x.f)/\(wr (z-x.f)).toNat<x.R.length/\(∃(y:Ld),x.R[(wr (z-x.f)).toNat]? =some (fLd.f y))/\∀(x_1:Ld),x.R[(wr (z-x.f)).toNat]? =some (fLd.f x_1)->True/\∀(x_2:Unit × Ld),True->(∃(y:Ld),x.R[(wr (z-x.f)).toNat]? =some (fLd.f y))/\∀(x_3:Ld),x.R[(wr (z-x.f)).toNat]? =some (fLd.f x_3)->FlS x {F:=x.F,K:=x.K,L:=x.L,f:=x.f,R:=x.R.set (wr (z-x.f)).toNat (ovl (fLd.f x_3) 0 (fLd.f x_2.2))}) (FlS x x)) (false=false/\FlS x x)) (by kernel_rfl) (by
 refine⟨fun q0=>⟨fun q1=>?_,fun _=>FlS.refl x⟩,fun _=>⟨rfl,FlS.refl x⟩⟩;have q0:=dt q0;have q1:=dt q1;generalize wr (z-x.f)=a at q0 q1;have hl:a.toNat<x.R.length:=by omega
 have hy:∃y:Ld,x.R[a.toNat]? =some (fLd.f y):=by
  obtain⟨y,hy,_⟩:=h _ (List.getElem_mem hl);exact⟨y,by rw[List.getElem?_eq_getElem hl,hy]⟩
 exact⟨by omega,hl,hy,fun _ _=>⟨trivial,fun u _=>⟨hy,fun v _=>(by
  rw[Jdr]
  exact⟨rfl,rfl,rfl,rfl,List.length_set,fun hR=>Rw.set hR a.toNat trivial⟩)⟩⟩⟩)
structure CfR (c:CdS):Prop where
 F:Rw fCF CfP c.F
 n:c.F.length<=1000000
 l:c.L.length<=1000000
structure RwL (x:Fl):Prop where
 r:Rw fLd pUu x.R
def ctBg:Cts:=ctp 108 Jbd <|ctp 122 (kA (aC (aG fCd) <|aC aI aN) fun a=>mkc rI b0 (fun n _=>SmE n) (CfR a.1)) <|ctp 164 (kA (aC (aG fCF) aN) fun a=>mkc rI b0 pTt (jKn a.1)) <|ctp 163 (kA (aC (aP fFl) <|aC aI <|aC (aQ fLd) aN) fun a=>mkc r0 (bS fFl) (fun _ y=>FlS a.1 y) (RwL a.1)) ct0
theorem JhR:Good T ctBg:=by
 unfold ctBg;refine jKu (Good.add (Good.add (Good.add jJV ?_) ?_) ?_) Jg0
 .rintro a ⟨h⟩;exact Jh3 h _ _
 .rintro a h;exact Jd4 h
 .rintro a ⟨h1,h2,h3⟩;exact JeA h1 h3 h2 _
structure BgO (c:CdS) (x:Fl):Prop where
 F:x.F=c.F
 K:x.K=c.K
 L:x.L=c.L
 f:0<=x.f/\x.f<=1000000
 R:Rw fLd pUu x.R
 n:x.R.length<=2000000000
theorem Jh2 {c:CdS}(h:CfR c) (n:Int):Tot T (mkc (rBo fFl) b0 (fun x _=>BgO c x) True) 124 [.pl (.ag (fCd.f c)),pI n]:=vR (⟨JbL,[],[],[]⟩) JhR [] [true] Tryz.func124 ((∀(e:List C),e ∈ c.F->∃(y:CfS),e=fCF.f y/\CfP y)/\∀(x:CfS × Unit),CfP x.1->CfR c/\∀(x_1:Int × Unit),SmE x_1.1->br (decide (wr (x_1.1-x.1.a) >0)) (0<=wr (x_1.1-x.1.a)/\0<=wr (x_1.1-x.1.a)/\((wr (x_1.1-x.1.a)).toNat<=(wr (x_1.1-x.1.a)).toNat/\(wr (x_1.1-x.1.a)).toNat<=4000000000)/\jKn x.1/\∀(x_2:Int × Unit),True->RwL {F:=c.F,K:=c.K,L:=c.L,f:=x.1.a,R:=List.replicate (wr (x_1.1-x.1.a)).toNat (List.replicate 1 bf ++List.replicate 1 (iz IntKind.i64) ++List.replicate 16 (iz IntKind.u64))}/\∀(x_3:Unit × Fl),FlS {F:=c.F,K:=c.K,L:=c.L,f:=x.1.a,R:=List.replicate (wr (x_1.1-x.1.a)).toNat (List.replicate 1 bf ++List.replicate 1 (iz IntKind.i64) ++List.replicate 16 (iz IntKind.u64))} x_3.2->BgO c x_3.2) (BgO c {F:=c.F,K:=c.K,L:=c.L,f:=x.1.a,R:=[]})) (by kernel_rfl) (by
 refine⟨h.F,fun⟨f,_⟩ hf=>⟨h,fun⟨e,_⟩ he=>?_⟩⟩
 dsimp only at hf he ⊢
 obtain⟨B,a2⟩:=hf.a;obtain⟨E,G⟩:=he;rw[jKX (x:=e-f.a) (by omega) (by omega)];refine⟨fun q=>?_,fun _=>⟨rfl,rfl,rfl,⟨B,a2⟩,Rw.nil,by simp⟩⟩;have q:=dt q
 have hR:Rw fLd pUu (List.replicate (e-f.a).toNat (List.replicate 1 bf ++List.replicate 1 (iz IntKind.i64) ++List.replicate 16 (iz IntKind.u64))):=fun e he=>⟨⟨false,0,0,0,0,0,0,0,0,0,0,0,0,0,0,0,0,0⟩,by rw[List.eq_of_mem_replicate he];rfl,trivial⟩
 exact⟨by omega,by omega,⟨Nat.le_refl _,by omega⟩,hf.c,fun _ _=>⟨⟨hR⟩,fun⟨_,y⟩ k=>⟨k.F,k.K,k.L,by rw[k.f];exact⟨B,a2⟩,k.R hR,by rw[k.n,List.length_replicate];omega⟩⟩⟩)
end V
end Go.Proofs.YtnhbcdnmfafbiaaGreatDoor
set_option maxRecDepth 100000
namespace Go.Proofs.YtnhbcdnmfafbiaaGreatDoor
namespace V
open Go.Proofs Go.RowKit
def nI (a b:Int):Int:=bits BinOp.and IntKind.i64 a b
def nU (a b:Int):Int:=bits BinOp.and IntKind.u64 a b
def ldv (e:Ld):List Value:=[.bool e.r,.int .i64 e.m,.int .u64 e.a0,.int .u64 e.a1,.int .u64 e.a2,.int .u64 e.a3,.int .u64 e.a4,.int .u64 e.a5,.int .u64 e.a6,.int .u64 e.a7,.int .u64 e.a8,.int .u64 e.a9,.int .u64 e.a10,.int .u64 e.a11,.int .u64 e.a12,.int .u64 e.a13,.int .u64 e.a14,.int .u64 e.a15]
def Ld.s (e:Ld):List Int:=[e.a0,e.a1,e.a2,e.a3,e.a4,e.a5,e.a6,e.a7,e.a8,e.a9,e.a10,e.a11,e.a12,e.a13,e.a14,e.a15]
def Ld.g (e:Ld) (i:Nat):Int:=e.s.getD i 0
def mtL (e f:Ld):Ld:=if e.r then⟨true,nI e.m f.m,nU e.a0 f.a0,nU e.a1 f.a1,nU e.a2 f.a2,nU e.a3 f.a3,nU e.a4 f.a4,nU e.a5 f.a5,nU e.a6 f.a6,nU e.a7 f.a7,nU e.a8 f.a8,nU e.a9 f.a9,nU e.a10 f.a10,nU e.a11 f.a11,nU e.a12 f.a12,nU e.a13 f.a13,nU e.a14 f.a14,nU e.a15 f.a15⟩ else f
def cvm (e f:Ld) (j i:Nat):Value:=if i=0 then .bool true else if i=1 then .int .i64 (nI e.m f.m) else if i<2+j then .int .u64 (nU (e.g (i-2)) (f.g (i-2))) else .int .u64 (e.g (i-2))
theorem Jbo {e:Ld}:∀{i:Nat},i<16->(ldv e)[2+i]? =some (.int .u64 (e.g i))
 |0,_=>rfl|1,_=>rfl|2,_=>rfl|3,_=>rfl|4,_=>rfl|5,_=>rfl|6,_=>rfl|7,_=>rfl
 |8,_=>rfl|9,_=>rfl|10,_=>rfl|11,_=>rfl|12,_=>rfl|13,_=>rfl|14,_=>rfl|15,_=>rfl
 |n+16,h=>by omega
theorem JaZ (e:Ld):(ldv e).length=18:=rfl
theorem Jgf {e f:Ld}(B:e.r=true):∀{i:Nat},i<16->(mtL e f).g i=nU (e.g i) (f.g i):=by
 unfold mtL;rw[if_pos B];intro i hi;rcases i with _|_|_|_|_|_|_|_|_|_|_|_|_|_|_|_|i <;> first|rfl|omega
theorem jk2 {e f:Ld}(B:e.r=true) {i:Nat}(h:i<18):(ldv (mtL e f))[i]? =some (cvm e f 16 i):=by
 by_cases h0:i=0
 .subst h0;unfold mtL;rw[if_pos B];rfl
 .by_cases h1:i=1
  .subst h1;unfold mtL;rw[if_pos B];rfl
  .obtain⟨j,rfl⟩:∃j,i=2+j:=⟨i-2,by omega⟩
   rw[Jbo (by omega),Jgf B (by omega)];simp only[cvm,if_neg h0,if_neg h1,if_pos h,Nat.add_sub_cancel_left]
theorem Jhn {e f:Ld}(E:e.r=true) {i:Nat}(h:i<18) (B:i≠1):(ldv e)[i]? =some (cvm e f 0 i):=by
 by_cases h0:i=0
 .subst h0;show some (Value.bool e.r)=_;rw[E];rfl
 .obtain⟨j,rfl⟩:∃j,i=2+j:=⟨i-2,by omega⟩
  rw[Jbo (by omega)];simp only[cvm,if_neg h0,if_neg B,if_neg (show ¬2+j<2+0 by omega),Nat.add_sub_cancel_left]
structure Ch (g q:Nat) (w w':World):Prop where
 low:Below 0 w w'
 sz:w'.heap.size=w.heap.size
 rest:∀k,k≠g->w'.heap[k]? =w.heap[k]?
 blk:∀arr ty fz,w.heap[g]? =some (.cells arr ty fz)->∃arr',w'.heap[g]? =some (.cells arr' ty fz)/\arr'.size=arr.size/\∀j,(j<q\/q+18<=j)->arr'[j]? =arr[j]?
theorem Ch.refl (g q:Nat) (w:World):Ch g q w w:=⟨Below.refl _ _,rfl,fun _ _=>rfl,fun arr ty fz h=>⟨arr,h,rfl,fun _ _=>rfl⟩⟩
theorem Ch.drew {g q:Nat}{w w1:World}(h:Ch g q w w1):Ch g q w w1.drew:=⟨h.low.drew,h.sz,h.rest,h.blk⟩
theorem Jce {w:World}{g i:Nat}{u:Value}{arr:Array Value}{ty:TypeId}{fz:Nat × Nat}(h:w.heap[g]? =some (.cells arr ty fz)):(w.setCell ⟨g,i,none⟩ u).heap[g]? =some (.cells (arr.setIfInBounds i u) ty fz)/\∀k,k≠g->(w.setCell ⟨g,i,none⟩ u).heap[k]? =w.heap[k]?:=by
 unfold World.setCell;refine⟨by rw[Array.getElem?_modify,if_pos rfl,h];rfl,fun k hk=>by rw[Array.getElem?_modify,if_neg (fun e=>hk e.symm)]⟩
theorem Ch.set {g q:Nat}{w w1:World}(h:Ch g q w w1) {i:Nat}(u:Value) (G:q<=i) (h2:i<q+18) {arr:Array Value}{ty:TypeId}{fz:Nat × Nat}(B:w.heap[g]? =some (.cells arr ty fz)):Ch g q w (w1.setCell ⟨g,i,none⟩ u):=by
 obtain⟨O,E,M,J⟩:=h.blk arr ty fz B;refine⟨h.low.trans ((Below.refl 0 w1).setCell (Nat.zero_le _) _),(World.size_setCell w1 _ _).trans h.sz,fun k hk=>((Jce E).2 k hk).trans (h.rest k hk),fun arr' ty' fz' hb'=>?_⟩;rw[B]at hb';cases hb';exact⟨_,(Jce E).1,by rw[Array.size_setIfInBounds,M],fun j hj=>by rw[Array.getElem?_setIfInBounds_ne (by omega)];exact J j hj⟩
theorem Ch.sets {g q:Nat}{w:World}{arr:Array Value}{ty:TypeId}{fz:Nat × Nat}(B:w.heap[g]? =some (.cells arr ty fz)):∀(vs:List Value) (i:Nat) (w1:World),Ch g q w w1->q<=i->i+vs.length<=q+18->Ch g q w (w1.setCells g i vs)
 |[],_,_,h,_,_=>h
 |v ::r,i,w1,h,h1,h2=>by
  rw[World.setCells];simp only[List.length_cons]at h2;exact Ch.sets B r (i+1) _ (h.set v h1 (by omega) B) (by omega) (by omega)
theorem Jex {w:World}{g i j:Nat}{u v:Value}{arr:Array Value}{ty:TypeId}{fz:Nat × Nat}(B:w.heap[g]? =some (.cells arr ty fz)) (E:w.cell? ⟨g,i,none⟩=some v):(w.setCell ⟨g,i,none⟩ u).cell? ⟨g,j,none⟩=if i=j then some u else w.cell? ⟨g,j,none⟩:=by
 rw[cell_of (Jce B).1,cell_of B];rw[cell_of B]at E
 have hi:i<arr.size:=by
  rcases Nat.lt_or_ge i arr.size with h|h
  .exact h
  .rw[Array.getElem?_eq_none h]at E;cases E
 by_cases e:i=j
 .subst e;rw[if_pos rfl,Array.getElem?_setIfInBounds_self_of_lt hi]
 .rw[if_neg e,Array.getElem?_setIfInBounds_ne e]
theorem Jg4:(Tryz.prog.info? 219).map (·.size)=some 18:=by kernel_rfl
theorem Je8:(Tryz.prog.underlying 219).map (·.isRow)=some true:=by kernel_rfl
theorem undL:∃d,Tryz.prog.underlying 219=some d/\d.isRow=true:=by
 have h:=Je8
 cases hd :Tryz.prog.underlying 219 with
 |none=>rw[hd]at h;cases h
 |some d=>rw[hd]at h;injection h with h;exact⟨d,rfl,h⟩
theorem JgP (e:Ld):∀v ∈ ldv e,v.oneCell'=true:=fun v hv=>by
 simp only[ldv,List.mem_cons,List.not_mem_nil,or_false]at hv;rcases hv with rfl|rfl|rfl|rfl|rfl|rfl|rfl|rfl|rfl|rfl|rfl|rfl|rfl|rfl|rfl|rfl|rfl|rfl <;> rfl
def jk (w:World) (g q:Nat) (e:Ld):Prop:=∀i,i<18->w.cell? ⟨g,q+i,none⟩=(ldv e)[i]?
theorem jk.range {w:World}{g q:Nat}{e:Ld}(h:jk w g q e):w.rangeAt g q (ldv e):=fun j v hv=>by
 rw[h j (by have:=(List.getElem?_eq_some_iff.1 hv).1;rw[JaZ]at this;exact this)];exact hv
theorem jk.of_range {w:World}{g q:Nat}{e:Ld}(h:w.rangeAt g q (ldv e)):jk w g q e:=fun i hi=>by
 obtain⟨v,B⟩:∃v,(ldv e)[i]? =some v:=⟨_,List.getElem?_eq_getElem (by rw[JaZ];exact hi)⟩
 rw[B];exact h i v B
theorem jk.some' {w:World}{g q:Nat}{e:Ld}(h:jk w g q e) {i:Nat}(hi:i<18):∃v,w.cell? ⟨g,q+i,none⟩=some v:=⟨_,(h i hi).trans (List.getElem?_eq_getElem (by rw[JaZ];exact hi))⟩
theorem jk.there {w:World}{g q:Nat}{e:Ld}{arr:Array Value}{ty:TypeId}{fz:Nat × Nat}(B:w.heap[g]? =some (.cells arr ty fz)) (G:okz arr.size fz) (h:jk w g q e):w.there g q 18:=fun j hj=>by
 obtain⟨v,E⟩:=h.some' hj;refine⟨by rw[E];rfl,?_⟩;rw[cell_of B]at E;exact jQc B G (Array.getElem?_eq_some_iff.1 E).1
theorem jiy {w:World}{g q q2:Nat}{e f:Ld}(O:e.r=false) {arr:Array Value}{ty:TypeId}{fz:Nat × Nat}(E:w.heap[g]? =some (.cells arr ty fz)) (hz:okz arr.size fz) (B:jk w g q e) (h2:jk w g q2 f) :
 Calls Tryz.prog 200 #[.pointer (some ⟨g,q,none⟩),.pointer (some ⟨g,q2,none⟩)] w fun r w'=>r= .returned (.tuple #[])/\jk w' g q (mtL e f)/\Ch g q w w':=by
 have P:mtL e f=f:=by unfold mtL;rw[O];rfl
 rw[P];have c0:w.cell? ⟨g,q,none⟩=some (.bool false):=by have:=B 0 (by omega);rw[<-O];exact this
 obtain⟨d,Y,Z⟩:=undL;have J:=B.there E hz;have h3:=h2.range;have G:(Tryz.prog.info? 219).map (·.size)=some (ldv f).length:=by rw[JaZ];exact Jg4
 have M:=JgP f;have V:=JaZ f;have HL:Hid (jk (w.setCells g q (ldv f)) g q f):=jk.of_range (w.rangeAt_setCells_same g q _ (by rw[JaZ];exact J));have HC:Hid (Ch g q w (w.setCells g q (ldv f))):=Ch.sets E _ _ _ (Ch.refl _ _ _) (Nat.le_refl _) (by rw[JaZ];omega);clear B h2 E P;generalize ldv f=cs at *
 go_enter Tryz.func200,Tryz.ntmps200
 go_wp2_with (first
  |(refine wpList_load_mid (op:=⟨some 13,Op.load 219 (.tmp 12),_,_,_,_⟩) rfl 219 (.tmp 12) rfl g q2 rfl cs d h3 Y Z G ?_)
  |(refine wpList_store_mid (op:=⟨none,Op.store 219 (.tmp 14) (.tmp 13),_,_,_,_⟩) rfl 219 (.tmp 14) (.tmp 13) rfl g q cs.toArray rfl rfl (by rw[List.size_toArray,V];exact J) (by rw[List.size_toArray];exact G) (all_oneCell_toArray M) ?_))
 go_returns;exact⟨rfl,HL.out,HC.out⟩
end V
end Go.Proofs.YtnhbcdnmfafbiaaGreatDoor
set_option maxRecDepth 100000
namespace Go.Proofs.YtnhbcdnmfafbiaaGreatDoor
namespace V
open Go.Proofs Go.RowKit
theorem Jgr {w:World}{g q q2:Nat}{e f:Ld}(hr:e.r=true) {arr:Array Value}{ty:TypeId}{fz:Nat × Nat}(P:w.heap[g]? =some (.cells arr ty fz)) (hz:okz arr.size fz) (V:q2+18<=q\/q+18<=q2\/q2=q) (E:jk w g q e) (h2:jk w g q2 f) :
 Calls Tryz.prog 200 #[.pointer (some ⟨g,q,none⟩),.pointer (some ⟨g,q2,none⟩)] w fun r w'=>r= .returned (.tuple #[])/\jk w' g q (mtL e f)/\Ch g q w w':=by
 have c0:w.cell? ⟨g,q,none⟩=some (.bool true):=by have:=E 0 (by omega);rw[<-hr];exact this
 have Z:w.cell? ⟨g,q+1,none⟩=some (.int .i64 e.m):=E 1 (by omega);have d1:w.cell? ⟨g,q2+1,none⟩=some (.int .i64 f.m):=h2 1 (by omega)
 have f1:w.frozen? ⟨g,q+1,none⟩=false:=by
  have:=Z;rw[cell_of P]at this;exact jQc P hz (Array.getElem?_eq_some_iff.1 this).1
 have H1:=Lib.hid E;have H2:=Lib.hid h2;have O:=Lib.hid P;have HZ:=Lib.hid hz;have HR:=Lib.hid hr;have k4:=Lib.hid V
 obtain⟨M,J⟩:∃m,bits BinOp.and IntKind.i64 e.m f.m=m:=⟨_,rfl⟩
 have EM:Hid (nI e.m f.m=M):=J
 obtain⟨em,h5⟩:∃m,e.m=m:=⟨_,rfl⟩
 obtain⟨fm,h6⟩:∃m,f.m=m:=⟨_,rfl⟩
 rw[h5]at Z J;rw[h6]at d1 J;have C1:=Lib.hid Z;clear E h2 P hz hr V h5 h6
 go_enter Tryz.func200,Tryz.ntmps200
 go_wp2
 go_region
 rename_i K1 h3
 refine h3 _ _ ?_;clear h3;have h7:Hid (Ch g q w (w.setCell ⟨g,q+1,none⟩ (.int .i64 M)).drew):=((Ch.refl g q w).set _ (by omega) (by omega) O.out).drew
 have k5:Hid (∀i,i<18->(w.setCell ⟨g,q+1,none⟩ (.int .i64 M)).drew.cell? ⟨g,q+i,none⟩=some (cvm e f 0 i)):=fun i hi=>by
  show(w.setCell ⟨g,q+1,none⟩ (.int .i64 M)).cell? ⟨g,q+i,none⟩=_;rw[Jex O.out C1.out,H1.out i hi]
  by_cases B:i=1
  .subst B
   rw[if_pos rfl];simp only[cvm,if_neg (show ¬1=0 by omega),if_true];rw[EM.out]
  .rw[if_neg (by omega)]
   exact Jhn HR.out hi B
 clear c0 Z d1 f1
 go_wp2
 go_loopg [4] 16 (fun gh i (wi:World)=>∃j:Nat,j<=16/\gh=16-j/\i= .int .i64 j/\(∀k,k<18->wi.cell? ⟨g,q+k,none⟩=some (cvm e f j k))/\Ch g q w wi)
 case atStart=>exact⟨0,by omega,rfl,rfl,k5.out,h7.out⟩
 case round=>
  obtain⟨j,hj,k9,rfl,Y,G⟩:=hrel;have HV:=Lib.hid Y;have h9:=Lib.hid G
  by_cases q9:j<16
  .obtain⟨arr',hb',hsz',hout⟩:=G.blk arr ty fz O.out
   have k8:=Lib.hid hb'
   have k1:wr.cell? ⟨g,q+2+j,none⟩=some (.int .u64 (e.g j)):=by
    rw[show q+2+j=q+(2+j) by omega,Y (2+j) (by omega)];simp only[cvm,if_neg (show ¬2+j=0 by omega),if_neg (show ¬2+j=1 by omega),if_neg (show ¬2+j<2+j by omega),Nat.add_sub_cancel_left]
   have hs:=H2.out (2+j) (by omega)
   have k2:wr.cell? ⟨g,q2+2+j,none⟩=some (.int .u64 (f.g j)):=by
    rw[show q2+2+j=q2+(2+j) by omega]
    by_cases hq:q2=q
    .subst hq
     have E:=H1.out (2+j) (by omega);rw[hs,Jbo (by omega),Jbo (by omega)]at E;rw[E,<-k1]
     congr 2
     omega
    .rw[cell_of hb',hout _ (by have:=k4.out;omega),<-cell_of O.out,hs,Jbo (by omega)]
   have k3:wr.frozen? ⟨g,q+2+j,none⟩=false:=by
    have:=k1;rw[cell_of hb']at this;refine jQc hb' ?_ (Array.getElem?_eq_some_iff.1 this).1;rw[hsz'];exact HZ.out
   obtain⟨mm,k7⟩:∃m,bits BinOp.and IntKind.u64 (e.g j) (f.g j)=m:=⟨_,rfl⟩
   have k6:Hid (∀k,k<18->(wr.setCell ⟨g,q+2+j,none⟩ (.int .u64 mm)).cell? ⟨g,q+k,none⟩=some (cvm e f (j+1) k)):=fun k hk=>by
    rw[Jex hb' k1,Y k hk]
    by_cases B:k=2+j
    .subst B
     rw[if_pos (by omega)];simp only[cvm,if_neg (show ¬2+j=0 by omega),if_neg (show ¬2+j=1 by omega),if_pos (show 2+j<2+(j+1) by omega),Nat.add_sub_cancel_left];rw[<-k7];rfl
    .rw[if_neg (by omega)]
     unfold cvm
     by_cases e0:k=0
     .rw[if_pos e0,if_pos e0]
     .rw[if_neg e0,if_neg e0]
      by_cases B:k=1
      .rw[if_pos B,if_pos B]
      .rw[if_neg B,if_neg B]
       by_cases e2:k<2+j
       .rw[if_pos e2,if_pos (by omega)]
       .rw[if_neg e2,if_neg (by omega)]
   have h8:Hid (Ch g q w (wr.setCell ⟨g,q+2+j,none⟩ (.int .u64 mm))):=G.set _ (by omega) (by omega) O.out;clear Y G hb' hsz' hout hs;generalize e.g j=eg at *;generalize f.g j=fg at *
   go_wp2_with fail
   go_region
   rename_i K2 h4
   refine h4 _ _ ?_;clear h4
   go_wp2_with fail
   go_roundg (16-(j+1))
   case measure=>omega
   case rel=>exact⟨j+1,by omega,rfl,by go_num,k6.out,h8.out.drew⟩
  .have hj16:j=16:=by omega
   subst hj16;clear Y G
   go_wp2_with fail
   go_returns;exact⟨rfl,fun k hk=>by rw[HV.out k hk,jk2 HR.out hk],h9.out⟩
theorem jiz {w:World}{g q q2:Nat}{e f:Ld}{arr:Array Value}{ty:TypeId}{fz:Nat × Nat}(G:w.heap[g]? =some (.cells arr ty fz)) (J:okz arr.size fz) (B:q2+18<=q\/q+18<=q2\/q2=q) (E:jk w g q e) (h2:jk w g q2 f) :
 Calls Tryz.prog 200 #[.pointer (some ⟨g,q,none⟩),.pointer (some ⟨g,q2,none⟩)] w fun r w'=>r= .returned (.tuple #[])/\jk w' g q (mtL e f)/\Ch g q w w':=by
 cases hr :e.r
 .exact jiy hr G J E h2
 .exact Jgr hr G J B E h2
end V
end Go.Proofs.YtnhbcdnmfafbiaaGreatDoor
set_option maxRecDepth 100000
namespace Go.Proofs.YtnhbcdnmfafbiaaGreatDoor
namespace V
open Go.Proofs Go.RowKit
theorem JgQ {w:World}{A:Nat->Prop}(e:Ld):RL w A (fLd.f e) (ldv e) []:=by
 have h:∀{l:List C},l.all isD=true->RL w A l (l.map JcA) []:=fun {l}=>by
  induction l with
  |nil=>intro _;exact .nil
  |cons c l ih=>
   intro h;rw[List.all_cons,Bool.and_eq_true]at h;refine RL.cons (F:=[]) (F':=[]) ?_ (ih h.2);cases c <;> first|exact RC.i _ _|exact RC.b _|cases h.1
 exact h (l:=fLd.f e) rfl
theorem neLd:Nonempty Ld:=⟨⟨false,0,0,0,0,0,0,0,0,0,0,0,0,0,0,0,0,0⟩⟩
noncomputable def Ja2 (R:List (List C)) (i:Nat):Ld:=@Classical.epsilon Ld neLd fun e=>R[i]? =some (fLd.f e)
theorem Jd6 {R:List (List C)}(h:Rw fLd pUu R) {i:Nat}(hi:i<R.length):R[i]? =some (fLd.f (Ja2 R i)):=by
 obtain⟨e,B⟩:=h.at hi;exact @Classical.epsilon_spec_aux Ld neLd (fun e=>R[i]? =some (fLd.f e)) ⟨e,B⟩
noncomputable def Jas (x:Fl) (z:Int) (j:Nat):Fl:=if 0<=wr (z-x.f)/\wr (z-x.f)<x.R.length then {x with R:=x.R.set (wr (z-x.f)).toNat (fLd.f (mtL (Ja2 x.R (wr (z-x.f)).toNat) (Ja2 x.R j)))} else x
theorem JbX (x:Fl) (z:Int) (j:Nat):FlS x (Jas x z j):=by
 unfold Jas
 split
 .exact⟨rfl,rfl,rfl,rfl,List.length_set,fun h=>Rw.set h _ trivial⟩
 .exact FlS.refl x
theorem Jhf {c:Cf}(ok:Ok T c) {x:Fl}(hR:lkr T c.st.rt 0=some ⟨0,fFl.f x⟩):∃v4 F4,c.w.cell? ⟨(c.mo 0).k,(c.mo 0).o+3,none⟩=some (.int .i64 x.f)/\c.w.cell? ⟨(c.mo 0).k,(c.mo 0).o+4,none⟩=some v4/\(c.mo 0).vs[4]? =some v4/\RC c.w c.A (.r true 18 x.R) v4 F4/\(c.mo 0).k<c.w.heap.size:=by
 have B:=ok.sx.sr.rts 0 _ hR;unfold jJM at B;rw[if_neg (by simp),if_neg (by simp[isV])]at B;obtain⟨F',arr,q1,q2,q3,_⟩:=B;have hl:(fFl.f x).length=5:=rfl;have rl:=q2.rl;have le:=q2.le;simp only[hl]at rl le q3;rw[<-q3]at rl
 have G:∀i,i<5->c.w.cell? ⟨(c.mo 0).k,(c.mo 0).o+i,none⟩=(c.mo 0).vs[i]?:=fun i hi=>by
  rw[cell_of q2.blk,q3,List.getElem?_take,if_pos hi,List.getElem?_drop,Array.getElem?_toList]
 obtain⟨v3,_,P,_,J,_,M,_⟩:=rl.at (o:=3) (c:=I x.f) rfl;obtain⟨v4,_,F4,_,E,_,O,_⟩:=rl.at (o:=4) (c:=.r true 18 x.R) rfl;have:v3= .int .i64 x.f:=by cases M;rfl
 subst this;exact⟨v4,F4,(G 3 (by omega)).trans J,(G 4 (by omega)).trans E,E,O,jKi q2.blk⟩
theorem JfH {w:World}{A:Nat->Prop}{R:List (List C)}{v:Value}{F:List Nat}(h:RC w A (.r true 18 R) v F) (hl:0<R.length):∃g cap arr ty fz,v= .slice (some ⟨g,0,none⟩) R.length cap/\w.heap[g]? =some (.cells arr ty fz)/\okz arr.size fz/\R.length<=cap/\∀i e,R[i]? =some (fLd.f e)->jk w g (i*18) e:=by
 cases h with
 |rn=>cases hl
 |ro h1 h2 h3 h4 h5 h6=>
  rename_i g F cap arr ty fz
  refine⟨g,cap,arr,ty,fz,rfl,h1,h2,h5,fun i e he k hk=>?_⟩;obtain⟨_,_,_,G,_,_,B,_⟩:=h6.foc he;obtain⟨E,_⟩:=B.val rfl;rw[cell_of h1,<-Array.getElem?_toList];have:(ldv e)[k]? =((arr.toList.drop (i*18)).take 18)[k]?:=by rw[E];rfl
  rw[this,List.getElem?_take,if_pos hk,List.getElem?_drop]
theorem JfR {c:Cf}(ok:Ok T c) {x:Fl}(hR:lkr T c.st.rt 0=some ⟨0,fFl.f x⟩) {g cap i:Nat}{arr:Array Value}{ty:TypeId}{fz:Nat × Nat}(Z:(c.mo 0).vs[4]? =some (.slice (some ⟨g,0,none⟩) x.R.length cap)) (G:c.w.heap[g]? =some (.cells arr ty fz)) {e B:Ld}(O:x.R[i]? =some (fLd.f e)) (h0:jk c.w g (i*18) e) {w':World}(hl:jk w' g (i*18) B) (E:Ch g (i*18) c.w w') :
 ∃mo' fp',Ok T ⟨w',c.A,⟨jKt 0 4 0 c.st.tm,upR c.st.rt 0 ⟨0,fFl.f {x with R:=x.R.set i (fLd.f B)}⟩⟩,mo',fp',c.a,c.X⟩/\Stp T c ⟨w',c.A,⟨jKt 0 4 0 c.st.tm,upR c.st.rt 0 ⟨0,fFl.f {x with R:=x.R.set i (fLd.f B)}⟩⟩,mo',fp',c.a,c.X⟩:=by
 have hs:V.setP T c.st ⟨0,4,[(18,i,0)]⟩ (fLd.f B)=some ⟨jKt 0 4 0 c.st.tm,upR c.st.rt 0 ⟨0,fFl.f {x with R:=x.R.set i (fLd.f B)}⟩⟩:=by
  unfold V.setP;rw[if_pos (by rfl),hR];show(if(own ⟨0,fFl.f x⟩ && !(0 == 9))=true then _ else _)=_;rw[if_pos (by rfl)]
  have g1:gL [(18,i,0)] (fFl.f x) 4 18=some (fLd.f e):=by
   show(match x.R[i]? with|some e=>if 18=18 then gL [] e 0 18 else none|none=>none)=_;rw[O];show(if 18=18 then gL [] (fLd.f e) 0 18 else none)=_;rw[if_pos rfl]
   kernel_rfl
  have g2:sL [(18,i,0)] (fFl.f x) 4 (fLd.f B)=some (fFl.f {x with R:=x.R.set i (fLd.f B)}):=by
   show(match x.R[i]? with|some e=>if 18=18 then(match sL [] e 0 (fLd.f B)with|some e''=>some ((fFl.f x).set 4 (.r true 18 (x.R.set i e'')))|none=>none) else none|none=>none)=_;rw[O];show(if 18=18 then(match sL [] (fLd.f e) 0 (fLd.f B)with|some e''=>some ((fFl.f x).set 4 (.r true 18 (x.R.set i e'')))|none=>none) else none)=_;rw[if_pos rfl,show sL [] (fLd.f e) 0 (fLd.f B)=some (fLd.f B) by kernel_rfl];rfl
  show(match gL [(18,i,0)] (fFl.f x) 4 18 with|some _=>(match sL [(18,i,0)] (fFl.f x) 4 (fLd.f B)with|some cs=>some (⟨jKt 0 4 0 c.st.tm,upR c.st.rt 0 ⟨0,cs⟩⟩:St)|none=>none)|none=>none)=_;rw[g1,g2]
 obtain⟨mo',fp',h1,h4,h3,b1,b2,b3,M,d2⟩:=ok.setP (Fs:=[]) (X0:=c.X) rfl (us:=ldv B) (JgQ B) hs (g:=g) (q:=i*18) (fun w'' _=>by
  show((c.mo 0).vs[4]?).bind _=_;rw[Z];show some (g,0+i*18+0)=_
  rw[Nat.zero_add,Nat.add_zero])
 rw[G]at b1;cases b1;obtain⟨s1,s2,s3⟩:=jNN g (ldv B) (i*18) c.w G;obtain⟨J,Y,a2,a3⟩:=E.blk _ _ _ G;have P:(ldv B).length=18:=rfl
 have ea:J=ovr arr (i*18) (ldv B):=by
  apply Array.ext_getElem?;intro k;rw[jPo _ _ _ _ b3,P]
  split
  .rename_i hk
   have:=hl (k-i*18) (by omega);rw[cell_of Y,show i*18+(k-i*18)=k by omega]at this;exact this
  .rename_i hk
   exact a3 k (by omega)
 have hh:∀k,w'.heap[k]? =(c.w.setCells g (i*18) (ldv B)).heap[k]?:=fun k=>by
  by_cases h:k=g
  .subst h;rw[Y,s1,ea]
  .rw[E.rest k h,s3 k h]
 have low:=jNM g (ldv B) (i*18) c.w;obtain⟨k1,k2⟩:=M.world (w':=w') (A':=c.A) (X':=c.X) (fun k _ _=>hh k) ⟨E.low.os.trans low.os.symm,E.low.tape.trans low.tape.symm,E.low.output.trans low.output.symm,by rw[s2,E.sz];exact Nat.le_refl _,fun k hk=>by omega⟩ (fun _ h=>h) (fun k hk=>⟨.inl hk,by rw[E.sz];exact ok.al k hk⟩) M.sx.nd (fun k hk=>⟨.inl hk,by rw[E.sz];exact ok.sx.lt k hk,M.sx.na k hk⟩);exact⟨mo',fp',k1,d2.trans k2⟩
theorem Jh4 {c:Cf}(ok:Ok T c) {x:Fl}(hR:lkr T c.st.rt 0=some ⟨0,fFl.f x⟩) (J:Rw fLd pUu x.R) {j G q2:Nat}(hj:j<x.R.length) (hn:ad c.w (c.mo 0) 4 [(18,j,0)]=some (G,q2)) (z:Int) :
 Calls Tryz.prog 163 #[.pointer (some ⟨(c.mo 0).k,(c.mo 0).o,none⟩),.int .i64 z,.pointer (some ⟨G,q2,none⟩)] c.w fun r w'=>r= .returned (.tuple #[])/\∃mo' fp',Ok T ⟨w',c.A,⟨jKt 0 4 0 c.st.tm,upR c.st.rt 0 ⟨0,fFl.f (Jas x z j)⟩⟩,mo',fp',c.a,c.X⟩/\Stp T c ⟨w',c.A,⟨jKt 0 4 0 c.st.tm,upR c.st.rt 0 ⟨0,fFl.f (Jas x z j)⟩⟩,mo',fp',c.a,c.X⟩:=by
 obtain⟨v4,F4,c3,c4,Z,r4,hk⟩:=Jhf ok hR;obtain⟨g,cap,arr,ty,fz,rfl,V,hz,h3,B⟩:=JfH r4 (by omega)
 have h6:G=g/\q2=j*18:=by
  have hn:((c.mo 0).vs[4]?).bind (fun v=>adv c.w v 18 j 0 [])=some (G,q2):=hn;rw[Z]at hn;have hn:some (g,0+j*18+0)=some (G,q2):=hn;simp only[Option.some.injEq,Prod.mk.injEq]at hn;omega
 obtain⟨rfl,rfl⟩:=h6;have h9:=jKi V;have hf:=Jd6 J hj;have M:Hid (∀(i:Nat) (e e':Ld) (w':World),x.R[i]? =some (fLd.f e)->jk w' G (i*18) e'->Ch G (i*18) c.w w'->∃mo' fp',Ok T ⟨w',c.A,⟨jKt 0 4 0 c.st.tm,upR c.st.rt 0 ⟨0,fFl.f {x with R:=x.R.set i (fLd.f e')}⟩⟩,mo',fp',c.a,c.X⟩/\Stp T c ⟨w',c.A,⟨jKt 0 4 0 c.st.tm,upR c.st.rt 0 ⟨0,fFl.f {x with R:=x.R.set i (fLd.f e')}⟩⟩,mo',fp',c.a,c.X⟩):=fun i e e' w' O hl hc=>JfR ok hR Z V O (B i e O) hl hc
 by_cases E:0<=wr (z-x.f)/\wr (z-x.f)<x.R.length
 .obtain⟨i,hi⟩:∃i:Nat,wr (z-x.f)=i:=⟨(wr (z-x.f)).toNat,by omega⟩
  have h7:i<x.R.length:=by omega
  have O:=Jd6 J h7;have CM:=Lib.hid (jiz (q:=i*18) (q2:=j*18) V hz (by omega) (B i _ O) (B j _ hf))
  have P:Hid (Jas x z j={x with R:=x.R.set i (fLd.f (mtL (Ja2 x.R i) (Ja2 x.R j)))}):=by
   show _=_;unfold Jas;rw[if_pos E,hi,Int.toNat_natCast]
  have HE:=Lib.hid O;have k1:IntKind.i64.wrap (z-x.f)=(i:Int):=hi;rw[P.out];generalize x.R.length=len at *;generalize x.f=xf at *;have g1:(i:Int)<(len:Int):=by omega
  have g3:(0:Int)<=(i:Int):=by omega
  generalize (c.mo 0).k=k0 at *;generalize (c.mo 0).o=o0 at *;have HR:=Lib.hid hR;have h8:=Lib.hid ok;clear E hi O hf B V hz hR J Z r4 hn ok P
  go_enter Tryz.func163,Tryz.ntmps163
  go_wp2_with (go_at_call 200;refine CM.out.mono ?_;rintro _ w1 ⟨rfl,h4,h5⟩)
  go_returns;exact⟨rfl,M.out i _ _ _ HE.out h4 h5⟩
 .have P:Hid (∃mo' fp',Ok T ⟨c.w,c.A,⟨jKt 0 4 0 c.st.tm,upR c.st.rt 0 ⟨0,fFl.f (Jas x z j)⟩⟩,mo',fp',c.a,c.X⟩/\Stp T c ⟨c.w,c.A,⟨jKt 0 4 0 c.st.tm,upR c.st.rt 0 ⟨0,fFl.f (Jas x z j)⟩⟩,mo',fp',c.a,c.X⟩):=by
   have e1:Jas x z j={x with R:=x.R.set j (fLd.f (Ja2 x.R j))}:=by
    unfold Jas;rw[if_neg E]
    have:x.R.set j (fLd.f (Ja2 x.R j))=x.R:=by
     rw[List.getElem?_eq_getElem hj]at hf;injection hf with hf
     rw[<-hf,List.set_getElem_self]
    rw[this]
   show ∃_ _,_;rw[e1];exact M.out j _ _ _ hf (B j _ hf) (Ch.refl _ _ _)
  clear M
  obtain⟨a,ha⟩:∃a,IntKind.i64.wrap (z-x.f)=a:=⟨_,rfl⟩
  have E:¬(0<=a/\a<(x.R.length:Int)):=by rw[<-ha];exact E
  obtain⟨len,Y⟩:∃len,x.R.length=len:=⟨_,rfl⟩
  obtain⟨xf,h1⟩:∃xf,x.f=xf:=⟨_,rfl⟩
  rw[Y]at E c4;rw[h1]at ha c3;generalize (c.mo 0).k=k0 at *;generalize (c.mo 0).o=o0 at *;generalize fFl.f (Jas x z j)=y at *;clear B V hz J Z r4 hn hf h3 Y h1 hR ok
  by_cases h0:a<0
  .have u1:decide (a>=(0:Int))=false:=by simp;omega
   have u2:decide ((0:Int)<=a)=false:=by simp;omega
   go_enter Tryz.func163,Tryz.ntmps163
   go_wp2_with fail
   go_returns;exact⟨rfl,P.out⟩
  .have u1:decide (a>=(0:Int))=true:=by simp;omega
   have u2:decide ((0:Int)<=a)=true:=by simp;omega
   have u3:decide (a<(len:Int))=false:=by simp;omega
   go_enter Tryz.func163,Tryz.ntmps163
   go_wp2_with fail
   go_returns;exact⟨rfl,P.out⟩
end V
end Go.Proofs.YtnhbcdnmfafbiaaGreatDoor
set_option maxRecDepth 100000
namespace Go.Proofs.YtnhbcdnmfafbiaaGreatDoor
namespace V
open Go.Proofs Go.RowKit
def gOn (n:Int):Bool:=decide (n≠17/\n≠31/\n≠32/\n≠33)
theorem jhb {a b:Bool}(h:a=b):Ending.returned (.bool a)= .returned (.bool b):=by rw[h]
theorem Jg7 (n:Int) (w:World):Calls Tryz.prog 161 #[.int .i64 n] w fun e w'=>e= .returned (.bool (gOn n))/\w'=w:=by
 obtain⟨R,hR⟩:∃R,gOn n=R:=⟨_,rfl⟩
 rw[hR];have B:=Lib.hid hR;clear hR
 go_enter Tryz.func161,Tryz.ntmps161
 go_wp2
 all_goals
  go_ret;refine⟨jhb ?_,rfl⟩;rw[<-B.out,Bool.eq_iff_iff];simp[gOn];omega
noncomputable def lvJ (x:Fl) (l:Lu) (j:Nat):Fl:=if l.o=17\/l.o=18 then Jas x l.x j else x
noncomputable def lvF (x:Fl) (line:Int) (l:Lu) (j:Nat):Fl:=if gOn l.o=true then Jas (lvJ x l j) (wr (line+1)) j else lvJ x l j
theorem JgC (x:Fl) (B:Int) (l:Lu) (j:Nat):FlS x (lvF x B l j):=by
 have h:FlS x (lvJ x l j):=by
  unfold lvJ
  split
  .exact JbX _ _ _
  .exact FlS.refl x
 unfold lvF
 split
 .exact h.trans (JbX _ _ _)
 .exact h
def JaX (line:Int) (l:Lu) (j:Nat):List (Nat × Av):=[(0,.pa ⟨0,0,[]⟩),(1,.c (I line)),(2,.ag (fU.f l)),(3,.pa ⟨0,4,[(18,j,0)]⟩)]
structure LvS (c:Cf) (line:Int) (l:Lu) (j n0:Nat) (ob:Obj) (W:World) (y:Fl):Prop where
 ex:∃mo fp,Ok T ⟨W,c.A,⟨JaX line l j,[(0,⟨0,fFl.f y⟩)]⟩,mo,fp,c.a,[]⟩/\Stp T c ⟨W,c.A,⟨JaX line l j,[(0,⟨0,fFl.f y⟩)]⟩,mo,fp,c.a,[]⟩/\(mo 0).k=(c.mo 0).k/\(mo 0).o=(c.mo 0).o/\(¬Ow T ⟨W,c.A,⟨JaX line l j,[(0,⟨0,fFl.f y⟩)]⟩,mo,fp,c.a,[]⟩ n0)
 nb:W.heap[n0]? =some ob
 R:Rw fLd pUu y.R
 n:j<y.R.length
theorem JbE {w:World}{k:Nat}{o:Obj}(h:w.heap[k]? =some o):k<w.heap.size:=(Array.getElem?_eq_some_iff.1 h).1
theorem JgB {c:Cf}{B:Int}{l:Lu}{j n0 G q2:Nat}{J:Obj}{W:World}{y:Fl}(h:LvS c B l j n0 J W y) (P:c.a 3= .pointer (some ⟨G,q2,none⟩)) (z:Int) :
 Calls Tryz.prog 163 #[.pointer (some ⟨(c.mo 0).k,(c.mo 0).o,none⟩),.int .i64 z,.pointer (some ⟨G,q2,none⟩)] W fun r w'=>r= .returned (.tuple #[])/\LvS c B l j n0 J w' (Jas y z j):=by
 obtain⟨mo,fp,ok,st,M,O,no⟩:=h.ex;have Z:=ok.sx.sr.tms 3;obtain⟨g',q',Y,a2⟩:∃g a,(∀w',Agr (fp 0) W w'->ad w' (mo 0) 4 [(18,j,0)]=some (g,a))/\c.a 3= .pointer (some ⟨g,a,none⟩):=Z;rw[P]at a2;cases a2;have V:=Jh4 ok (x:=y) rfl h.R h.n (Y W (jJQ _ _)) z;rw[show(Cf.mo ⟨W,c.A,⟨JaX B l j,[(0,⟨0,fFl.f y⟩)]⟩,mo,fp,c.a,[]⟩ 0).k=(c.mo 0).k from M,show(Cf.mo ⟨W,c.A,⟨JaX B l j,[(0,⟨0,fFl.f y⟩)]⟩,mo,fp,c.a,[]⟩ 0).o=(c.mo 0).o from O]at V;refine V.mono ?_;rintro r w' ⟨rfl,mo',fp',k1,E⟩;refine⟨rfl,⟨⟨mo',fp',k1,st.trans E,?_,?_,fun hO=>?_⟩,?_,(JbX y z j).R h.R,by rw[(JbX y z j).n];exact h.n⟩⟩
 .obtain⟨R',_,_,_,b⟩:=E.pr 0 ⟨0,fFl.f y⟩ rfl rfl
  have b:base (mo' 0)=base (mo 0):=b;simp only[base,Prod.mk.injEq]at b;exact b.1.trans M
 .obtain⟨R',_,_,_,b⟩:=E.pr 0 ⟨0,fFl.f y⟩ rfl rfl
  have b:base (mo' 0)=base (mo 0):=b;simp only[base,Prod.mk.injEq]at b;exact b.2.1.trans O
 .rcases E.ow n0 hO with q|q
  .exact no q
  .exact absurd (JbE h.nb) (Nat.not_lt.2 q)
 .exact(E.kp n0 (JbE h.nb) no).trans h.nb
theorem wr64 (n:Int):wrap64 n=wr n:=by
 show _=IntKind.i64.wrap n;rw[IntKind.wrap_i64];unfold wrap64;rfl
theorem cell0 {w:World}{n:Nat}{a b c d e:Value}{ty:TypeId}{fz:Nat × Nat}(h:w.heap[n]? =some (.cells #[a,b,c,d,e] ty fz)):w.cell? ⟨n,0,none⟩=some a:=(cell_of h 0).trans rfl
theorem JgN {S:Obj->World->Fl->Prop}{ar:Fl->Int->Fl}{w:World}{x:Fl}{k0 o0 g2 q2:Nat}{lo lr lx ly p P:Int}(Z:Hid (∀ob,S ob (w.alloc ob) x)) (V:Hid (∀(W:World) (ob:Obj) (y:Fl) (z:Int),S ob W y->Calls Tryz.prog 163 #[.pointer (some ⟨k0,o0,none⟩),.int .i64 z,.pointer (some ⟨g2,q2,none⟩)] W fun r w'=>r= .returned (.tuple #[])/\S ob w' (ar y z))) (HN:Hid (∀ob W y,S ob W y->W.heap[w.heap.size]? =some ob)) :
 Calls Tryz.prog 167 #[.pointer (some ⟨k0,o0,none⟩),.int .i64 P,.agg #[.int .i64 lo,.int .i64 lr,.int .i64 lx,.int .i64 ly,.int .i64 p],.pointer (some ⟨g2,q2,none⟩)] w fun r w'=>r= .returned (.tuple #[])/\∃ob,S ob w' (let y:=if lo=17\/lo=18 then ar x lx else x;if gOn lo=true then ar y (wr (P+1)) else y):=by
 have Y:=Lib.hid (Jg7 lo)
 obtain⟨go,h1⟩:∃go,gOn lo=go:=⟨_,rfl⟩
 rw[h1]at Y ⊢;clear h1
 by_cases B:lo=17\/lo=18
 .rw[if_pos B]
  cases go with
  |true=>
   rw[if_pos rfl];rcases B with rfl|rfl
   all_goals
    go_enter Tryz.func167,Tryz.ntmps167
    go_wp2_with (first
     |(go_at_call 163;refine(V.out _ _ _ _ J).mono ?_;rintro _ w2 ⟨rfl,M⟩)
     |(go_at_call 163;refine(V.out _ _ x _ (Z.out _)).mono ?_;rintro _ w1 ⟨rfl,J⟩;have O:=HN.out _ _ _ J;have c0:=cell0 O;have h3:=JbE O;clear O)
     |(go_at_call 161;refine(Y.out _).mono ?_;rintro _ w3 ⟨rfl,E⟩;have G:=E.symm;subst G))
    go_returns;exact⟨rfl,_,by rw[wr64]at M;exact M⟩
  |false=>
   rw[if_neg (by simp)];rcases B with rfl|rfl
   all_goals
    go_enter Tryz.func167,Tryz.ntmps167
    go_wp2_with (first
     |(go_at_call 163;refine(V.out _ _ _ _ J).mono ?_;rintro _ w2 ⟨rfl,M⟩)
     |(go_at_call 163;refine(V.out _ _ x _ (Z.out _)).mono ?_;rintro _ w1 ⟨rfl,J⟩;have O:=HN.out _ _ _ J;have c0:=cell0 O;have h3:=JbE O;clear O)
     |(go_at_call 161;refine(Y.out _).mono ?_;rintro _ w3 ⟨rfl,E⟩;have G:=E.symm;subst G))
    go_returns;exact⟨rfl,_,J⟩
 .rw[if_neg B]
  have h4:(lo == 17)=false:=by simp at B ⊢;omega
  have h5:(lo == 18)=false:=by simp at B ⊢;omega
  clear B
  cases go with
  |true=>
   rw[if_pos rfl]
   go_enter Tryz.func167,Tryz.ntmps167
   go_wp2_with (first
    |(go_at_call 163;refine(V.out _ _ x _ (Z.out _)).mono ?_;rintro _ w2 ⟨rfl,M⟩)
    |(go_at_call 161;refine(Y.out _).mono ?_;rintro _ w3 ⟨rfl,E⟩;have G:=E.symm;subst G))
   go_returns;exact⟨rfl,_,by rw[wr64]at M;exact M⟩
  |false=>
   rw[if_neg (by simp)]
   go_enter Tryz.func167,Tryz.ntmps167
   go_wp2_with (go_at_call 161;refine(Y.out _).mono ?_;rintro _ w3 ⟨rfl,E⟩;have G:=E.symm;subst G)
   go_returns;exact⟨rfl,_,Z.out _⟩
theorem Jhc:jRb Tryz.prog 167:=⟨⟨_,Tryz.func167,by kernel_rfl,by kernel_rfl⟩⟩
theorem LvS.exit {c:Cf}{B:Int}{l:Lu}{j n0:Nat}{E:Obj}{W:World}{x y:Fl}(h:LvS c B l j n0 E W y):∃c' v,Ending.returned (.tuple #[])= .returned v/\c'.w=W/\Ok T c'/\Stp T c c'/\c'.st=jKl [.bp (fFl.f x),pI B,.pl (.ag (fU.f l)),.pl (.pa ⟨0,4,[(18,j,0)]⟩)] [] [fFl.f y]/\c'.X=[]/\c'.a RK=v:=by
 obtain⟨mo,fp,ok,st,_,_,_⟩:=h.ex;refine⟨⟨W,c.A,⟨[(RK,.tp [])],[(0,⟨0,fFl.f y⟩)]⟩,mo,fp,fun t=>if t=RK then .tuple #[] else c.a t,[]⟩,.tuple #[],rfl,rfl,⟨⟨⟨ok.sx.sr.rts,ok.sx.sr.nd,ok.sx.sr.fa,ok.sx.sr.dj,fun t=>?_,ok.sx.sr.nf,ok.sx.sr.gl⟩,ok.sx.nd,ok.sx.na,ok.sx.dj,ok.sx.lt⟩,ok.al⟩,?_,rfl,rfl,by simp only[if_true]⟩
 .show TV W c.A mo fp (if RK=t then .tp [] else .u) (if t=RK then .tuple #[] else c.a t)
  by_cases e:t=RK
  .rw[if_pos e.symm,if_pos e]
   exact⟨#[],rfl,rfl,fun j x u h=>by cases h⟩
  .rw[if_neg (fun q=>e q.symm)]
   trivial
 .exact st.trans (Stp.tmp rfl)
theorem JgO {x:Fl}(P:Rw fLd pUu x.R) (l:Lu) (B:Int) {j:Nat}(hj:j<x.R.length):Does T 167 [.bp (fFl.f x),pI B,.pl (.ag (fU.f l)),.pl (.pa ⟨0,4,[(18,j,0)]⟩)] [] [fFl.f (lvF x B l j)]:=by
 refine⟨Jhc,fun c ok hst hX hu=>?_⟩;have M:c.st=⟨JaX B l j,[(0,⟨0,fFl.f x⟩)]⟩:=hst;have t0:=ok.sx.sr.tms 0;have O:=ok.sx.sr.tms 1;have t2:=ok.sx.sr.tms 2;have t3:=ok.sx.sr.tms 3;rw[M]at t0 O t2 t3;obtain⟨k,o,h0,e0⟩:∃g a,(∀w',Agr (c.fp 0) c.w w'->ad w' (c.mo 0) 0 []=some (g,a))/\c.a 0= .pointer (some ⟨g,a,none⟩):=t0;have h0:some ((c.mo 0).k,(c.mo 0).o+0)=some (k,o):=h0 c.w fun _ _=>rfl;simp only[Nat.add_zero,Option.some.injEq,Prod.mk.injEq]at h0;rw[<-h0.1,<-h0.2]at e0;have O:RC c.w c.A (.i .i64 B) (c.a 1) []:=O
 have e1:c.a 1= .int .i64 B:=by
  generalize c.a 1=v at O;cases O;rfl
 obtain⟨p,e2⟩:∃p:Int,c.a 2= .agg #[.int .i64 l.o,.int .i64 l.r,.int .i64 l.x,.int .i64 l.y,.int .i64 p]:=by
  obtain⟨ar,q,Y⟩:∃ar:Array Value,c.a 2= .agg ar/\RL c.w c.A [I l.o,I l.r,I l.x,I l.y,.ui] ar.toList []:=t2;rw[q]
  have:∃p:Int,ar.toList=[.int .i64 l.o,.int .i64 l.r,.int .i64 l.x,.int .i64 l.y,.int .i64 p]:=by
   generalize ar.toList=us at Y;generalize ([]:List Nat)=G at Y
   cases Y with
   |cons r1 r2=>cases r2 with
    |cons r2 r3=>cases r3 with
     |cons r3 r4=>cases r4 with
      |cons r4 r5=>cases r5 with
       |cons r5 r6=>
        cases r6;cases r1;cases r2;cases r3;cases r4;cases r5;exact⟨_,rfl⟩
  obtain⟨p,hp⟩:=this;exact⟨p,by rw[<-Array.toList_inj.1 (hp.trans (by rfl:_=(#[Value.int .i64 l.o,.int .i64 l.r,.int .i64 l.x,.int .i64 l.y,.int .i64 p]:Array Value).toList))]⟩
 obtain⟨g2,q2,_,Z⟩:∃g a,(∀w',Agr (c.fp 0) c.w w'->ad w' (c.mo 0) 4 [(18,j,0)]=some (g,a))/\c.a 3= .pointer (some ⟨g,a,none⟩):=t3
 have ea:((List.range [Arg.bp (fFl.f x),pI B,.pl (.ag (fU.f l)),.pl (.pa ⟨0,4,[(18,j,0)]⟩)].length).map c.a)=[.pointer (some ⟨(c.mo 0).k,(c.mo 0).o,none⟩),.int .i64 B,.agg #[.int .i64 l.o,.int .i64 l.r,.int .i64 l.x,.int .i64 l.y,.int .i64 p],.pointer (some ⟨g2,q2,none⟩)]:=by
  show[c.a 0,c.a 1,c.a 2,c.a 3]=_;rw[e0,e1,e2,Z]
 rw[ea];have CA:Hid (∀(W:World) (E:Obj) (y:Fl) (z:Int),LvS c B l j c.w.heap.size E W y->Calls Tryz.prog 163 #[.pointer (some ⟨(c.mo 0).k,(c.mo 0).o,none⟩),.int .i64 z,.pointer (some ⟨g2,q2,none⟩)] W fun r w'=>r= .returned (.tuple #[])/\LvS c B l j c.w.heap.size E w' (Jas y z j)):=fun W E y z h=>JgB h Z z
 have H0:Hid (∀E:Obj,LvS c B l j c.w.heap.size E (c.w.alloc E) x):=fun E=>by
  have V:Below c.w.heap.size c.w (c.w.alloc E):=(Below.refl _ _).alloc (Nat.le_refl _) _;obtain⟨k1,k2⟩:=ok.world (w':=c.w.alloc E) (A':=c.A) (X':=[]) (fun k hk _=>V.block k hk) (V.mono (Nat.zero_le _)) (fun _ h=>h) (fun k hk=>⟨.inl hk,Nat.lt_of_lt_of_le (ok.al k hk) V.size⟩) List.nodup_nil (fun g J=>by cases J);have es:({c with w:=c.w.alloc E,A:=c.A,X:=[]}:Cf)=⟨c.w.alloc E,c.A,⟨JaX B l j,[(0,⟨0,fFl.f x⟩)]⟩,c.mo,c.fp,c.a,[]⟩:=by rw[<-M]
  rw[es]at k1 k2;refine⟨⟨c.mo,c.fp,k1,k2,rfl,rfl,fun hO=>?_⟩,jUj c.w E,P,hj⟩;rcases hO with⟨r,R,_,_,J⟩|J
  .exact absurd (jKa ok.sx.sr J) (Nat.lt_irrefl _)
  .cases J
 have HN:Hid (∀E W y,LvS c B l j c.w.heap.size E W y->W.heap[c.w.heap.size]? =some E):=fun E W y h=>h.nb;refine(JgN (S:=fun E W y=>LvS c B l j c.w.heap.size E W y) (ar:=fun y z=>Jas y z j) H0 CA HN).mono ?_;rintro r w' ⟨rfl,E,h⟩;exact LvS.exit h
end V
end Go.Proofs.YtnhbcdnmfafbiaaGreatDoor
set_option maxRecDepth 100000
namespace Go.Proofs.YtnhbcdnmfafbiaaGreatDoor
namespace V
open Go.Proofs
structure LvP (x:Fl) (j:Nat):Prop where
 r:Rw fLd pUu x.R
 j:j<x.R.length
noncomputable def kLv (xs:List Arg):Option Ct:=match xs with
 |[.bp [.r false 4 F,.r false 1 K,.r false 5 L,.i .i64 f,.r true 18 R],.pl (.c (.i .i64 n)),.pl (.ag [.i .i64 o,.i .i64 r,.i .i64 y,.i .i64 z,.ui]),.pl (.pa ⟨0,4,[(18,j,0)]⟩)]=>some (mkc r0 (bS fFl) (fun _ y=>FlS ⟨F,K,L,f,R⟩ y) (LvP ⟨F,K,L,f,R⟩ j))
 |_=>none
theorem JgY (xs:List Arg) (k:Ct) (h:kLv xs=some k) (hp:k.pr):Tot T k 167 xs:=by
 unfold kLv at h
 split at h
 .rename_i F K L f R n o r y z j
  cases h;obtain⟨B,h2⟩:LvP ⟨F,K,L,f,R⟩ j:=hp;exact⟨((),lvF ⟨F,K,L,f,R⟩ n ⟨o,r,y,z⟩ j),JgC _ _ _ _,JgO (x:=⟨F,K,L,f,R⟩) B ⟨o,r,y,z⟩ n h2⟩
 .cases h
theorem FlS.ok {x y:Fl}(s:FlS x y) (h:JaM x):JaM y:=⟨by rw[s.F,s.K,s.L];exact h.c,s.R h.R,by rw[s.n];exact h.n,by rw[s.f];exact h.f⟩
noncomputable def ctFt:Cts:=ctp 167 kLv <|ctp 109 (kA (aC (aG fCd) <|aC aI aN) fun a=>mkc (rS fU) b0 (fun l _=>jKm l) (Rw fU jKm a.1.L)) <|ctp 165 (kA (aC (aQ fFl) <|aC (aG fU) <|aC (aQ fLd) aN) fun a=>mkc rB b0 pTt (FlP a.1 a.2.1)) <|ctp 166 (kA (aC (aP fLd) <|aC (aG fU) aN) fun a=>mkc r0 (bS fLd) pTt True) ct0
theorem JhP:Good T ctFt:=by
 unfold ctFt;refine jKu (Good.add (Good.add (Good.add jJV ?_) ?_) ?_) JgY
 .rintro a -;exact JfD _ _
 .rintro a ⟨h1,h2⟩;exact Jgy h1 h2 _
 .rintro a h;exact jZs h _
def ftT:Rl Av:=.cons 0 (tA 0) <| .cons 2 tI <| .cons 3 tI .nil
def ftR:Rl Rt:=.cons 0 (rX 0 fFl) .nil
structure FtI (x y:Fl) (i:Int):Prop where
 s:FlS x y
 i:0<=i/\i<=3000000000
def ftM (x:Fl) (i:Int):Nat:=(x.R.length-i).toNat
def ftH (x:Fl):Hy:=⟨JbL,[],[],[(2,.iv ftT ftR (fun q=>FtI x q.2.1 q.1.2.2.1) fun q=>ftM x q.1.2.2.1)]⟩
theorem Jhk {x:Fl}(h:JaM x):Tot T (mkc rI (bS fFl) pTt True) 125 [.bp (fFl.f x)]:=vF (ftH x) JhP Tryz.func125 (FtI x x 0/\∀(a:(Unit × Int × Int × Unit) × Fl × Unit),FtI x a.2.1 a.1.2.2.1->br (decide (a.1.2.2.1<↑a.2.1.R.length)) (0<=a.1.2.2.1/\Int.toNat a.1.2.2.1<a.2.1.R.length/\(∃(y:Ld),a.2.1.R[Int.toNat a.1.2.2.1]? =some (fLd.f y))/\∀(x_1:Ld),a.2.1.R[Int.toNat a.1.2.2.1]? =some (fLd.f x_1)->br (!x_1.r) (FtI x a.2.1 (wr (a.1.2.2.1+1))/\ftM x (wr (a.1.2.2.1+1))<ftM x a.1.2.2.1) ((∀(e:List C),e ∈ a.2.1.L->∃(y:Lu),e=fU.f y/\jKm y)/\∀(x_2:Lu × Unit),jKm x_2.1->(∃(y:Ld),a.2.1.R[Int.toNat a.1.2.2.1]? =some (fLd.f y))/\∀(x_3:Ld),a.2.1.R[Int.toNat a.1.2.2.1]? =some (fLd.f x_3)->FlP a.2.1 x_2.1/\∀(x_4:Bool × Unit),True->br (!x_4.1) True ((∃(y:Ld),a.2.1.R[Int.toNat a.1.2.2.1]? =some (fLd.f y))/\∀(x_5:Ld),a.2.1.R[Int.toNat a.1.2.2.1]? =some (fLd.f x_5)->True/\∀(x_6:Unit × Ld),True->(∃(y:Ld),a.2.1.R[Int.toNat a.1.2.2.1]? =some (fLd.f y))/\∀(x_7:Ld),a.2.1.R[Int.toNat a.1.2.2.1]? =some (fLd.f x_7)->LvP {F:=a.2.1.F,K:=a.2.1.K,L:=a.2.1.L,f:=a.2.1.f,R:=a.2.1.R.set (Int.toNat a.1.2.2.1) (ovl (fLd.f x_7) 0 (fLd.f x_6.2))} (Int.toNat a.1.2.2.1)/\∀(x_8:Unit × Fl),FlS {F:=a.2.1.F,K:=a.2.1.K,L:=a.2.1.L,f:=a.2.1.f,R:=a.2.1.R.set (Int.toNat a.1.2.2.1) (ovl (fLd.f x_7) 0 (fLd.f x_6.2))} x_8.2->FtI x x_8.2 (wr (a.1.2.2.1+1))/\ftM x (wr (a.1.2.2.1+1))<ftM x a.1.2.2.1))) True) (by kernel_rfl) (by
 refine⟨⟨FlS.refl x,by omega⟩,fun⟨⟨_,_,i,_⟩,y,_⟩ ⟨s,hi⟩=>?_⟩
 dsimp only at s hi ⊢
 refine⟨fun q=>?_,fun _=>trivial⟩;have q:=dt q;have hn:=h.n;have J:=s.n;have E:i.toNat<y.R.length:=by omega
 have hR:Rw fLd pUu y.R:=s.R h.R;have B:=hR.at E;have hy:JaM y:=s.ok h;have G:wr (i+1)=i+1:=jKX (by omega) (by omega);rw[G];have hm:ftM x (i+1)<ftM x i:=by unfold ftM;omega
 refine⟨hi.1,E,B,fun e he=>⟨fun _=>⟨⟨s,by omega⟩,hm⟩,fun _=>⟨hy.c.L,fun⟨l,_⟩ hl=>⟨B,fun e2 _=>⟨⟨hy,hl⟩,fun _ _=>⟨fun _=>trivial,fun _=>⟨B,fun e3 _=>⟨trivial,fun⟨_,e4⟩ _=>⟨B,fun e5 _=>?_⟩⟩⟩⟩⟩⟩⟩⟩⟩
 dsimp only
 rw[Jdr]
 have hs:FlS y ⟨y.F,y.K,y.L,y.f,y.R.set i.toNat (fLd.f e4)⟩:=⟨rfl,rfl,rfl,rfl,List.length_set,fun h=>Rw.set h _ trivial⟩
 exact⟨⟨hs.R hR,by rw[hs.n];exact E⟩,fun⟨_,z⟩ hz=>⟨⟨s.trans (hs.trans hz),by omega⟩,hm⟩⟩)
structure RdP (c:CdS):Prop where
 u:Jb1 c
 r:CfR c
def ctRd:Cts:=ctp 124 (kA (aC (aG fCd) <|aC aI aN) fun a=>mkc (rBo fFl) b0 (fun x _=>BgO a.1 x) (CfR a.1)) <|ctp 125 (kA (aC (aP fFl) aN) fun a=>mkc rI (bS fFl) pTt (JaM a.1)) ct0
theorem JhC:Good T ctRd:=by
 unfold ctRd;refine Good.add (Good.add jJV ?_) ?_
 .rintro a h;exact Jhk h
 .rintro a h;exact Jh2 h _
def rII:Pz (List Arg):=⟨Int × Int,fun x=>[pI x.1,pI x.2],fun l=>match l with
 |[.pl (.c (.i .i64 e)),.pl (.c (.i .i64 a))]=>some (e,a)
 |_=>none,fun b x e=>by split at e <;> cases e;rfl⟩
def qrT:Rl Av:=.cons 1 (tA 1) <| .cons 2 tI <| .cons 3 tI <| .cons 4 tI .nil
def qrR:Rl Rt:=.cons 1 (rX 1 fCd) .nil
structure QrI (c d:CdS) (i:Int):Prop where
 s:d=c
 i:0<=i/\i<=3000000000
def qrM (c:CdS) (i:Int):Nat:=(c.F.length-i).toNat
def qrH (c:CdS):Hy:=⟨JbL,[],[(5,[(5,3000005)])],[(2,.iv qrT qrR (fun q=>QrI c q.2.1 q.1.2.2.2.1) fun q=>qrM c q.1.2.2.2.1)]⟩
theorem JfG {c:CdS}(h:RdP c):Tot T (mkc rII b0 pTt True) 66 [.pl (.ag (fCd.f c))]:=vR (qrH c) JhC [] [false,false] Tryz.func66 (QrI c c 0/\∀(a:(Unit × Int × Int × Int × Unit) × CdS × Unit),QrI c a.2.1 a.1.2.2.2.1->br (decide (a.1.2.2.2.1<↑a.2.1.F.length)) (CfR a.2.1/\∀(x:Fl × Unit),BgO a.2.1 x.1->JaM x.1/\∀(x:Int × Fl),True->br (decide (x.1>=0)) True (QrI c a.2.1 (wr (a.1.2.2.2.1+1))/\qrM c (wr (a.1.2.2.2.1+1))<qrM c a.1.2.2.2.1)) True) (by kernel_rfl) (by
 refine⟨⟨rfl,by omega⟩,fun⟨⟨_,_,_,i,_⟩,d,_⟩ ⟨e,hi⟩=>?_⟩
 dsimp only at e hi ⊢
 subst e;have hn:=h.r.n;refine⟨fun q=>⟨h.r,fun⟨x,_⟩ hx=>⟨⟨?_,hx.R,hx.n,hx.f⟩,fun⟨y,_⟩ _=>⟨fun _=>trivial,fun _=>?_⟩⟩⟩,fun _=>trivial⟩
 .dsimp only at hx ⊢
  rw[hx.F,hx.K,hx.L];exact h.u
 .have q:=dt q
  rw[jKX (x:=i+1) (by omega) (by omega)]
  exact⟨⟨rfl,by omega⟩,by unfold qrM;omega⟩)
end V
end Go.Proofs.YtnhbcdnmfafbiaaGreatDoor
set_option maxRecDepth 100000
namespace Go.Proofs.YtnhbcdnmfafbiaaGreatDoor
namespace V
open Go.Proofs
structure Sp where
 (F K L:List (List C))
 (s n e:Int)
def fSp:Pz (List C):=⟨Sp,fun x=>[.r false 4 x.F,.r false 1 x.K,.r false 5 x.L,I x.s,I x.n,I x.e],fun l=>match l with
 |[.r false 4 F,.r false 1 K,.r false 5 L,.i .i64 s,.i .i64 n,.i .i64 e]=>some ⟨F,K,L,s,n,e⟩
 |_=>none,fun b x e=>by split at e <;> cases e;rfl⟩
theorem Jhg (s:Sp) (b n:Int):Tot T1 (mkc rB b0 pTt True) 162 [.pl (.ag (fSp.f s)),pU8 b,pI n]:=vF hy Jae Tryz.func162 (br (decide (b=114)) True (br (decide (b=115)) True (br (decide (b=107)) True (br (decide (b=102)) True (br (decide (b=108)) (br (decide (n >s.n)) True True) (br (decide (b=97)) True (br (decide (b=42)) True True))))))) (by kernel_rfl) (by
 repeat' first|exact trivial|rfl|(refine⟨?_,?_⟩)|intro _)
theorem Jhh (s:Sp) {b:Int}(h:b=42):Tot T1 (mkc rB b0 pTt True) 162 [.pl (.ag (fSp.f s)),pU8 b,.pl (.c .ui)]:=vF hy Jae Tryz.func162 (br (decide (b=114)) False (br (decide (b=115)) False (br (decide (b=107)) False (br (decide (b=102)) False (br (decide (b=108)) False (br (decide (b=97)) False (br (decide (b=42)) True False))))))) (by kernel_rfl) (by
 subst h
 exact⟨fun h=>(by cases h),fun _=>⟨fun h=>(by cases h),fun _=>⟨fun h=>(by cases h),fun _=>⟨fun h=>(by cases h),fun _=>⟨fun h=>(by cases h),fun _=>⟨fun h=>(by cases h),fun _=>⟨fun _=>trivial,fun h=>(by cases h)⟩⟩⟩⟩⟩⟩⟩)
structure LnU (c:CdS) (n:Int):Prop where
 e:∃l:Lu,0<=n/\n<c.L.length/\c.L[n.toNat]? =some (fU.f l)/\pop l.o=true
structure LnI (c:CdS) (n:Int):Prop where
 e:0<=n->n<c.L.length->∃l:Int × Int × Int × Int × Int,c.L[n.toNat]? =some (fL5.f l)
def hU5:Hx:=⟨fun _=>eS fU,false,fun _=>none,false,false⟩
def hI5:Hx:=⟨fun _=>eS fL5,false,fun _=>none,false,false⟩
structure PoU (l:Lu):Prop where
 p:pop l.o=true
theorem JgH {c:CdS}{n:Int}(h:LnU c n):Tot T1 (mkc (rS fU) b0 (fun l _=>PoU l) True) 109 [.pl (.ag (fCd.f c)),pI n]:=vF (⟨hU5,[],[],[]⟩) Jae Tryz.func109 (br (decide (n<0)) (true=true/\False) (br (decide (n>=↑c.L.length)) False (0<=n/\(∃(y:Lu),c.L[n.toNat]? =some (fU.f y))/\∀(x:Lu),c.L[n.toNat]? =some (fU.f x)->PoU x))) (by kernel_rfl) (by
 obtain⟨l,h0,E,h2,B⟩:=h.e
 exact⟨fun q=>absurd (dt q) (by omega),fun _=>⟨fun q=>absurd (dt q) (by omega),fun _=>⟨h0,⟨l,h2⟩,fun x hx=>⟨by rw[jYQ (Option.some.inj (hx.symm.trans h2))];exact B⟩⟩⟩⟩)
theorem JgI {c:CdS}{n:Int}(h:LnI c n):Tot T1 (mkc (rS fL5) b0 pTt True) 109 [.pl (.ag (fCd.f c)),pI n]:=vF (⟨hI5,[],[],[]⟩) Jae Tryz.func109 (br (decide (n<0)) (true=true/\True) (br (decide (n>=↑c.L.length)) True (0<=n/\(∃(y:Int × Int × Int × Int × Int),c.L[n.toNat]? =some (fL5.f y))/\∀(x:Int × Int × Int × Int × Int),c.L[n.toNat]? =some (fL5.f x)->True))) (by kernel_rfl) ⟨fun _=>⟨rfl,trivial⟩,fun q=>⟨fun _=>trivial,fun r=>⟨Int.not_lt.1 (df q),h.e (Int.not_lt.1 (df q)) (Int.not_le.1 (df r)),fun _ _=>trivial⟩⟩⟩
structure E42 (b:Int):Prop where
 e:b=42
def JbH (xs:List Arg):Option Ct:=match xs with
 |[.pl (.ag [.r false 4 _,.r false 1 _,.r false 5 _,.i .i64 _,.i .i64 _,.i .i64 _]),.pl (.c (.i .u8 _)),.pl (.c (.i .i64 _))]=>some (mkc rB b0 pTt True)
 |[.pl (.ag [.r false 4 _,.r false 1 _,.r false 5 _,.i .i64 _,.i .i64 _,.i .i64 _]),.pl (.c (.i .u8 b)),.pl (.c .ui)]=>some (mkc rB b0 pTt (E42 b))
 |_=>none
theorem JdM (xs:List Arg) (k:Ct) (h:JbH xs=some k) (hp:k.pr):Tot T1 k 162 xs:=by
 unfold JbH at h
 split at h
 .rename_i F K L s n e b m
  cases h;exact Jhg ⟨F,K,L,s,n,e⟩ b m
 .rename_i F K L s n e b
  cases h;exact Jhh ⟨F,K,L,s,n,e⟩ (b:=b) (E42.e hp)
 .cases h
theorem JdZ (n:Int):Tot T1 (mkc rB b0 pTt True) 161 [pI n]:=(Jg8 n).vr rfl rfl fun _=>rfl
end V
end Go.Proofs.YtnhbcdnmfafbiaaGreatDoor
