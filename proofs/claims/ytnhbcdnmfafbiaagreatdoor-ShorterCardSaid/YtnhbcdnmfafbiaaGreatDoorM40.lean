import Derived.Test.YtnhbcdnmfafbiaaGreatDoorM36
import Derived.Test.YtnhbcdnmfafbiaaGreatDoorM39
set_option linter.unusedVariables false
set_option linter.unusedSimpArgs false
set_option maxHeartbeats 20000000
set_option maxRecDepth 100000
namespace Go.Proofs.YtnhbcdnmfafbiaaGreatDoor
namespace V
open Go.Proofs
structure Rr where
 (x:ByteArray)
 (a:Int)
 (F K L:List (List C))
def fRr:Pz (List C):=⟨Rr,fun r=>[.s r.x,I r.a,.r true 4 r.F,.r true 1 r.K,.r true 5 r.L],fun l=>match l with
 |[.s x,.i .i64 a,.r true 4 F,.r true 1 K,.r true 5 L]=>some ⟨x,a,F,K,L⟩
 |_=>none,fun b x e=>by split at e <;> cases e;rfl⟩
def pRr (r:Rr):Arg:=.bp (fRr.f r)
def bRr:Pz (List (List C)):=bS fRr
def hRr:Hx:=⟨fun z=>cond (Nat.beq z 4) (eS fCF) eI,false,fun _=>none,false,false⟩
def hRy:Hy:=⟨hRr,[],[],[]⟩
structure FnR (F:List (List C)) (n:Int) (f:CfS):Prop where
 e:0<=n->n<F.length->F[n.toNat]? =some (fCF.f f)
theorem jZv {c:CdS}(h:Rw fCF Tt c.F) (n:Int):Tot T (mkc (rS fCF) b0 (fun f _=>FnR c.F n f) True) 108 [.pl (.ag (fCd.f c)),pI n]:=vF hRy jJV Tryz.func108 (br (decide (n<0)) (true=true/\FnR c.F n {a:=0,b:=0,c:=0,d:=0}) (br (decide (n>=↑c.F.length)) (FnR c.F n {a:=0,b:=0,c:=0,d:=0}) (0<=n/\(∃(y:CfS),c.F[n.toNat]? =some (fCF.f y))/\∀(x:CfS),c.F[n.toNat]? =some (fCF.f x)->FnR c.F n x))) (by kernel_rfl) (by
 refine⟨fun h0=>⟨rfl,⟨fun B _=>by have:=dt h0;omega⟩⟩,fun h0=>⟨fun B=>⟨fun _ h2=>by have:=dt B;omega⟩,fun B=>?_⟩⟩;have h0:=df h0;have B:=df B
 exact⟨by omega,h.ati n (by omega) (by omega),fun x hx=>⟨fun _ _=>hx⟩⟩)
def aBs:Pz Arg:=⟨ByteArray,fun s=>.pl (.c (.s s)),fun x=>match x with
 | .pl (.c (.s s))=>some s
 |_=>none,fun b x e=>by split at e <;> cases e;rfl⟩
def jOr:Cts:=ctp 62 (kA (aC aBs <|aC aI <|aC aI aN) fun a=>cNm a.1 a.2.1 a.2.2.1 (NmP a.2.1 a.2.2.1)) <|ctp 121 (kA (aC aI aN) fun a=>mkc rI b0 (fun k _=>WvR a.1 k) True) ct0
theorem jQt:Good T jOr:=by
 unfold jOr;refine Good.add (Good.add jJV ?_) ?_
 .rintro a -;exact jVD _
 .rintro a h;exact jVP _ h
def mlB:ByteArray:=⟨#[109,108]⟩
structure whole (x:ByteArray):Prop where
 a:8<=x.size
 b:x.extract 0 2=mlB
 c:0<nv x 2 2
 d:(x.size:Int)=8+nv x 2 2*6+nv x 4 2*8+nv x 6 2*8
structure jLN (x:ByteArray) (b:Bool):Prop where
 e:b=true↔whole x
theorem jX8 (x:ByteArray) (h:x.size<=1000000):Tot T (mkc rB b0 (fun b _=>jLN x b) True) 60 [.pl (.c (.s x))]:=vF hRy jQt Tryz.func60 (br (decide ((x.size:Int)<8)) (true=true/\jLN x false) ((0:Int)<=2/\(0<=2/\2<=x.size)/\br (decide (x.extract 0 (Int.toNat 2)≠{data:=#[(109:UInt8),(108:UInt8)]})) (jLN x false) (NmP 2 2/\∀(x_1:Int × Unit),NbR x 2 2 x_1.1->NmP 4 2/\∀(x_2:Int × Unit),NbR x 4 2 x_2.1->NmP 6 2/\∀(x_3:Int × Unit),NbR x 6 2 x_3.1->br (decide (x_1.1 >0)) (jLN x (decide ((x.size:Int)=wr (wr (wr (8+wr (x_1.1*6))+wr (x_2.1*8))+wr (x_3.1*8))))) (jLN x false)))) (by kernel_rfl) (by
 have no:¬whole x->jLN x false:=fun h=>⟨⟨fun e=>(by cases e),fun e=>absurd e h⟩⟩
 refine⟨fun h0=>⟨rfl,no fun w=>by have:=dt h0;have:=w.a;omega⟩,fun h0=>?_⟩;have h0:=df h0;refine⟨by omega,⟨by omega,by omega⟩,fun B=>no fun w=>dt B w.b,fun B=>?_⟩;have B:x.extract 0 2=mlB:=Decidable.not_not.1 (df B);refine⟨⟨⟨by omega,by omega⟩,by omega,by omega⟩,fun⟨f,_⟩ ⟨hf⟩=>⟨⟨⟨by omega,by omega⟩,by omega,by omega⟩,fun⟨k,_⟩ ⟨hk⟩=>⟨⟨⟨by omega,by omega⟩,by omega,by omega⟩,fun⟨l,_⟩ ⟨hl⟩=>?_⟩⟩⟩;have hf:f=nv x 2 2:=hf;have hk:k=nv x 4 2:=hk;have hl:l=nv x 6 2:=hl
 dsimp only
 subst hf hk hl;have G:=nv2 x 2;have J:=nv2 x 4;have M:=nv2 x 6
 have E:wr (wr (wr (8+wr (nv x 2 2*6))+wr (nv x 4 2*8))+wr (nv x 6 2*8))=8+nv x 2 2*6+nv x 4 2*8+nv x 6 2*8:=by
  unfold wr;simp only[IntKind.wrap_i64];omega
 rw[E]
 refine⟨fun h2=>⟨⟨fun e=>⟨by omega,B,dt h2,dt e⟩,fun w=>decide_eq_true w.d⟩⟩,fun h2=>no fun w=>df h2 w.c⟩)
def jP4 (xs:List Arg):Option Ct:=match xs with
 |[.rv [.r true 4 F,.r true 1 [],.r true 5 []] false,.pl (.c (.i .i64 n))]=>some (mkc (rS fCF) b0 (fun f _=>FnR F n f) (Rw fCF Tt F))
 |_=>none
theorem jX2 (xs:List Arg) (k:Ct) (h:jP4 xs=some k) (hp:k.pr):Tot T k 108 xs:=by
 unfold jP4 at h
 split at h
 .rename_i F n
  cases h;have hp:Rw fCF Tt F:=hp;obtain⟨⟨x,_⟩,E,h2⟩:=jZv (c:=⟨F,[],[]⟩) hp n;refine⟨(x,()),E,?_⟩
  have:=Does.lend (l:=[.r true 4 F,.r true 1 [],.r true 5 []]) (ns:=[n]) h2 (fun c B=>by
   rcases List.mem_cons.1 B with rfl|B
   .exact hp.plx fun _=>rfl
   .rcases List.mem_cons.1 B with rfl|B
    .rfl
    .rw[List.mem_singleton.1 B];rfl)
  exact this
 .cases h
def ctRf:Cts:=ctp 108 jP4 jOr
theorem jTS:Good T ctRf:=jKu jQt jX2
structure jQa (F:List (List C)) (f:CfS):Prop where
 b:f.b<=4
 c:f.c<=1
 d:f.d<=1024
 z:F.length=0->f.a=0/\f.b=0/\f.c=0
 p:∀g,F[F.length-1]? =some (fCF.f g)->g.a<f.a
structure FwR (F:List (List C)) (f:CfS) (b:Bool):Prop where
 e:b=true↔jQa F f
theorem jYE {x:ByteArray}{a:Int}{F:List (List C)}{f:CfS}(h:Rw fCF Tt F) (hl:F.length<=1000000):Tot T (mkc rB b0 (fun b _=>FwR F f b) True) 120 [.br (fRr.f ⟨x,a,F,[],[]⟩),.pl (.ag (fCF.f f))]:=vF hRy jTS Tryz.func120 (br (decide (f.b >4)) (true=true/\FwR F f false) (br (decide (f.c >1)) (true=true/\FwR F f false) (br (decide (f.d >1024)) (FwR F f false) (br (decide ((F.length:Int)=0)) (br (decide (f.a=0)) (br (decide (f.b=0)) (FwR F f (decide (f.c=0))) (FwR F f false)) (FwR F f false)) ((∀(e:List C),e ∈ F->∃(y:CfS),e=fCF.f y/\True)/\∀(x:CfS × Unit),FnR F (wr (↑F.length-1)) x.1->FwR F f (decide (f.a >x.1.a))))))) (by kernel_rfl) (by
 have no:¬jQa F f->FwR F f false:=fun h=>⟨⟨fun e=>(by cases e),fun e=>absurd e h⟩⟩
 refine⟨fun E=>⟨rfl,no fun w=>by have:=dt E;have:=w.b;omega⟩,fun E=>⟨fun h2=>⟨rfl,no fun w=>by have:=dt h2;have:=w.c;omega⟩,fun h2=>⟨fun G=>no fun w=>by have:=dt G;have:=w.d;omega,fun G=>?_⟩⟩⟩;have E:=df E;have h2:=df h2;have G:=df G;refine⟨fun h4=>?_,fun h4=>?_⟩
 .have h4:=dt h4
  have hF:F.length=0:=by omega
  refine⟨fun h5=>⟨fun h6=>⟨⟨fun e=>⟨by omega,by omega,by omega,fun _=>⟨dt h5,dt h6,dt e⟩,fun g B=>?_⟩,fun w=>decide_eq_true (w.z hF).2.2⟩⟩,fun h6=>no fun w=>df h6 (w.z hF).2.1⟩,fun h5=>no fun w=>df h5 (w.z hF).1⟩;rw[List.getElem?_eq_none (by omega)]at B;cases B
 .have h4:=df h4
  have J:wr ((F.length:Int)-1)=(F.length:Int)-1:=by unfold wr;rw[IntKind.wrap_i64];omega
  rw[J];refine⟨h,fun⟨g,_⟩ ⟨B⟩=>?_⟩;have B:F[((F.length:Int)-1).toNat]? =some (fCF.f g):=B (by omega) (by omega);rw[show((F.length:Int)-1).toNat=F.length-1 by omega]at B;refine⟨⟨fun e=>⟨by omega,by omega,by omega,fun h=>by omega,fun g' hg'=>?_⟩,fun w=>decide_eq_true (w.p g B)⟩⟩;rw[B]at hg';have:=jTF (Option.some.inj hg');subst this
  exact dt e)
end V
end Go.Proofs.YtnhbcdnmfafbiaaGreatDoor
set_option maxRecDepth 100000
namespace Go.Proofs.YtnhbcdnmfafbiaaGreatDoor
namespace V
open Go.Proofs
def rwF (x:ByteArray) (p:Nat):CfS:=⟨nv x p 2,nv x (p+2) 1,nv x (p+3) 1,nv x (p+4) 2⟩
def jKB (x:ByteArray) (p n:Nat):List (List C):=(List.range n).map fun j=>fCF.f (rwF x (p+6*j))
theorem jRU (x:ByteArray) (p n:Nat):(jKB x p n).length=n:=by unfold jKB;rw[List.length_map,List.length_range]
theorem jVC (x:ByteArray) (p n:Nat):jKB x p (n+1)=jKB x p n ++[fCF.f (rwF x (p+6*n))]:=by
 unfold jKB;rw[List.range_succ,List.map_append];rfl
theorem jRT (x:ByteArray) (p n:Nat):Rw fCF Tt (jKB x p n):=fun e he=>by
 obtain⟨j,_,rfl⟩:=List.mem_map.1 he;exact⟨_,rfl,trivial⟩
structure jNP (x:ByteArray) (p:Nat) (l:Int) (j:Nat):Prop where
 f:jQa (jKB x p j) (rwF x (p+6*j))
 l:(rwF x (p+6*j)).a<l
structure jMe (x:ByteArray) (p n:Nat) (l:Int) (b:Bool) (r:Rr):Prop where
 y:b=true->r=⟨x,p+6*n,jKB x p n,[],[]⟩/\∀j,j<n->jNP x p l j
 z:b=false->∃j,j<n/\¬jNP x p l j
structure RwI (x:ByteArray) (p n:Nat) (l:Int) (r:Rr) (n' l' i:Int):Prop where
 q1:n'=n/\l'=l
 q2:Ix n i
 q3:r=⟨x,p+6*i.toNat,jKB x p i.toNat,[],[]⟩
 q4:∀j,j<i.toNat->jNP x p l j
def rwT:Rl Av:=.cons 0 (tA 0) <| .cons 1 tI <| .cons 2 tI <| .cons 7 tI .nil
def jO3:Rl Rt:=.cons 0 (rX 0 fRr) .nil
def rwH (x:ByteArray) (p n:Nat) (l:Int):Hy:=⟨hRr,[],[],[(2,.iv rwT jO3 (fun q=>RwI x p n l q.2.1 q.1.2.1 q.1.2.2.1 q.1.2.2.2.1) fun q=>ixM n q.1.2.2.2.1)]⟩
def cFw (F:List (List C)) (f:CfS) (p:Prop):Ct:=mkc rB b0 (fun b _=>FwR F f b) p
structure FwP (r:Rr):Prop where
 k:r.K=[]/\r.L=[]
 f:Rw fCF Tt r.F
 l:r.F.length<=1000000
def ctRg:Cts:=ctp 120 (kA (aC (aQ fRr) <|aC (aG fCF) aN) fun a=>cFw a.1.F a.2.1 (FwP a.1)) ctRf
theorem jQu:Good T ctRg:=by
 unfold ctRg;refine Good.add jTS ?_;rintro ⟨⟨x,a,F,K,L⟩,f,_⟩ ⟨⟨B,h2⟩,E,G⟩
 dsimp only at B h2
 subst B h2;exact jYE E G
theorem jVL (x:ByteArray) {p n:Nat}(l:Int) (hp:p<=1000) (hn:n<=100000):Tot T (mkc rB bRr (fun b r=>jMe x p n l b r) True) 61 [pRr ⟨x,p,[],[],[]⟩,pI n,pI l]:=vF (rwH x p n l) jQu Tryz.func61 (RwI x p n l {x:=x,a:=↑p,F:=[],K:=[],L:=[]} (↑n) l 0/\∀(a:(Unit × Int × Int × Int × Unit) × Rr × Unit),RwI x p n l a.2.1 a.1.2.1 a.1.2.2.1 a.1.2.2.2.1->br (decide (a.1.2.2.2.1<a.1.2.1)) (NmP a.2.1.a 2/\∀(x_1:Int × Unit),NbR a.2.1.x a.2.1.a 2 x_1.1->NmP (wr (a.2.1.a+2)) 1/\∀(x_2:Int × Unit),NbR a.2.1.x (wr (a.2.1.a+2)) 1 x_2.1->NmP (wr (a.2.1.a+3)) 1/\∀(x_3:Int × Unit),NbR a.2.1.x (wr (a.2.1.a+3)) 1 x_3.1->NmP (wr (a.2.1.a+4)) 2/\∀(x_4:Int × Unit),NbR a.2.1.x (wr (a.2.1.a+4)) 2 x_4.1->FwP a.2.1/\∀(x_5:Bool × Unit),FwR a.2.1.F {a:=x_1.1,b:=x_2.1,c:=x_3.1,d:=x_4.1} x_5.1->br (!x_5.1) (true=true/\jMe x p n l false a.2.1) (br (decide (x_1.1>=a.1.2.2.1)) (jMe x p n l false a.2.1) (a.2.1.F.length+1<=4000000000/\RwI x p n l {x:=a.2.1.x,a:=wr (a.2.1.a+6),F:=a.2.1.F ++(List.replicate 1 [iz IntKind.i64,iz IntKind.i64,iz IntKind.i64,iz IntKind.i64]).set 0 [I x_1.1,I x_2.1,I x_3.1,I x_4.1],K:=a.2.1.K,L:=a.2.1.L} a.1.2.1 a.1.2.2.1 (wr (a.1.2.2.2.1+1))/\ixM n (wr (a.1.2.2.2.1+1))<ixM n a.1.2.2.2.1))) (jMe x p n l true a.2.1)) (by kernel_rfl) (by
 refine⟨⟨⟨rfl,rfl⟩,⟨by omega,by omega⟩,rfl,fun j hj=>absurd hj (Nat.not_lt_zero _)⟩,fun⟨⟨_,n',l',i,_⟩,r,_⟩ ⟨⟨e1,e2⟩,q2,q3,q4⟩=>?_⟩
 dsimp only at e1 e2 q2 q3 q4 ⊢
 subst e1 e2 q3
 dsimp only
 have lo:=q2.lo;have hi:=q2.hi;have E:∀k:Int,0<=k->k<=8->wr ((p:Int)+6*i.toNat+k)=((p+6*i.toNat:Nat):Int)+k:=fun k _ _=>by unfold wr;rw[IntKind.wrap_i64];omega
 refine⟨fun hb=>?_,fun hb=>?_⟩
 .have hb':=dt hb
  have nx:=q2.nx (by omega) hb;have w1:(wr (i+1)).toNat=i.toNat+1:=by unfold wr;rw[IntKind.wrap_i64];omega
  rw[E 2 (by omega) (by omega),E 3 (by omega) (by omega),E 4 (by omega) (by omega),E 6 (by omega) (by omega)]
  have B:∀k z:Int,0<=k->k<=8->0<=z->z<=8->NmP (((p+6*i.toNat:Nat):Int)+k) z:=fun k z _ _ _ _=>⟨⟨by omega,by omega⟩,by omega,by omega⟩
  refine⟨by have:=B 0 2 (by omega) (by omega) (by omega) (by omega);simpa using this,fun⟨y1,_⟩ ⟨G⟩=>⟨B 2 1 (by omega) (by omega) (by omega) (by omega),fun⟨y2,_⟩ ⟨h2⟩=>⟨B 3 1 (by omega) (by omega) (by omega) (by omega),fun⟨y3,_⟩ ⟨J⟩=>⟨B 4 2 (by omega) (by omega) (by omega) (by omega),fun⟨y4,_⟩ ⟨M⟩=>⟨⟨⟨rfl,rfl⟩,jRT _ _ _,by rw[jRU];omega⟩,fun⟨b,_⟩ ⟨h5⟩=>?_⟩⟩⟩⟩⟩;have G:y1=nv x (p+6*i.toNat) 2:=G.trans (by rw[show((p:Int)+6*i.toNat).toNat=p+6*i.toNat by omega];rfl);have h2:y2=nv x (p+6*i.toNat+2) 1:=h2.trans (by rw[show(((p+6*i.toNat:Nat):Int)+2).toNat=p+6*i.toNat+2 by omega];rfl);have J:y3=nv x (p+6*i.toNat+3) 1:=J.trans (by rw[show(((p+6*i.toNat:Nat):Int)+3).toNat=p+6*i.toNat+3 by omega];rfl);have M:y4=nv x (p+6*i.toNat+4) 2:=M.trans (by rw[show(((p+6*i.toNat:Nat):Int)+4).toNat=p+6*i.toNat+4 by omega];rfl);subst G h2 J M
  dsimp only at h5 ⊢
  have V:(⟨nv x (p+6*i.toNat) 2,nv x (p+6*i.toNat+2) 1,nv x (p+6*i.toNat+3) 1,nv x (p+6*i.toNat+4) 2⟩:CfS)=rwF x (p+6*i.toNat):=rfl;rw[V]at h5;refine⟨fun hb2=>⟨rfl,(fun e=>(by cases e)),fun _=>⟨i.toNat,by omega,fun w=>?_⟩⟩,fun hb2=>⟨fun hl=>⟨(fun e=>(by cases e)),fun _=>⟨i.toNat,by omega,fun w=>?_⟩⟩,fun hl=>⟨by rw[jRU];omega,⟨⟨rfl,rfl⟩,nx.1,?_,?_⟩,nx.2⟩⟩⟩
  .have:=h5.2 w.f
   rw[this]at hb2;cases hb2
  .have:=dt hl
   have:=w.l;show False;unfold rwF at this
   dsimp only at this
   omega
  .rw[w1,jVC]
   have P:((p+6*i.toNat:Nat):Int)+6=(p:Int)+6*((i.toNat+1:Nat):Int):=by omega
   rw[P];rfl
  .intro j hj
   rw[w1]at hj
   by_cases O:j<i.toNat
   .exact q4 j O
   .have:j=i.toNat:=by omega
    subst this;refine⟨h5.1 (by simpa using hb2),?_⟩;have:=df hl;unfold rwF
    dsimp only
    omega
 .have hb:=df hb
  have Y:i.toNat=n:=by omega
  rw[Y]at q4 ⊢
  exact⟨fun _=>⟨rfl,q4⟩,(fun e=>(by cases e))⟩)
def ksF (x:ByteArray) (p n:Nat):List (List C):=(List.range n).map fun j=>[I (nv x (p+8*j) 8)]
theorem jXJ (x:ByteArray) (p n:Nat):ksF x p (n+1)=ksF x p n ++[[I (nv x (p+8*n) 8)]]:=by
 unfold ksF;rw[List.range_succ,List.map_append];rfl
theorem jXL (x:ByteArray) (p n:Nat):(ksF x p n).length=n:=by unfold ksF;rw[List.length_map,List.length_range]
structure jN9 (x:ByteArray) (p j:Nat):Prop where
 e:wv (nv x (p+8*j) 8)=nv x (p+8*j) 8
structure KsR (x:ByteArray) (p n:Nat) (F:List (List C)) (b:Bool) (r:Rr):Prop where
 y:b=true->r=⟨x,p+8*n,F,ksF x p n,[]⟩/\∀j,j<n->jN9 x p j
 z:b=false->∃j,j<n/\¬jN9 x p j
structure KsI (x:ByteArray) (p n:Nat) (F:List (List C)) (r:Rr) (n' i:Int):Prop where
 q1:n'=n
 q2:Ix n i
 q3:r=⟨x,p+8*i.toNat,F,ksF x p i.toNat,[]⟩
 q4:∀j,j<i.toNat->jN9 x p j
def ksT:Rl Av:=.cons 0 (tA 0) <| .cons 1 tI <| .cons 5 tI .nil
def ksH (x:ByteArray) (p n:Nat) (F:List (List C)):Hy:=⟨hRr,[],[],[(2,.iv ksT jO3 (fun q=>KsI x p n F q.2.1 q.1.2.1 q.1.2.2.1) fun q=>ixM n q.1.2.2.1)]⟩
theorem jZh (x:ByteArray) {p n:Nat}(F:List (List C)) (hp:p<=1000000) (hn:n<=100000):Tot T (mkc rB bRr (fun b r=>KsR x p n F b r) True) 63 [pRr ⟨x,p,F,[],[]⟩,pI n]:=vF (ksH x p n F) jQu Tryz.func63 (KsI x p n F {x:=x,a:=↑p,F:=F,K:=[],L:=[]} ↑n 0/\∀(a:(Unit × Int × Int × Unit) × Rr × Unit),KsI x p n F a.2.1 a.1.2.1 a.1.2.2.1->br (decide (a.1.2.2.1<a.1.2.1)) (NmP a.2.1.a 8/\∀(x_1:Int × Unit),NbR a.2.1.x a.2.1.a 8 x_1.1->True/\∀(x_2:Int × Unit),WvR x_1.1 x_2.1->br (decide (x_2.1≠x_1.1)) (KsR x p n F false a.2.1) (a.2.1.K.length+1<=4000000000/\KsI x p n F {x:=a.2.1.x,a:=wr (a.2.1.a+8),F:=a.2.1.F,K:=a.2.1.K ++(List.replicate 1 [iz IntKind.i64]).set 0 [I x_1.1],L:=a.2.1.L} a.1.2.1 (wr (a.1.2.2.1+1))/\ixM n (wr (a.1.2.2.1+1))<ixM n a.1.2.2.1)) (KsR x p n F true a.2.1)) (by kernel_rfl) (by
 refine⟨⟨rfl,⟨by omega,by omega⟩,rfl,fun j hj=>absurd hj (Nat.not_lt_zero _)⟩,fun⟨⟨_,n',i,_⟩,r,_⟩ ⟨e1,q2,q3,q4⟩=>?_⟩
 dsimp only at e1 q2 q3 q4 ⊢
 subst e1 q3
 dsimp only
 have lo:=q2.lo;have hi:=q2.hi;have J:wr ((p:Int)+8*i.toNat+8)=((p:Nat):Int)+8*((i.toNat+1:Nat):Int):=by unfold wr;rw[IntKind.wrap_i64];omega
 refine⟨fun hb=>?_,fun hb=>?_⟩
 .have hb':=dt hb
  have nx:=q2.nx (by omega) hb;have w1:(wr (i+1)).toNat=i.toNat+1:=by unfold wr;rw[IntKind.wrap_i64];omega
  refine⟨⟨⟨by omega,by omega⟩,by omega,by omega⟩,fun⟨y,_⟩ ⟨B⟩=>⟨trivial,fun⟨z,_⟩ ⟨h2⟩=>?_⟩⟩;have B:y=nv x (p+8*i.toNat) 8:=B.trans (by rw[show((p:Int)+8*i.toNat).toNat=p+8*i.toNat by omega];rfl);have h2:z=wv y:=h2;subst B h2
  dsimp only
  refine⟨fun h3=>⟨(fun e=>(by cases e)),fun _=>⟨i.toNat,by omega,fun w=>dt h3 w.e⟩⟩,fun h3=>⟨by rw[jXL];omega,⟨rfl,nx.1,?_,?_⟩,nx.2⟩⟩
  .rw[w1,J,jXJ];rfl
  .intro j hj
   rw[w1]at hj
   by_cases E:j<i.toNat
   .exact q4 j E
   .have:j=i.toNat:=by omega
    subst this;exact⟨Decidable.not_not.1 (df h3)⟩
 .have hb:=df hb
  have G:i.toNat=n:=by omega
  rw[G]at q4 ⊢
  exact⟨fun _=>⟨rfl,q4⟩,(fun e=>(by cases e))⟩)
def lnF (x:ByteArray) (p:Nat):LnS:=⟨nv x p 1,nv x (p+1) 1,nv x (p+2) 2,nv x (p+4) 2,I (nv x (p+6) 2)⟩
def lsF (x:ByteArray) (p n:Nat):List (List C):=(List.range n).map fun j=>fL.f (lnF x (p+8*j))
theorem jXd (x:ByteArray) (p n:Nat):lsF x p (n+1)=lsF x p n ++[fL.f (lnF x (p+8*n))]:=by
 unfold lsF;rw[List.range_succ,List.map_append];rfl
theorem jXf (x:ByteArray) (p n:Nat):(lsF x p n).length=n:=by unfold lsF;rw[List.length_map,List.length_range]
structure LsR (x:ByteArray) (p n:Nat) (F K:List (List C)) (r:Rr):Prop where
 e:r=⟨x,p+8*n,F,K,lsF x p n⟩
structure RlI (x:ByteArray) (p n:Nat) (F K:List (List C)) (r:Rr) (n' i:Int):Prop where
 q1:n'=n
 q2:Ix n i
 q3:r=⟨x,p+8*i.toNat,F,K,lsF x p i.toNat⟩
def rlT:Rl Av:=.cons 0 (tA 0) <| .cons 1 tI <| .cons 4 tI .nil
def rlH (x:ByteArray) (p n:Nat) (F K:List (List C)):Hy:=⟨hRr,[],[],[(1,.iv rlT jO3 (fun q=>RlI x p n F K q.2.1 q.1.2.1 q.1.2.2.1) fun q=>ixM n q.1.2.2.1)]⟩
theorem jVQ (x:ByteArray) {p n:Nat}(F K:List (List C)) (hp:p<=2000000) (hn:n<=100000):Tot T (mkc r0 bRr (fun _ r=>LsR x p n F K r) True) 64 [pRr ⟨x,p,F,K,[]⟩,pI n]:=vN (rlH x p n F K) jQu Tryz.func64 (RlI x p n F K {x:=x,a:=↑p,F:=F,K:=K,L:=[]} ↑n 0/\∀(a:(Unit × Int × Int × Unit) × Rr × Unit),RlI x p n F K a.2.1 a.1.2.1 a.1.2.2.1->br (decide (a.1.2.2.1<a.1.2.1)) (NmP a.2.1.a 1/\∀(x_1:Int × Unit),NbR a.2.1.x a.2.1.a 1 x_1.1->NmP (wr (a.2.1.a+1)) 1/\∀(x_2:Int × Unit),NbR a.2.1.x (wr (a.2.1.a+1)) 1 x_2.1->NmP (wr (a.2.1.a+2)) 2/\∀(x_3:Int × Unit),NbR a.2.1.x (wr (a.2.1.a+2)) 2 x_3.1->NmP (wr (a.2.1.a+4)) 2/\∀(x_4:Int × Unit),NbR a.2.1.x (wr (a.2.1.a+4)) 2 x_4.1->NmP (wr (a.2.1.a+6)) 2/\∀(x_5:Int × Unit),NbR a.2.1.x (wr (a.2.1.a+6)) 2 x_5.1->a.2.1.L.length+1<=4000000000/\RlI x p n F K {x:=a.2.1.x,a:=wr (a.2.1.a+8),F:=a.2.1.F,K:=a.2.1.K,L:=a.2.1.L ++(List.replicate 1 [iz IntKind.i64,iz IntKind.i64,iz IntKind.i64,iz IntKind.i64,iz IntKind.i64]).set 0 [I x_1.1,I x_2.1,I x_3.1,I x_4.1,I x_5.1]} a.1.2.1 (wr (a.1.2.2.1+1))/\ixM n (wr (a.1.2.2.1+1))<ixM n a.1.2.2.1) (LsR x p n F K a.2.1)) (by kernel_rfl) (by
 refine⟨⟨rfl,⟨by omega,by omega⟩,rfl⟩,fun⟨⟨_,n',i,_⟩,r,_⟩ ⟨e1,q2,q3⟩=>?_⟩
 dsimp only at e1 q2 q3 ⊢
 subst e1 q3
 dsimp only
 have lo:=q2.lo;have hi:=q2.hi;have E:∀k:Int,0<=k->k<=8->wr ((p:Int)+8*i.toNat+k)=((p+8*i.toNat:Nat):Int)+k:=fun k _ _=>by unfold wr;rw[IntKind.wrap_i64];omega
 refine⟨fun hb=>?_,fun hb=>?_⟩
 .have hb':=dt hb
  have nx:=q2.nx (by omega) hb;have w1:(wr (i+1)).toNat=i.toNat+1:=by unfold wr;rw[IntKind.wrap_i64];omega
  rw[E 1 (by omega) (by omega),E 2 (by omega) (by omega),E 4 (by omega) (by omega),E 6 (by omega) (by omega),E 8 (by omega) (by omega)]
  have B:∀k z:Int,0<=k->k<=8->0<=z->z<=8->NmP (((p+8*i.toNat:Nat):Int)+k) z:=fun k z _ _ _ _=>⟨⟨by omega,by omega⟩,by omega,by omega⟩
  refine⟨by have:=B 0 1 (by omega) (by omega) (by omega) (by omega);simpa using this,fun⟨y0,_⟩ ⟨h0⟩=>⟨B 1 1 (by omega) (by omega) (by omega) (by omega),fun⟨y1,_⟩ ⟨G⟩=>⟨B 2 2 (by omega) (by omega) (by omega) (by omega),fun⟨y2,_⟩ ⟨h2⟩=>⟨B 4 2 (by omega) (by omega) (by omega) (by omega),fun⟨y3,_⟩ ⟨J⟩=>⟨B 6 2 (by omega) (by omega) (by omega) (by omega),fun⟨y4,_⟩ ⟨M⟩=>⟨by rw[jXf];omega,⟨rfl,nx.1,?_⟩,nx.2⟩⟩⟩⟩⟩⟩;have h0:y0=nv x (p+8*i.toNat) 1:=h0.trans (by rw[show((p:Int)+8*i.toNat).toNat=p+8*i.toNat by omega];rfl);have G:y1=nv x (p+8*i.toNat+1) 1:=G.trans (by rw[show(((p+8*i.toNat:Nat):Int)+1).toNat=p+8*i.toNat+1 by omega];rfl);have h2:y2=nv x (p+8*i.toNat+2) 2:=h2.trans (by rw[show(((p+8*i.toNat:Nat):Int)+2).toNat=p+8*i.toNat+2 by omega];rfl);have J:y3=nv x (p+8*i.toNat+4) 2:=J.trans (by rw[show(((p+8*i.toNat:Nat):Int)+4).toNat=p+8*i.toNat+4 by omega];rfl);have M:y4=nv x (p+8*i.toNat+6) 2:=M.trans (by rw[show(((p+8*i.toNat:Nat):Int)+6).toNat=p+8*i.toNat+6 by omega];rfl);subst h0 G h2 J M
  dsimp only
  rw[w1,jXd];have O:((p+8*i.toNat:Nat):Int)+8=((p:Nat):Int)+8*((i.toNat+1:Nat):Int):=by omega
  rw[O];rfl
 .have hb:=df hb
  have P:i.toNat=n:=by omega
  rw[P]
  exact⟨rfl⟩)
end V
end Go.Proofs.YtnhbcdnmfafbiaaGreatDoor
set_option maxRecDepth 100000
namespace Go.Proofs.YtnhbcdnmfafbiaaGreatDoor
namespace V
open Go.Proofs
theorem jXK (x:ByteArray) (p n:Nat):Rw fI Tt (ksF x p n):=fun e he=>by
 obtain⟨j,_,rfl⟩:=List.mem_map.1 he;exact⟨_,rfl,trivial⟩
def fLi:Pz (List C):=⟨Int × Int × Int × Int × Int,fun x=>[I x.1,I x.2.1,I x.2.2.1,I x.2.2.2.1,I x.2.2.2.2],fun l=>match l with
 |[.i .i64 a,.i .i64 b,.i .i64 c,.i .i64 d,.i .i64 e]=>some (a,b,c,d,e)
 |_=>none,fun b x e=>by split at e <;> cases e;rfl⟩
theorem jXe (x:ByteArray) (p n:Nat):Rw fLi Tt (lsF x p n):=fun e he=>by
 obtain⟨j,_,rfl⟩:=List.mem_map.1 he;exact⟨(nv x (p+8*j) 1,nv x (p+8*j+1) 1,nv x (p+8*j+2) 2,nv x (p+8*j+4) 2,nv x (p+8*j+6) 2),rfl,trivial⟩
def nF (x:ByteArray):Nat:=(nv x 2 2).toNat
def nK (x:ByteArray):Nat:=(nv x 4 2).toNat
def nL (x:ByteArray):Nat:=(nv x 6 2).toNat
structure jLl (x:ByteArray):Prop where
 w:whole x
 f:∀j,j<nF x->jNP x 8 (nv x 6 2) j
 k:∀j,j<nK x->jN9 x (8+6*nF x) j
noncomputable def rdE (x:ByteArray):Int:=open Classical in if 600000<x.size then 1 else if jLl x then 0 else 10
def rdC (x:ByteArray):CdS:=⟨jKB x 8 (nF x),ksF x (8+6*nF x) (nK x),lsF x (8+6*nF x+8*nK x) (nL x)⟩
structure RdR (x:ByteArray) (c:CdS) (e:Int):Prop where
 z:e=rdE x
 y:e=0->c=rdC x
def rCE:Pz (List Arg):=⟨CdS × Int × Int,fun x=>[.pl (.ag (fCd.f x.1)),pI x.2.1,pI x.2.2],fun l=>match l with
 |[.pl (.ag l),.pl (.c (.i .i64 e)),.pl (.c (.i .i64 a))]=>match fCd.un l with
  |some c=>some (c,e,a)
  |none=>none
 |_=>none,fun b x e=>by
  split at e
  .split at e
   .rename_i h;cases e;rw[fCd.ok _ _ h];rfl
   .cases e
  .cases e⟩
structure RwP (r:Rr) (n:Int):Prop where
 e:r.F=[]/\r.K=[]/\r.L=[]
 a:0<=r.a/\r.a<=1000
 n:0<=n/\n<=100000
structure KsP (r:Rr) (n:Int):Prop where
 e:r.K=[]/\r.L=[]
 a:0<=r.a/\r.a<=1000000
 n:0<=n/\n<=100000
structure LsP (r:Rr) (n:Int):Prop where
 e:r.L=[]
 a:0<=r.a/\r.a<=2000000
 n:0<=n/\n<=100000
def ctRh:Cts:=ctp 61 (kA (aC (aP fRr) <|aC aI <|aC aI aN) fun a=>mkc rB bRr (fun b r=>jMe a.1.x a.1.a.toNat a.2.1.toNat a.2.2.1 b r) (RwP a.1 a.2.1)) <|
 ctp 63 (kA (aC (aP fRr) <|aC aI aN) fun a=>mkc rB bRr (fun b r=>KsR a.1.x a.1.a.toNat a.2.1.toNat a.1.F b r) (KsP a.1 a.2.1)) <|
 ctp 64 (kA (aC (aP fRr) <|aC aI aN) fun a=>mkc r0 bRr (fun _ r=>LsR a.1.x a.1.a.toNat a.2.1.toNat a.1.F a.1.K r) (LsP a.1 a.2.1)) <|
 ctp 60 (kA (aC aBs aN) fun a=>mkc rB b0 (fun b _=>jLN a.1 b) (ByteArray.size a.1<=1000000)) jOr
theorem jVR {r:Rr}{n:Int}(h:LsP r n):Tot T (mkc r0 bRr (fun _ r'=>LsR r.x r.a.toNat n.toNat r.F r.K r') True) 64 [pRr r,pI n]:=by
 obtain⟨x,a,F,K,L⟩:=r;obtain⟨B,h2,E⟩:=h
 dsimp only at B h2 E ⊢
 subst B
 obtain⟨p,rfl⟩:∃p:Nat,a=p:=⟨a.toNat,by omega⟩
 obtain⟨m,rfl⟩:∃m:Nat,n=m:=⟨n.toNat,by omega⟩
 exact jVQ x F K (by omega) (by omega)
theorem jZi {r:Rr}{n:Int}(h:KsP r n):Tot T (mkc rB bRr (fun b r'=>KsR r.x r.a.toNat n.toNat r.F b r') True) 63 [pRr r,pI n]:=by
 obtain⟨x,a,F,K,L⟩:=r;obtain⟨⟨h0,B⟩,h2,E⟩:=h
 dsimp only at h0 B h2 E ⊢
 subst h0 B
 obtain⟨p,rfl⟩:∃p:Nat,a=p:=⟨a.toNat,by omega⟩
 obtain⟨m,rfl⟩:∃m:Nat,n=m:=⟨n.toNat,by omega⟩
 exact jZh x F (by omega) (by omega)
theorem jVM {r:Rr}{n:Int}(l:Int) (h:RwP r n):Tot T (mkc rB bRr (fun b r'=>jMe r.x r.a.toNat n.toNat l b r') True) 61 [pRr r,pI n,pI l]:=by
 obtain⟨x,a,F,K,L⟩:=r;obtain⟨⟨E,h0,B⟩,h2,G⟩:=h
 dsimp only at E h0 B h2 G ⊢
 subst E h0 B
 obtain⟨p,rfl⟩:∃p:Nat,a=p:=⟨a.toNat,by omega⟩
 obtain⟨m,rfl⟩:∃m:Nat,n=m:=⟨n.toNat,by omega⟩
 exact jVL x l (by omega) (by omega)
theorem jZb:Good T ctRh:=by
 unfold ctRh;refine Good.add (Good.add (Good.add (Good.add jQt ?_) ?_) ?_) ?_
 .rintro a h;exact jX8 _ h
 .rintro a h;exact jVR h
 .rintro a h;exact jZi h
 .rintro a h;exact jVM _ h
def rrdH:Hy:=⟨hRr,[],[(11,[(16,2),(16,3),(16,4)])],[]⟩
theorem jem (x:ByteArray):Tot T (mkc rCE b0 (fun(r:CdS × Int × Int) _=>RdR x r.1 r.2.1) True) 33 [.pl (.c (.s x))]:=vR rrdH jZb [] [false,false,false] Tryz.func33 (br (decide ((x.size:Int) >600000)) (RdR x {F:=[],K:=[],L:=[]} 1) (x.size<=1000000/\∀(x_1:Bool × Unit),jLN x x_1.1->br (!x_1.1) (RdR x {F:=[],K:=[],L:=[]} 10) (NmP 2 2/\∀(x_2:Int × Unit),NbR x 2 2 x_2.1->NmP 6 2/\∀(x_3:Int × Unit),NbR x 6 2 x_3.1->RwP {x:=x,a:=8,F:=[],K:=[],L:=[]} x_2.1/\∀(x_4:Bool × Rr),jMe x 8 (Int.toNat x_2.1) x_3.1 x_4.1 x_4.2->br (!x_4.1) (RdR x {F:=[],K:=[],L:=[]} 10) (NmP 4 2/\∀(x_5:Int × Unit),NbR x 4 2 x_5.1->KsP x_4.2 x_5.1/\∀(x_6:Bool × Rr),KsR x_4.2.x x_4.2.a.toNat (Int.toNat x_5.1) x_4.2.F x_6.1 x_6.2->br (!x_6.1) (RdR x {F:=[],K:=[],L:=[]} 10) (NmP 6 2/\∀(x_7:Int × Unit),NbR x 6 2 x_7.1->LsP x_6.2 x_7.1/\∀(x_8:Unit × Rr),LsR x_6.2.x x_6.2.a.toNat (Int.toNat x_7.1) x_6.2.F x_6.2.K x_8.2->pln x_8.2.F/\pln x_8.2.K/\pln x_8.2.L/\RdR x {F:=x_8.2.F,K:=x_8.2.K,L:=x_8.2.L} 0))))) (by kernel_rfl) (by
 have Y:=nv2 x 2;have Z:=nv2 x 4;have r3:=nv2 x 6
 have no:¬600000<x.size->¬jLl x->RdR x {F:=[],K:=[],L:=[]} 10:=fun h1 h2=>⟨by unfold rdE;rw[if_neg h1,if_neg h2],fun e=>by omega⟩
 refine⟨fun h0=>⟨by have:=dt h0;unfold rdE;rw[if_pos (by omega)],fun e=>by omega⟩,fun h0=>?_⟩;have h0:=df h0;have E:¬600000<x.size:=by omega
 refine⟨by omega,fun⟨b,_⟩ ⟨B⟩=>?_⟩
 dsimp only at B ⊢
 refine⟨fun hb=>no E fun ok=>(by have:=B.2 ok.w;rw[this]at hb;cases hb),fun hb=>?_⟩;have B:=B.1 (by simpa using hb);refine⟨⟨⟨by omega,by omega⟩,by omega,by omega⟩,fun⟨f,_⟩ ⟨hf⟩=>⟨⟨⟨by omega,by omega⟩,by omega,by omega⟩,fun⟨l,_⟩ ⟨hl⟩=>?_⟩⟩;have hf:f=nv x 2 2:=hf;have hl:l=nv x 6 2:=hl
 dsimp only
 subst hf hl;refine⟨⟨⟨rfl,rfl,rfl⟩,⟨by dsimp only;omega,by dsimp only;omega⟩,by omega,by omega⟩,fun⟨b2,w2⟩ ⟨hy,hn⟩=>?_⟩
 dsimp only at hy hn ⊢
 refine⟨fun hb2=>no E fun ok=>?_,fun hb2=>?_⟩
 .obtain⟨j,j1,j2⟩:=hn (by simpa using hb2)
  exact j2 (ok.f j j1)
 obtain⟨M,J⟩:=hy (by simpa using hb2);subst M;refine⟨⟨⟨by omega,by omega⟩,by omega,by omega⟩,fun⟨k,_⟩ ⟨hk⟩=>?_⟩;have hk:k=nv x 4 2:=hk
 dsimp only
 subst hk;have P:(((8:Nat):Int)+6*((nv x 2 2).toNat:Nat)).toNat=8+6*nF x:=by unfold nF;omega
 refine⟨⟨⟨rfl,rfl⟩,⟨by dsimp only;omega,by dsimp only;omega⟩,by omega,by omega⟩,fun⟨b3,w3⟩ ⟨hy,hn⟩=>?_⟩
 dsimp only at hy hn ⊢
 rw[P]at hy hn;refine⟨fun hb3=>no E fun ok=>?_,fun hb3=>?_⟩
 .obtain⟨j,j1,j2⟩:=hn (by simpa using hb3)
  exact j2 (ok.k j j1)
 obtain⟨O,G⟩:=hy (by simpa using hb3);subst O;have V:(((8+6*nF x:Nat):Int)+8*((nv x 4 2).toNat:Nat)).toNat=8+6*nF x+8*nK x:=by unfold nK;omega
 refine⟨⟨⟨by omega,by omega⟩,by omega,by omega⟩,fun⟨l,_⟩ ⟨hl⟩=>?_⟩;have hl:l=nv x 6 2:=hl
 dsimp only
 subst hl;refine⟨⟨rfl,⟨by dsimp only;omega,by unfold nF;dsimp only;omega⟩,by omega,by omega⟩,fun⟨_,w4⟩ ⟨e4⟩=>?_⟩
 dsimp only at e4 ⊢
 subst e4;rw[V]
 have ok:jLl x:=⟨B,J,G⟩
 refine⟨(jRT _ _ _).plx fun _=>rfl,Rw.pln (p:=Tt) (jXK _ _ _),(jXe _ _ _).plx fun _=>rfl,⟨by unfold rdE;rw[if_neg E,if_pos ok],fun _=>rfl⟩⟩)
end V
end Go.Proofs.YtnhbcdnmfafbiaaGreatDoor
set_option maxRecDepth 100000
namespace Go.Proofs.YtnhbcdnmfafbiaaGreatDoor
namespace V
open Go.Proofs
theorem bytes_at:∀{l:List (List C)}{us:List UInt8},bytes l=some us->us.length=l.length/\∀i:Nat,us[i]? =(l[i]?).bind byt
 |[],us,h=>by cases h;exact⟨rfl,fun i=>by simp⟩
 |e ::l,us,h=>by
  unfold bytes at h
  split at h
  .rename_i u hu
   split at h
   .rename_i vs hv
    cases h;obtain⟨B,h2⟩:=bytes_at hv;refine⟨by simp[B],fun i=>?_⟩
    cases i with
    |zero=>simp[hu]
    |succ i=>simpa using h2 i
   .cases h
  .cases h
theorem ByR.at {c:CdS}{x:ByteArray}(h:ByR c x):x.size=(enc c).length/\∀i:Nat,x[i]? =((enc c)[i]?).bind byt:=by
 obtain⟨us,B,rfl⟩:=h.e;obtain⟨h2,E⟩:=bytes_at B;refine⟨by show us.toArray.size=_;simp[h2],fun i=>?_⟩;rw[<-E i]
 by_cases hi:i<us.length
 .have:i<(⟨us.toArray⟩:ByteArray).size:=by show i<us.toArray.size;simpa using hi
  rw[getElem?_pos (⟨us.toArray⟩:ByteArray) i this,List.getElem?_eq_getElem hi];rfl
 .have:¬i<(⟨us.toArray⟩:ByteArray).size:=by show ¬i<us.toArray.size;simpa using hi
  rw[getElem?_neg (⟨us.toArray⟩:ByteArray) i this,List.getElem?_eq_none (by omega)]
theorem jNX {x B:ByteArray}{a:Nat}:∀{z:Nat},(∀k,k<z->x[a+k]? =B[a+k]?)->nv x a z=nv B a z
 |0,_=>rfl
 |z+1,h=>by rw[nv,nv,h z (by omega),jNX fun k hk=>h k (by omega)]
theorem JR {f:List C->List (List C)}{m:Nat}:∀{l:List (List C)},(∀e ∈ l,(f e).length=m)->(l.flatMap f).length=m*l.length/\∀(j o:Nat) (e:List C),l[j]? =some e->o<m->(l.flatMap f)[m*j+o]? =(f e)[o]?
 |[],_=>⟨rfl,fun j o e h=>by simp at h⟩
 |e ::l,h=>by
  have h0:=h e (List.mem_cons_self ..);obtain⟨B,h2⟩:=JR (f:=f) (l:=l) fun x hx=>h x (List.mem_cons_of_mem _ hx);rw[List.flatMap_cons];refine⟨by rw[List.length_append,B,h0,List.length_cons,Nat.mul_succ];omega,fun j o e' hj ho=>?_⟩
  cases j with
  |zero=>
   simp at hj;subst hj;rw[Nat.mul_zero,Nat.zero_add,List.getElem?_append_left (by omega)]
  |succ j=>
   rw[List.getElem?_append_right (by rw[Nat.mul_succ];omega),h0,show m*(j+1)+o-m=m*j+o by rw[Nat.mul_succ];omega];exact h2 j o e' (by simpa using hj) ho
structure jQ7 (l l':List (List C)):Prop where
 n:l'.length=l.length
 e:∀j,j<l.length->∃o r x y p p',l[j]? =some (fL5.f (o,r,x,y,p))/\l'[j]? =some (fL5.f (o,r,x,y,p'))/\(p=p'\/pop o=true)
def hdr (c:CdS):List (List C):=jLu c ++(c.F.flatMap enF ++c.K.flatMap enK)
theorem jMJ (c:CdS):enc c=hdr c ++c.L.flatMap enL:=by unfold enc hdr;simp only[List.append_assoc]
theorem jQj (c:CdS):(jLu c).length=8:=by unfold jLu;simp[jKp]
theorem ByP.wF {c:CdS}(h:ByP c):∀e ∈ c.F,(enF e).length=6:=fun e he=>by
 obtain⟨x,rfl,_⟩:=h.f e he;exact jTI x
theorem ByP.wK {c:CdS}(h:ByP c):∀e ∈ c.K,(enK e).length=8:=fun e he=>by
 obtain⟨x,rfl,_⟩:=h.k e he;exact jKp x 8
theorem ByP.wL {c:CdS}(h:ByP c):∀e ∈ c.L,(enL e).length=8:=fun e he=>by
 obtain⟨x,rfl,_⟩:=h.l e he;exact jTH x
theorem ByP.hl {c:CdS}(h:ByP c):(hdr c).length=8+6*c.F.length+8*c.K.length:=by
 unfold hdr;rw[List.length_append,List.length_append,jQj,(JR h.wF).1,(JR h.wK).1];omega
theorem ByP.el {c:CdS}(h:ByP c):(enc c).length=8+6*c.F.length+8*c.K.length+8*c.L.length:=by
 rw[jMJ,List.length_append,h.hl,(JR h.wL).1]
theorem jYY {o r x y p p':Int}{i:Nat}(hi:i<6):(jLe (o,r,x,y,p))[i]? =(jLe (o,r,x,y,p'))[i]?:=by
 have e:∀q:Int,jLe (o,r,x,y,q)=(eN o 1 ++(eN r 1 ++(eN x 2 ++eN y 2))) ++eN q 2:=fun q=>by unfold jLe;simp only[List.append_assoc]
 have k:∀q:Int,(jLe (o,r,x,y,q))[i]? =(eN o 1 ++(eN r 1 ++(eN x 2 ++eN y 2)))[i]?:=fun q=>by rw[e,List.getElem?_append_left (by simp[jKp];omega)]
 rw[k,k]
theorem jPE {t:Int}{u:UInt8}(h0:0<=t) (J:t<256):nst t u=t*256+u.toNat:=by
 have M:=u.toNat_lt;have E:IntKind.i64.wrap (t*2 ^ 8)=t*256:=by rw[IntKind.wrap_i64];omega
 have G:IntKind.i64.wrap ((u.toNat:Nat):Int)=(u.toNat:Nat):=by rw[IntKind.wrap_i64];omega
 unfold nst;rw[E,G,BitVec.toNat_or]
 have B:(BitVec.ofInt 64 (t*256)).toNat=t.toNat <<< 8:=by
  rw[BitVec.toNat_ofInt,Nat.shiftLeft_eq];omega
 have a2:(BitVec.ofInt 64 ((u.toNat:Nat):Int)).toNat=u.toNat:=by
  rw[BitVec.toNat_ofInt];omega
 rw[B,a2,<-Nat.shiftLeft_add_eq_or_of_lt (by omega),Nat.shiftLeft_eq,IntKind.wrap_i64];omega
theorem jQU (n:Int) (i:Nat):byt [C.i .u8 (byN n i)]=some (UInt8.ofNat (byN n i).toNat)/\0<=byN n i/\byN n i<256:=by
 have h:0<=byN n i/\byN n i<256:=by
  unfold byN;rw[IntKind.wrap_u8];omega
 refine⟨?_,h⟩;show(if 0<=byN n i/\byN n i<256 then _ else none)=_;rw[if_pos h]
theorem jOO {n:Int}(h:0<=n/\n<256):((UInt8.ofNat n.toNat).toNat:Int)=n:=by
 rw[UInt8.toNat_ofNat'];omega
theorem jPD {x:ByteArray}{a:Nat}{n:Int}(h0:x[a]? =byt [C.i .u8 (byN n 1)]) (B:x[a+1]? =byt [C.i .u8 (byN n 0)]):nv x a 2=n % 65536:=by
 obtain⟨E,J⟩:=jQU n 1;obtain⟨e0,r0⟩:=jQU n 0;have z:nv x a 0=0:=rfl;rw[nv,B,e0,nv,Nat.add_zero,h0,E,z];simp only;have G:nst 0 (UInt8.ofNat (byN n 1).toNat)=byN n 1:=by rw[jPE (by omega) (by omega),jOO J];omega
 rw[G,jPE (by omega) (by omega),jOO r0];unfold byN;rw[IntKind.wrap_u8,IntKind.wrap_u8,Int.fdiv_eq_ediv_of_nonneg _ (by omega),Int.fdiv_eq_ediv_of_nonneg _ (by omega)];omega
theorem jWM {x:ByteArray}{a:Nat}{n:Int}(h0:x[a]? =byt [C.i .u8 (byN n 0)]):nv x a 1=n % 256:=by
 obtain⟨e0,r0⟩:=jQU n 0;have z:nv x a 0=0:=rfl;rw[nv,Nat.add_zero,h0,e0,z];simp only;rw[jPE (by omega) (by omega),jOO r0];unfold byN;rw[IntKind.wrap_u8,Int.fdiv_eq_ediv_of_nonneg _ (by omega)];omega
structure Ag (n:Nat) (x x':ByteArray):Prop where
 z:x'.size=x.size
 k:8<=n
 e:∀i:Nat,i<n->x[i]? =x'[i]?
theorem Ag.symm {n:Nat}{x B:ByteArray}(h:Ag n x B):Ag n B x:=⟨h.z.symm,h.k,fun i hi=>(h.e i hi).symm⟩
theorem Ag.num {n:Nat}{x B:ByteArray}(h:Ag n x B) {a z:Nat}(E:a+z<=n):nv x a z=nv B a z:=jNX fun k hk=>h.e _ (by omega)
theorem ext2 {x B:ByteArray}{n:Nat}(h:Ag n x B) (E:8<=x.size):x.extract 0 2=B.extract 0 2:=by
 have G:=h.z;have hn:=h.k;apply ByteArray.ext;rw[ByteArray.data_extract,ByteArray.data_extract];have s:x.data.size=x.size:=rfl;have J:B.data.size=B.size:=rfl;apply Array.ext
 .simp only[Array.size_extract];omega
 .intro i h1 h2
  have hi:i<2:=by simp only[Array.size_extract]at h1;omega
  rw[Array.getElem_extract,Array.getElem_extract];have e:=h.e (0+i) (by omega);rw[getElem?_pos x (0+i) (by omega),getElem?_pos B (0+i) (by omega)]at e;exact Option.some.inj e
theorem jUE {x B:ByteArray}{n:Nat}(h:Ag n x B) (w:whole x):whole B:=by
 have E:=h.z;have hn:=h.k;obtain⟨a,b,c,d⟩:=w;refine⟨by omega,(ext2 h a).symm.trans b,by rw[<-h.num (by omega)];exact c,?_⟩;rw[E,<-h.num (by omega),<-h.num (by omega),<-h.num (by omega)];exact d
theorem jRW {x B:ByteArray}{n p:Nat}(h:Ag n x B) (hp:p+6<=n):rwF x p=rwF B p:=by
 unfold rwF;rw[h.num (by omega),h.num (by omega),h.num (by omega),h.num (by omega)]
theorem jRV {x B:ByteArray}{n p m:Nat}(h:Ag n x B) (hp:p+6*m<=n):jKB x p m=jKB B p m:=by
 refine List.map_congr_left fun j hj=>?_;rw[List.mem_range]at hj;rw[jRW h (by omega)]
theorem jXN {x B:ByteArray}{n p m:Nat}(h:Ag n x B) (hp:p+8*m<=n):ksF x p m=ksF B p m:=by
 refine List.map_congr_left fun j hj=>?_;rw[List.mem_range]at hj;rw[h.num (by omega)]
theorem jR6 {x B:ByteArray}{n:Nat}(h:Ag n x B) (J:8+6*nF x+8*nK x<=n) (r:jLl x):jLl B:=by
 have hn:=h.k;have E:nF x=nF B:=by unfold nF;rw[h.num (by omega)]
 have G:nK x=nK B:=by unfold nK;rw[h.num (by omega)]
 refine⟨jUE h r.w,fun j hj=>?_,fun j hj=>?_⟩
 .rw[<-E]at hj
  obtain⟨a,b⟩:=r.f j hj;rw[jRW h (by omega)]at a b;rw[jRV h (by omega)]at a;rw[h.num (a:=6) (by omega)]at b;exact⟨a,b⟩
 .rw[<-G]at hj
  obtain⟨a⟩:=r.k j hj;rw[h.num (by omega)]at a;rw[<-E];exact⟨a⟩
theorem ByR.h2 {c:CdS}{x:ByteArray}(h:ByR c x):nv x 2 2=(c.F.length:Int) % 65536/\nv x 4 2=(c.K.length:Int) % 65536/\nv x 6 2=(c.L.length:Int) % 65536:=by
 have e:∀i:Nat,i<8->x[i]? =((jLu c)[i]?).bind byt:=fun i hi=>by
  rw[h.at.2,jMJ,List.getElem?_append_left (by unfold hdr;rw[List.length_append,jQj];omega)];unfold hdr;rw[List.getElem?_append_left (by rw[jQj];exact hi)]
 exact⟨jPD (e 2 (by omega)) (e 3 (by omega)),jPD (e 4 (by omega)) (e 5 (by omega)),jPD (e 6 (by omega)) (e 7 (by omega))⟩
theorem JfK {c c':CdS}{x B:ByteArray}(p:ByP c) (p':ByP c') (hF:c'.F=c.F) (P:c'.K=c.K) (G:jQ7 c.L c'.L) (r:ByR c x) (r':ByR c' B):rdE x=rdE B/\(rdE x=0->(rdC B).F=(rdC x).F/\(rdC B).K=(rdC x).K/\jQ7 (rdC x).L (rdC B).L):=by
 have Y:hdr c'=hdr c:=by unfold hdr jLu;rw[hF,P,G.n]
 have hl:=p.hl;obtain⟨n2,n4,n6⟩:=r.h2
 have ag:Ag (8+6*c.F.length+8*c.K.length) x B:=by
  refine⟨by rw[r'.at.1,r.at.1,p'.el,p.el,hF,P,G.n],by omega,fun i hi=>?_⟩;rw[r.at.2,r'.at.2,jMJ,jMJ,Y,List.getElem?_append_left (by omega),List.getElem?_append_left (by omega)]
 have b1:nF x<=c.F.length:=by unfold nF;omega
 have b2:nK x<=c.K.length:=by unfold nK;omega
 have O:nF x=nF B:=by unfold nF;rw[ag.num (by omega)]
 have V:nK x=nK B:=by unfold nK;rw[ag.num (by omega)]
 have e3:nL x=nL B:=by unfold nL;rw[ag.num (by omega)]
 have hE:rdE x=rdE B:=by
  unfold rdE;rw[ag.z]
  have:jLl x↔jLl B:=⟨jR6 ag (by omega),jR6 ag.symm (by omega)⟩
  by_cases hx:jLl x
  .rw[if_pos hx,if_pos (this.1 hx)]
  .rw[if_neg hx,if_neg fun h=>hx (this.2 h)]
 refine⟨hE,fun h0=>?_⟩
 have ok:jLl x:=by
  unfold rdE at h0
  split at h0
  .omega
  .split at h0
   .assumption
   .omega
 have hd:=ok.w.d;rw[r.at.1,p.el]at hd;have q:8+6*nF x+8*nK x=(hdr c).length:=by unfold nF nK;rw[hl];omega
 have ql:nL x=c.L.length:=by unfold nL;omega
 refine⟨?_,?_,?_⟩
 .show jKB B 8 (nF B)=jKB x 8 (nF x)
  rw[<-O,jRV ag (by omega)]
 .show ksF B (8+6*nF B) (nK B)=ksF x (8+6*nF x) (nK x)
  rw[<-O,<-V,jXN ag (by omega)]
 .show jQ7 (lsF x (8+6*nF x+8*nK x) (nL x)) (lsF B (8+6*nF B+8*nK B) (nL B))
  rw[<-O,<-V,<-e3,q];have ll:∀y:ByteArray,(lsF y (hdr c).length (nL x)).length=nL x:=fun y=>by unfold lsF;rw[List.length_map,List.length_range]
  refine⟨by rw[ll,ll],fun j hj=>?_⟩;rw[ll]at hj;obtain⟨o,rr,a,b,pp,M,h1,h2,E⟩:=G.e j (by omega)
  have g:∀i:Nat,i<8->x[(hdr c).length+8*j+i]? =((jLe (o,rr,a,b,pp))[i]?).bind byt:=fun i hi=>by
   rw[r.at.2,jMJ,List.getElem?_append_right (by omega),show(hdr c).length+8*j+i-(hdr c).length=8*j+i by omega,(JR p.wL).2 j i _ h1 hi];rfl
  have Z:∀i:Nat,i<8->B[(hdr c).length+8*j+i]? =((jLe (o,rr,a,b,M))[i]?).bind byt:=fun i hi=>by
   rw[r'.at.2,jMJ,Y,List.getElem?_append_right (by omega),show(hdr c).length+8*j+i-(hdr c).length=8*j+i by omega,(JR p'.wL).2 j i _ h2 hi];rfl
  have lo:∀{s z:Nat},s+z<=6->nv x ((hdr c).length+8*j+s) z=nv B ((hdr c).length+8*j+s) z:=fun {s z} hs=>jNX fun k hk=>by
   rw[Nat.add_assoc _ s k,g _ (by omega),Z _ (by omega),jYY (p':=M) (by omega)]
  have J:∀y:ByteArray,(lsF y (hdr c).length (nL x))[j]? =some (fL.f (lnF y ((hdr c).length+8*j))):=fun y=>by
   unfold lsF;rw[List.getElem?_map,List.getElem?_range hj];rfl
  refine⟨nv x ((hdr c).length+8*j) 1,nv x ((hdr c).length+8*j+1) 1,nv x ((hdr c).length+8*j+2) 2,nv x ((hdr c).length+8*j+4) 2,nv x ((hdr c).length+8*j+6) 2,nv B ((hdr c).length+8*j+6) 2,J x,?_,?_⟩
  .rw[J B]
   unfold lnF;have l0:=lo (s:=0) (z:=1) (by omega);rw[Nat.add_zero]at l0;rw[<-l0,<-lo (by omega),<-lo (by omega),<-lo (by omega)];rfl
  .rcases E with rfl|E
   .refine .inl (jNX fun k hk=>?_)
    rw[Nat.add_assoc _ 6 k,g _ (by omega),Z _ (by omega)]
   .right
    have:nv x ((hdr c).length+8*j) 1=o % 256:=jWM (by have:=g 0 (by omega);rw[Nat.add_zero]at this;rw[this];rfl);rw[this];unfold pop at E ⊢;simp only[Bool.or_eq_true,beq_iff_eq]at E;rcases E with(((((h|h)|h)|h)|h)|h)|h <;> subst h <;> rfl
end V
end Go.Proofs.YtnhbcdnmfafbiaaGreatDoor
