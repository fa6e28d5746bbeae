import Derived.Test.YtnhbcdnmfafbiaaGreatDoorM10
import Derived.Test.YtnhbcdnmfafbiaaGreatDoorM17
set_option linter.unusedVariables false
set_option linter.unusedSimpArgs false
set_option maxHeartbeats 20000000
set_option maxRecDepth 100000
namespace Go.Proofs.YtnhbcdnmfafbiaaGreatDoor
namespace V
open Go.Proofs
structure SgS where
 (n:ByteArray)
 (b:Int)
def fSg:Pz (List C):=⟨SgS,fun x=>[.s x.n,I x.b],fun l=>match l with
 |[.s n,.i .i64 b]=>some ⟨n,b⟩
 |_=>none,fun b x e=>by split at e <;> cases e;rfl⟩
def fSt:Pz (List C):=⟨ByteArray,fun n=>[.s n],fun l=>match l with
 |[.s n]=>some n
 |_=>none,fun b x e=>by split at e <;> cases e;rfl⟩
structure PtS where
 (k w n:Int)
 (m s:List (List C))
def fPt:Pz (List C):=⟨PtS,fun x=>[I x.k,.ui,I x.w,I x.n,.r false 1 x.m,.r false 1 x.s],fun l=>match l with
 |[.i .i64 k,.ui,.i .i64 w,.i .i64 n,.r false 1 m,.r false 1 s]=>some ⟨k,w,n,m,s⟩
 |_=>none,fun b x e=>by split at e <;> cases e;rfl⟩
structure Wa where
 (ps ns sg:List (List C))
 (nx:Int)
def fWa:Pz (List C):=⟨Wa,fun w=>[.r false 6 w.ps,.r true 13 w.ns,.r true 2 w.sg,I w.nx],fun l=>match l with
 |[.r false 6 ps,.r true 13 ns,.r true 2 sg,.i .i64 nx]=>some ⟨ps,ns,sg,nx⟩
 |_=>none,fun b x e=>by split at e <;> cases e;rfl⟩
def pWa (w:Wa):Arg:=.bp (fWa.f w)
def bWa:Pz (List (List C)):=bS fWa
def hW (s:Bool):Hx:=⟨fun z=>cond (Nat.beq z 13) (eS fN) (cond (Nat.beq z 2) (eS fSg) (cond (Nat.beq z 6) (eS fPt) (cond s (eS fSt) eI))),false,fun _=>none,false,false⟩
structure LvR (w:Wa) (w':Wa):Prop where
 e:∃k:Nat,w'={w with sg:=w.sg.take k}
theorem jRK (w:Wa) (c:Int):Tot T (mkc r0 bWa (fun _ w'=>LvR w w') True) 103 [pWa w,pI c]:=vN (⟨hW false,[],[],[]⟩) jJV Tryz.func103 (br (decide (c>=0)) (br (decide (c<↑w.sg.length)) (0<=c/\(0<=c.toNat/\c.toNat<=w.sg.length/\0<w.sg.length)/\LvR w {ps:=w.ps,ns:=w.ns,sg:=List.take c.toNat w.sg,nx:=w.nx}) (LvR w w)) (false=false/\LvR w w)) (by kernel_rfl) (by
 have z:LvR w w:=⟨w.sg.length,by rw[List.take_length]⟩
 refine⟨fun B=>⟨fun h2=>?_,fun _=>z⟩,fun _=>⟨rfl,z⟩⟩;have B:=dt B;have h2:=dt h2
 exact⟨by omega,⟨by omega,by omega,by omega⟩,⟨_,rfl⟩⟩)
theorem Nr.one {x:Int}(h:inI x):Nr [[I x]]:=⟨Rw.one (S:=fI) h,by simp⟩
structure N1 (l:List (List C)):Prop where
 r:Nr l
 n:l.length=1
theorem N1.one {x:Int}(h:inI x):N1 [[I x]]:=⟨Nr.one h,rfl⟩
theorem jTA {l:List (List C)}(h:Nr l):Tot T (mkc (rR 1) b0 (fun l _=>N1 l) True) 104 [.pl (.c (.r false 1 l))]:=vR (⟨hW false,[],[],[]⟩) jJV [(2,0)] [false] Tryz.func104 (br (decide (↑l.length=(0:Int))) (pln [[I ((-1))]]/\N1 [[I ((-1))]]) ((0:Int)<=0/\(∃(y:Int),l[0]? =some [I y])/\∀(x:Int),l[0]? =some [I x]->pln [[I x]]/\N1 [[I x]])) (by kernel_rfl) (by
 refine⟨fun _=>⟨rfl,N1.one ⟨by omega,by omega⟩⟩,fun h1=>⟨by omega,h.r.at (by have:=df h1;omega),fun x hx=>⟨rfl,N1.one (h.int hx)⟩⟩⟩)
structure WaB (w:Wa) (bb:Nat):Prop where
 sg:Rw fSg (fun x=>inI x.b) w.sg
 sl:w.sg.length+bb<=1000000
 n0:0<=w.nx
 n1:w.nx+bb<=1000000
structure BdR (w:Wa) (k:Nat) (l:List (List C)) (w':Wa):Prop where
 nr:Nr l
 n:l.length=k
 r:∀b,WaB w (b+k)->WaB w' b
 e:w'.ps=w.ps/\w'.ns=w.ns
structure BdI (w:Wa) (m:List (List C)) (w':Wa) (m':List (List C)) (c i:Int) (l:List (List C)):Prop where
 q1:m'=m
 q2:c=m.length
 q3:Ix m.length i
 q4:BdR w i.toNat l w'
def bdT:Rl Av:=.cons 0 (tA 0) <| .cons 5 (tL 5) <| .cons 9 (tR 1) <| .cons 10 tI <| .cons 11 tI .nil
def bdRt:Rl Rt:=.cons 0 (rX 0 fWa) <| .cons 5 (rX 2 (fO 1)) .nil
def bdH (w:Wa) (m:List (List C)):Hy:=⟨hW true,[],[],[(3,.iv bdT bdRt (fun a=>BdI w m a.2.1 a.1.2.2.1 a.1.2.2.2.1 a.1.2.2.2.2.1 a.2.2.1) fun a=>ixM m.length a.1.2.2.2.2.1)]⟩
theorem bind_ok {w:Wa}{m:List (List C)}(h:WaB w m.length) (hm:Rw fSt Tt m):Tot T (mkc (rR 1) bWa (fun l w'=>BdR w m.length l w') True) 102 [pWa w,.pl (.c (.r false 1 m))]:=vR (bdH w m) jJV [(4,0)] [false] Tryz.func102 (BdI w m w m ↑m.length 0 []/\∀(a:(Unit × Unit × List (List C) × Int × Int × Unit) × Wa × List (List C) × Unit),BdI w m a.2.1 a.1.2.2.1 a.1.2.2.2.1 a.1.2.2.2.2.1 a.2.2.1->br (decide (a.1.2.2.2.2.1<a.1.2.2.2.1)) (0<=a.1.2.2.2.2.1/\(∃(y:ByteArray),a.1.2.2.1[Int.toNat a.1.2.2.2.2.1]? =some (fSt.f y))/\∀(x:ByteArray),a.1.2.2.1[Int.toNat a.1.2.2.2.2.1]? =some (fSt.f x)->a.2.1.sg.length+1<=4000000000/\List.length a.2.2.1+1<=4000000000/\BdI w m {ps:=a.2.1.ps,ns:=a.2.1.ns,sg:=a.2.1.sg ++(List.replicate 1 [se,iz IntKind.i64]).set 0 (ovl (ovl [se,iz IntKind.i64] 0 [C.s x]) 1 [I a.2.1.nx]),nx:=wr (a.2.1.nx+1)} a.1.2.2.1 a.1.2.2.2.1 (wr (a.1.2.2.2.2.1+1)) (a.2.2.1 ++(List.replicate 1 [iz IntKind.i64]).set 0 [I a.2.1.nx])/\ixM m.length (wr (a.1.2.2.2.2.1+1))<ixM m.length a.1.2.2.2.2.1) (pln a.2.2.1/\BdR w m.length a.2.2.1 a.2.1)) (by kernel_rfl) (by
 have hl:=h.sl;refine⟨⟨rfl,rfl,⟨by omega,by omega⟩,Nr.nil,rfl,fun b h=>h,rfl,rfl⟩,fun⟨⟨_,_,m',c,i,_⟩,w',l,_⟩ ⟨q1,q2,q3,q4⟩=>?_⟩
 dsimp only at q1 q2 q3 q4 ⊢
 subst q1 q2;have lo:=q3.lo;have hi:=q3.hi;refine⟨fun hb=>?_,fun hb=>⟨Rw.pln q4.nr.r,by have:=df hb;rw[show i.toNat=m'.length by omega]at q4;exact q4⟩⟩;have E:=dt hb;have nx:=q3.nx (by omega) hb;have w1:(wr (i+1)).toNat=i.toNat+1:=by unfold wr;rw[IntKind.wrap_i64];omega
 have b1:=q4.r (m'.length-i.toNat) (by rw[show m'.length-i.toNat+i.toNat=m'.length by omega];exact h);have G:=b1.sl;have n0:=b1.n0;have n1:=b1.n1;have wn:wr (w'.nx+1)=w'.nx+1:=by unfold wr;rw[IntKind.wrap_i64];omega
 have B:inI w'.nx:=⟨by omega,by omega⟩
 have ll:=q4.n;refine⟨lo,hm.at (q3.lt hb),fun x hx=>⟨by omega,by omega,⟨rfl,rfl,nx.1,?_⟩,nx.2⟩⟩;rw[w1,wn];refine⟨⟨q4.nr.r.app (Rw.one (S:=fI) B),?_⟩,?_,fun b hb=>?_,q4.e⟩
 .show(l ++[[I w'.nx]]).length<=_;rw[List.length_append];simp;omega
 .show(l ++[[I w'.nx]]).length=_;rw[List.length_append];simp;omega
 .have b2:=q4.r (b+1) (by rw[show b+1+i.toNat=b+(i.toNat+1) by omega];exact hb)
  have s2:=b2.sl;have n2:=b2.n1;refine⟨b2.sg.app (Rw.one (S:=fSg) (x:=⟨x,w'.nx⟩) B),?_,by dsimp only;omega,by dsimp only;omega⟩;show(w'.sg ++[[C.s x,I w'.nx]]).length+b<=_
  rw[List.length_append];simp;omega)
structure MeI (w:Wa) (m:List (List C)) (w':Wa) (m':List (List C)) (i:Int):Prop where
 q1:w'=w
 q2:m'=m
 q3: -1<=i/\i<w.sg.length
def meT:Rl Av:=.cons 0 (tA 0) <| .cons 1 (tR 1) <| .cons 5 tI .nil
def meRt:Rl Rt:=.cons 0 (rX 3 fWa) .nil
def meM (i:Int):Nat:=(i+1).toNat
def meH (w:Wa) (m:List (List C)):Hy:=⟨hW true,[],[],[(3,.iv meT meRt (fun a=>MeI w m a.2.1 a.1.2.1 a.1.2.2.1) fun a=>meM a.1.2.2.1)]⟩
theorem jSI {w:Wa}{m:List (List C)}{b:Nat}(h:WaB w b) (hm:Rw fSt Tt m):Tot T (mkc (rR 1) b0 (fun l _=>N1 l) True) 55 [.br (fWa.f w),.pl (.c (.r false 1 m))]:=vR (meH w m) jJV [(4,0)] [false] Tryz.func55 (br (decide (↑m.length >(0:Int))) (MeI w m w m (wr (↑w.sg.length-1))/\∀(a:(Unit × List (List C) × Int × Unit) × Wa × Unit),MeI w m a.2.1 a.1.2.1 a.1.2.2.1->br (decide (a.1.2.2.1>=0)) (0<=a.1.2.2.1/\Int.toNat a.1.2.2.1<a.2.1.sg.length/\(∃(y:SgS),a.2.1.sg[Int.toNat a.1.2.2.1]? =some (fSg.f y))/\∀(x:SgS),a.2.1.sg[Int.toNat a.1.2.2.1]? =some (fSg.f x)->(0:Int)<=0/\(∃(y:ByteArray),a.1.2.1[0]? =some (fSt.f y))/\∀(x_1:ByteArray),a.1.2.1[0]? =some (fSt.f x_1)->br (decide (x.n=x_1)) (0<=a.1.2.2.1/\Int.toNat a.1.2.2.1<a.2.1.sg.length/\(∃(y:SgS),a.2.1.sg[Int.toNat a.1.2.2.1]? =some (fSg.f y))/\∀(x:SgS),a.2.1.sg[Int.toNat a.1.2.2.1]? =some (fSg.f x)->pln [[I x.b]]/\N1 [[I x.b]]) (MeI w m a.2.1 a.1.2.1 (wr (a.1.2.2.1-1))/\meM (wr (a.1.2.2.1-1))<meM a.1.2.2.1)) (pln [[I ((-1))]]/\N1 [[I ((-1))]])) (pln [[I ((-1))]]/\N1 [[I ((-1))]])) (by kernel_rfl) (by
 have no:pln [[I (-1)]]/\N1 [[I (-1)]]:=⟨rfl,N1.one ⟨by omega,by omega⟩⟩
 have sl:=h.sl;refine⟨fun h0=>⟨⟨rfl,rfl,by unfold wr;rw[IntKind.wrap_i64];omega⟩,fun⟨⟨_,m',i,_⟩,w',_⟩ ⟨q1,q2,q3⟩=>?_⟩,fun _=>no⟩;have h0:=dt h0
 dsimp only at q1 q2 q3 ⊢
 subst q1 q2;refine⟨fun E=>?_,fun _=>no⟩;have E:=dt E;have at':=h.sg.at (j:=i.toNat) (by omega);refine⟨by omega,by omega,at',fun x hx=>⟨by omega,hm.at (by omega),fun y hy=>⟨fun _=>⟨by omega,by omega,at',fun z hz=>⟨rfl,N1.one ?_⟩⟩,fun _=>?_⟩⟩⟩
 .obtain⟨u,B,hu⟩:=h.sg.of hz
  have:z.b=u.b:=by
   have B:[C.s z.n,C.i .i64 z.b]=[C.s u.n,C.i .i64 u.b]:=B;simp only[List.cons.injEq,C.i.injEq,true_and,and_true]at B;exact B.2
  rw[this];exact hu
 .have e1:wr (i-1)=i-1:=by unfold wr;rw[IntKind.wrap_i64];omega
  rw[e1]
  exact⟨⟨rfl,rfl,by omega⟩,by unfold meM;omega⟩)
end V
end Go.Proofs.YtnhbcdnmfafbiaaGreatDoor
