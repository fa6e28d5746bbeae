import Derived.Test.YtnhbcdnmfafbiaaGreatDoorM33
set_option linter.unusedVariables false
set_option linter.unusedSimpArgs false
set_option maxHeartbeats 20000000
set_option maxRecDepth 100000
namespace Go.Proofs.YtnhbcdnmfafbiaaGreatDoor
namespace V
open Go.Proofs
theorem jJJ.put {h:Hp}{n s:Nat}(B:jJJ h n (s+1)) {j:Nat}{x b:Bk}(J:h.bl[j]? =some (fB.f x)) (E:jNF b):jJJ {h with bl:=h.bl.set j (fB.f b)} n s:=by
 have G:=jNv jKN (b:=fB.f b) J;refine⟨fun q hq=>?_,by simpa using B.f,by simpa using B.n,?_⟩
 .rcases List.mem_or_eq_of_mem_set hq with q'|q'
  .exact B.b q q'
  .exact⟨b,q',E⟩
 .have:=B.c
  show h.fr.length+(h.bl.set j (fB.f b)).countP jKN+s<=(h.bl.set j (fB.f b)).length;rw[List.length_set]
  split at G <;> split at G <;> omega
structure NbI (h:Hp) (z:Int) (h':Hp) (fl:Va) (r:List (List C)) (i:Int):Prop where
 q1:∀n s,jJJ h n s->jJJ h' n s
 q2:Rw fV vIn r
 q5:vIn fl
 q3:(r.length:Int)=z
 q4:Ix z.toNat i
def nbT:Rl Av:=.cons 0 (tA 0) <| .cons 2 tI <| .cons 7 (tA 7) <| .cons 8 (tA 8) <| .cons 10 (tL 10) <| .cons 11 tI .nil
def nbR:Rl Rt:=.cons 0 (rX 0 fH) <| .cons 7 (rX 1 fV) <| .cons 8 (rX 1 fV) <| .cons 10 (rX 2 (fO 2)) .nil
def hN2:Hx:=⟨fun k=>cond (Nat.beq k 3005) (eS fB) (eS fV),true,fun _=>none,false,false⟩
def nbH (h:Hp) (z:Int):Hy:=⟨hN2,[],[],[(8,.iv nbT nbR (fun a=>NbI h z a.2.1 a.2.2.1 a.2.2.2.2.1 a.1.2.2.2.2.2.1) fun a=>ixM z.toNat a.1.2.2.2.2.2.1)]⟩
structure NwR (h h':Hp) (x:Va):Prop where
 r:HpR 1 h h'
 v:vIn x
theorem jWU {h:Hp}{n s:Nat}(B:jJJ h n s) (hn:n<=1000000) {z:Int}(E:sm z) (f:Int) (v:Va) (J:vIn v):Tot T (mkc rVB bH (fun x h'=>NwR h h' x.1) True) 154 [pH h,pI z,pI f,pV v]:=vR (nbH h z) jTW [] [false,false] Tryz.func154 (br (decide (wr (wr (h.us+z)+1) >h.ha)) ((∃(y:Nat),∃(y_1:Nat),jJJ h y y_1/\y<=10000000)/\∀(x:Unit × Hp),HpR 0 h x.2->br (decide (z<0)) (decide (z<0)=true/\decide (z<0)=true/\decide (z<0)=true/\decide (z<0)=true/\decide (z<0)=true/\decide (z<0)=true/\decide (z<0)=true/\decide (z<0)=true/\decide (z<0)=true/\decide (z<0)=true/\decide (z<0)=true/\decide (z<0)=true/\true=true/\NwR h x.2 {b:=false,n:=0}) (decide (z<0)=false/\decide (z<0)=false/\decide (z<0)=false/\decide (z<0)=false/\decide (z<0)=false/\decide (z<0)=false/\decide (z<0)=false/\decide (z<0)=false/\decide (z<0)=false/\decide (z<0)=false/\decide (z<0)=false/\decide (z<0)=false/\br (decide (wr (wr (x.2.us+z)+1) >x.2.ha)) (NwR h x.2 {b:=false,n:=0}) (0<=z/\0<=z/\(z.toNat<=z.toNat/\z.toNat<=4000000000)/\NbI h z {ha:=x.2.ha,us:=wr (x.2.us+wr (z+1)),gc:=x.2.gc,bl:=x.2.bl,fr:=x.2.fr} v (List.replicate z.toNat [bf,iz IntKind.i64]) 0/\∀(a:(Unit × Int × Unit × Unit × Unit × Int × Unit) × Hp × Va × Va × List (List C) × Unit),NbI h z a.2.1 a.2.2.1 a.2.2.2.2.1 a.1.2.2.2.2.2.1->br (decide (a.1.2.2.2.2.2.1<↑(List.length a.2.2.2.2.1))) (0<=a.1.2.2.2.2.2.1/\Int.toNat a.1.2.2.2.2.2.1<List.length a.2.2.2.2.1/\(∃(y:Va),a.2.2.2.2.1[Int.toNat a.1.2.2.2.2.2.1]? =some (fV.f y))/\∀(x:Va),a.2.2.2.2.1[Int.toNat a.1.2.2.2.2.2.1]? =some (fV.f x)->NbI h z a.2.1 a.2.2.1 (List.set a.2.2.2.2.1 (Int.toNat a.1.2.2.2.2.2.1) (ovl (fV.f x) 0 [.b a.2.2.1.b,I a.2.2.1.n])) (wr (a.1.2.2.2.2.2.1+1))/\ixM z.toNat (wr (a.1.2.2.2.2.2.1+1))<ixM z.toNat a.1.2.2.2.2.2.1) ((∃(y:Nat),∃(y_1:Nat),jJJ a.2.1 y y_1/\y<=100000000)/\∀(x:Int × Hp),PlR a.2.1 x.2 x.1->0<=x.1/\Int.toNat x.1<x.2.bl.length/\(∃(y:Bk),x.2.bl[Int.toNat x.1]? =some (fB.f y))/\∀(x_1:Bk),x.2.bl[Int.toNat x.1]? =some (fB.f x_1)->NwR h {ha:=x.2.ha,us:=x.2.us,gc:=x.2.gc,bl:=x.2.bl.set (Int.toNat x.1) (ovl (fB.f x_1) 0 [.b true,I a.1.2.1,.r true 2 a.2.2.2.2.1,iz IntKind.i64,bf]),fr:=x.2.fr} {b:=true,n:=x.1})))) (br (decide (z<0)) (decide (z<0)=true/\decide (z<0)=true/\decide (z<0)=true/\decide (z<0)=true/\decide (z<0)=true/\decide (z<0)=true/\decide (z<0)=true/\decide (z<0)=true/\decide (z<0)=true/\decide (z<0)=true/\decide (z<0)=true/\decide (z<0)=true/\true=true/\NwR h h {b:=false,n:=0}) (decide (z<0)=false/\decide (z<0)=false/\decide (z<0)=false/\decide (z<0)=false/\decide (z<0)=false/\decide (z<0)=false/\decide (z<0)=false/\decide (z<0)=false/\decide (z<0)=false/\decide (z<0)=false/\decide (z<0)=false/\decide (z<0)=false/\br (decide (wr (wr (h.us+z)+1) >h.ha)) (NwR h h {b:=false,n:=0}) (0<=z/\0<=z/\(z.toNat<=z.toNat/\z.toNat<=4000000000)/\NbI h z {ha:=h.ha,us:=wr (h.us+wr (z+1)),gc:=h.gc,bl:=h.bl,fr:=h.fr} v (List.replicate z.toNat [bf,iz IntKind.i64]) 0/\∀(a:(Unit × Int × Unit × Unit × Unit × Int × Unit) × Hp × Va × Va × List (List C) × Unit),NbI h z a.2.1 a.2.2.1 a.2.2.2.2.1 a.1.2.2.2.2.2.1->br (decide (a.1.2.2.2.2.2.1<↑(List.length a.2.2.2.2.1))) (0<=a.1.2.2.2.2.2.1/\Int.toNat a.1.2.2.2.2.2.1<List.length a.2.2.2.2.1/\(∃(y:Va),a.2.2.2.2.1[Int.toNat a.1.2.2.2.2.2.1]? =some (fV.f y))/\∀(x:Va),a.2.2.2.2.1[Int.toNat a.1.2.2.2.2.2.1]? =some (fV.f x)->NbI h z a.2.1 a.2.2.1 (List.set a.2.2.2.2.1 (Int.toNat a.1.2.2.2.2.2.1) (ovl (fV.f x) 0 [.b a.2.2.1.b,I a.2.2.1.n])) (wr (a.1.2.2.2.2.2.1+1))/\ixM z.toNat (wr (a.1.2.2.2.2.2.1+1))<ixM z.toNat a.1.2.2.2.2.2.1) ((∃(y:Nat),∃(y_1:Nat),jJJ a.2.1 y y_1/\y<=100000000)/\∀(x:Int × Hp),PlR a.2.1 x.2 x.1->0<=x.1/\Int.toNat x.1<x.2.bl.length/\(∃(y:Bk),x.2.bl[Int.toNat x.1]? =some (fB.f y))/\∀(x_1:Bk),x.2.bl[Int.toNat x.1]? =some (fB.f x_1)->NwR h {ha:=x.2.ha,us:=x.2.us,gc:=x.2.gc,bl:=x.2.bl.set (Int.toNat x.1) (ovl (fB.f x_1) 0 [.b true,I a.1.2.1,.r true 2 a.2.2.2.2.1,iz IntKind.i64,bf]),fr:=x.2.fr} {b:=true,n:=x.1}))))) (by kernel_rfl) (by
 have V:=E.1;have Y:=E.2
 have M:∀{k:Hp},HpR 0 h k->NwR h k ⟨false,0⟩:=fun p=>⟨⟨fun n s q=>⟨(p.r n s q).b,(p.r n s q).f,Nat.le_succ_of_le (p.r n s q).n,(p.r n s q).c⟩,trivial⟩,jKY _⟩
 have P:Rw fV vIn (List.replicate z.toNat (fV.f ⟨false,0⟩)):=fun q hq=>⟨_,(List.mem_replicate.1 hq).2,jKY _⟩
 have hk:HpR 0 h h:=⟨fun n s h=>h,trivial⟩
 have tl:∀(h':Hp) (t:List (List C)) (i f':Int) (v':Va),NbI h z h' v' t i->0<=z->(decide (i<(t.length:Int))=true->0<=i/\i.toNat<t.length/\(∃y:Va,t[i.toNat]? =some (fV.f y))/\∀x:Va,t[i.toNat]? =some (fV.f x)->NbI h z h' v' (t.set i.toNat (ovl (fV.f x) 0 [.b v'.b,I v'.n])) (wr (i+1))/\ixM z.toNat (wr (i+1))<ixM z.toNat i)/\(decide (i<(t.length:Int))=false->(∃y y_1:Nat,jJJ h' y y_1/\y<=100000000)/\∀x:Int × Hp,PlR h' x.2 x.1->0<=x.1/\Int.toNat x.1<x.2.bl.length/\(∃y:Bk,x.2.bl[Int.toNat x.1]? =some (fB.f y))/\∀y:Bk,x.2.bl[Int.toNat x.1]? =some (fB.f y)->NwR h {ha:=x.2.ha,us:=x.2.us,gc:=x.2.gc,bl:=x.2.bl.set (Int.toNat x.1) (ovl (fB.f y) 0 [.b true,I f',.r true 2 t,iz IntKind.i64,bf]),fr:=x.2.fr} ⟨true,x.1⟩):=fun h' t i f' v' q z0=>by
  have lo:=q.q4.lo;have O:=q.q3;refine⟨fun hb=>?_,fun _=>⟨⟨n,s,q.q1 n s B,by omega⟩,fun⟨at',k2⟩ pl=>?_⟩⟩
  .have hb':=dt hb
   have nx:=q.q4.nx (by omega) (decide_eq_true (by omega));refine⟨lo,by omega,q.q2.at (by omega),fun x _=>⟨⟨q.q1,fun y hy=>?_,q.q5,by simpa using O,nx.1⟩,nx.2⟩⟩;rcases List.mem_or_eq_of_mem_set hy with G|G
   .exact q.q2 y G
   .exact⟨v',G,q.q5⟩
  .have k1:=pl.k
   dsimp only at k1 pl ⊢
   refine⟨k1.1,by omega,(pl.r n s (q.q1 n s B)).b.at (by omega),fun y hy=>⟨⟨fun n s hn=>?_,trivial⟩,?_⟩⟩
   rotate_left
   .have:=(pl.r n s (q.q1 n s B)).n
    exact⟨⟨by dsimp only;omega,by dsimp only;omega⟩⟩
   exact(pl.r n s (q.q1 n s hn)).put (b:=⟨true,f',t,0,false⟩) hy ⟨q.q2,by dsimp only;omega⟩
 refine⟨fun _=>⟨⟨n,s,B,by omega⟩,fun⟨_,k⟩ hk=>?_⟩,fun _=>?_⟩
 all_goals
  refine⟨fun h1=>⟨h1,h1,h1,h1,h1,h1,h1,h1,h1,h1,h1,h1,rfl,M hk⟩,fun h1=>⟨h1,h1,h1,h1,h1,h1,h1,h1,h1,h1,h1,h1,fun _=>M hk,fun _=>?_⟩⟩;have z0:=df h1;have z0:0<=z:=by omega
  refine⟨z0,z0,⟨Nat.le_refl _,by omega⟩,⟨fun n s q=>⟨(hk.r n s q).b,(hk.r n s q).f,(hk.r n s q).n,(hk.r n s q).c⟩,P,J,by rw[List.length_replicate];omega,by omega,by omega⟩,fun⟨⟨_,f',_,_,_,i,_⟩,h',v',_,t,_⟩ q=>tl h' t i f' v' q z0⟩)
end V
end Go.Proofs.YtnhbcdnmfafbiaaGreatDoor
