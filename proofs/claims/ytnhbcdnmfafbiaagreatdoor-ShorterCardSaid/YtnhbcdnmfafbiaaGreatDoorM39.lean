import Derived.Test.YtnhbcdnmfafbiaaGreatDoorM18
import Derived.Test.YtnhbcdnmfafbiaaGreatDoorM33
set_option linter.unusedVariables false
set_option linter.unusedSimpArgs false
set_option maxHeartbeats 20000000
set_option maxRecDepth 100000
namespace Go.Proofs.YtnhbcdnmfafbiaaGreatDoor
namespace V
open Go.Proofs
def nst (t:Int) (u:UInt8):Int:=IntKind.i64.wrap ((BitVec.ofInt 64 (IntKind.i64.wrap (t*2 ^ 8)) ||| BitVec.ofInt 64 (IntKind.i64.wrap (u.toNat:Nat))).toNat:Nat)
def nv (x:ByteArray) (a:Nat):Nat->Int
 |0=>0
 |k+1=>match x[a+k]? with
  |some u=>nst (nv x a k) u
  |none=>nv x a k
theorem jSq {t:Int}{u:UInt8}{n:Nat}(hn:n=8\/n=16) (h0:0<=t) (J:t*256<2 ^ n):0<=nst t u/\nst t u<2 ^ n:=by
 have M:=u.toNat_lt;have E:IntKind.i64.wrap (t*2 ^ 8)=t*256:=by rw[IntKind.wrap_i64];rcases hn with rfl|rfl <;> omega
 have G:IntKind.i64.wrap ((u.toNat:Nat):Int)=(u.toNat:Nat):=by rw[IntKind.wrap_i64];omega
 unfold nst;rw[E,G,BitVec.toNat_or]
 have B:(BitVec.ofInt 64 (t*256)).toNat<2 ^ n:=by
  rw[BitVec.toNat_ofInt];rcases hn with rfl|rfl <;> omega
 have a2:(BitVec.ofInt 64 ((u.toNat:Nat):Int)).toNat<2 ^ n:=by
  rw[BitVec.toNat_ofInt];rcases hn with rfl|rfl <;> omega
 have a3:=Nat.or_lt_two_pow B a2;rw[IntKind.wrap_i64];rcases hn with rfl|rfl <;> omega
theorem nv1 (x:ByteArray) (a:Nat):0<=nv x a 1/\nv x a 1<256:=by
 unfold nv nv
 split
 .exact jSq (n:=8) (.inl rfl) (by omega) (by omega)
 .omega
theorem nv2 (x:ByteArray) (a:Nat):0<=nv x a 2/\nv x a 2<65536:=by
 have:=nv1 x a;rw[nv]
 split
 .exact jSq (n:=16) (.inr rfl) (by omega) (by omega)
 .omega
theorem jRg (n:Int):inI (IntKind.i64.wrap n):=by rw[IntKind.wrap_i64];constructor <;> omega
theorem jWN (x:ByteArray) (a:Nat):∀k,inI (nv x a k)
 |0=>⟨by simp[nv],by simp[nv]⟩
 |k+1=>by
  rw[nv]
  split
  .exact jRg _
  .exact jWN x a k
structure NmI (x:ByteArray) (a z:Int) (x':ByteArray) (a' z' t i:Int):Prop where
 q1:x'=x/\a'=a/\z'=z
 q2:a<=i/\i<=a+z
 q3:t=nv x a.toNat (i-a).toNat
def nmT:Rl Av:=.cons 0 tS <| .cons 1 tI <| .cons 2 tI <| .cons 7 tI <| .cons 8 tI .nil
def nmM (e i:Int):Nat:=(e-i).toNat
def nmH (x:ByteArray) (a z:Int):Hy:=⟨h0,[],[],[(3,.iv nmT .nil (fun q=>NmI x a z q.1.1 q.1.2.1 q.1.2.2.1 q.1.2.2.2.1 q.1.2.2.2.2.1) fun q=>nmM (a+z) q.1.2.2.2.2.1)]⟩
structure NmP (a z:Int):Prop where
 a:0<=a/\a<=4000000000
 z:0<=z/\z<=8
structure NbR (x:ByteArray) (a z k:Int):Prop where
 e:k=nv x a.toNat z.toNat
def cNm (x:ByteArray) (a z:Int) (p:Prop):Ct:=mkc rI b0 (fun k _=>NbR x a z k) p
theorem jVP (x:ByteArray) {a z:Int}(h:NmP a z):Tot T (cNm x a z True) 62 [.pl (.c (.s x)),pI a,pI z]:=vF (nmH x a z) jJV Tryz.func62 (NmI x a z x a z 0 a/\∀(a_1:(ByteArray × Int × Int × Int × Int × Unit) × Unit),NmI x a z a_1.1.1 a_1.1.2.1 a_1.1.2.2.1 a_1.1.2.2.2.1 a_1.1.2.2.2.2.1->br (decide (a_1.1.2.2.2.2.1<wr (a_1.1.2.1+a_1.1.2.2.1))) (br (decide (a_1.1.2.2.2.2.1>=0)) (br (decide (a_1.1.2.2.2.2.1<↑(ByteArray.size a_1.1.1))) (¬(8:Int)<0/\0<=a_1.1.2.2.2.2.1/\Int.toNat a_1.1.2.2.2.2.1<ByteArray.size a_1.1.1/\∀(u:UInt8),a_1.1.1[Int.toNat a_1.1.2.2.2.2.1]? =some u->NmI x a z a_1.1.1 a_1.1.2.1 a_1.1.2.2.1 (wr ↑(BitVec.ofInt 64 (wr (a_1.1.2.2.2.1*2 ^ 8)) ||| BitVec.ofInt 64 (wr ↑u.toNat)).toNat) (wr (a_1.1.2.2.2.2.1+1))/\nmM (a+z) (wr (a_1.1.2.2.2.2.1+1))<nmM (a+z) a_1.1.2.2.2.2.1) (NmI x a z a_1.1.1 a_1.1.2.1 a_1.1.2.2.1 a_1.1.2.2.2.1 (wr (a_1.1.2.2.2.2.1+1))/\nmM (a+z) (wr (a_1.1.2.2.2.2.1+1))<nmM (a+z) a_1.1.2.2.2.2.1)) (false=false/\NmI x a z a_1.1.1 a_1.1.2.1 a_1.1.2.2.1 a_1.1.2.2.2.1 (wr (a_1.1.2.2.2.2.1+1))/\nmM (a+z) (wr (a_1.1.2.2.2.2.1+1))<nmM (a+z) a_1.1.2.2.2.2.1)) (NbR x a z a_1.1.2.2.2.1)) (by kernel_rfl) (by
 have⟨⟨h1,h2⟩,h3,h4⟩:=h;have G:wr (a+z)=a+z:=by unfold wr;rw[IntKind.wrap_i64];omega
 refine⟨⟨⟨rfl,rfl,rfl⟩,⟨by omega,by omega⟩,by rw[show a-a=0 by omega];rfl⟩,fun⟨⟨x',a',z',t,i,_⟩,_⟩ ⟨⟨e1,e2,e3⟩,q2,q3⟩=>?_⟩
 dsimp only at e1 e2 e3 q2 q3 ⊢
 subst e1 e2 e3;rw[G];refine⟨fun B=>?_,fun B=>⟨by have:=df B;rw[q3,show i-a'=z' by omega]⟩⟩;have B:=dt B;have w1:wr (i+1)=i+1:=by unfold wr;rw[IntKind.wrap_i64];omega
 have ek:(i+1-a').toNat=(i-a').toNat+1:=by omega
 have E:a'.toNat+(i-a').toNat=i.toNat:=by omega
 rw[w1];have m:nmM (a'+z') (i+1)<nmM (a'+z') i:=by unfold nmM;omega
 refine⟨fun _=>⟨fun hs=>?_,fun hs=>⟨⟨⟨rfl,rfl,rfl⟩,⟨by omega,by omega⟩,?_⟩,m⟩⟩,fun h0=>by have:=df h0;omega⟩
 .have hs:=dt hs
  refine⟨by omega,by omega,by omega,fun u hu=>⟨⟨⟨rfl,rfl,rfl⟩,⟨by omega,by omega⟩,?_⟩,m⟩⟩;rw[ek,nv,E,hu,<-q3];rfl
 .have hs:=df hs
  rw[ek,nv,E,getElem?_neg _ _ (by show ¬i.toNat<x'.size;omega)]
  exact q3)
def wv (n:Int):Int:=(IntKind.i64.wrap (n*2 ^ 1)).fdiv (2 ^ 1)
structure WvR (n k:Int):Prop where
 e:k=wv n
theorem jVD (n:Int):Tot T (mkc rI b0 (fun k _=>WvR n k) True) 121 [pI n]:=vF (⟨h0,[],[],[]⟩) jJV Tryz.func121 (¬(1:Int)<0/\¬(1:Int)<0/\WvR n ((wr (n*2 ^ 1)).fdiv (2 ^ 1))) (by kernel_rfl) ⟨by omega,by omega,⟨rfl⟩⟩
end V
end Go.Proofs.YtnhbcdnmfafbiaaGreatDoor
set_option maxRecDepth 100000
namespace Go.Proofs.YtnhbcdnmfafbiaaGreatDoor
namespace V
open Go.Proofs
def byN (n:Int) (i:Nat):Int:=IntKind.u8.wrap (n.fdiv (2 ^ (8*i)))
def eNk (n:Int) (z k:Nat):List (List C):=(List.range k).map fun j=>[C.i .u8 (byN n (z-1-j))]
def eN (n:Int) (z:Nat):List (List C):=eNk n z z
theorem jY1 (n:Int) (z k:Nat):eNk n z (k+1)=eNk n z k ++[[C.i .u8 (byN n (z-1-k))]]:=by
 unfold eNk;rw[List.range_succ,List.map_append];rfl
theorem jTL (n:Int) (z k:Nat):(eNk n z k).length=k:=by unfold eNk;rw[List.length_map,List.length_range]
theorem jKp (n:Int) (z:Nat):(eN n z).length=z:=jTL n z z
theorem sh8:∀i:Fin 8,(IntKind.i64.wrap ((BitVec.ofInt 64 (IntKind.i64.wrap (8*(i.val:Int))) &&& BitVec.ofInt 64 63).toNat:Nat))=8*(i.val:Int):=by decide
structure AbI (l:List (List C)) (n z:Int) (l':List (List C)) (n' z' i:Int):Prop where
 q1:n'=n/\z'=z
 q2: -1<=i/\i<=z-1
 q3:l'=l ++eNk n z.toNat (z-1-i).toNat
def abT:Rl Av:=.cons 0 (tL 0) <| .cons 1 tI <| .cons 2 tI <| .cons 7 tI .nil
def abRt:Rl Rt:=.cons 0 (rX 2 (fO 1)) .nil
def hBy:Hx:=⟨fun _=>eI,false,fun _=>none,false,false⟩
def abH (l:List (List C)) (n z:Int):Hy:=⟨hBy,[],[],[(2,.iv abT abRt (fun q=>AbI l n z q.2.1 q.1.2.1 q.1.2.2.1 q.1.2.2.2.1) fun q=>meM q.1.2.2.2.1)]⟩
structure AdR (l:List (List C)) (n z:Int) (l':List (List C)):Prop where
 e:l'=l ++eN n z.toNat
structure AdP (l:List (List C)) (z:Int):Prop where
 z:0<=z/\z<=8
 l:l.length+8<=4000000000
def cAdN (l:List (List C)) (n z:Int) (p:Prop):Ct:=mkc (rO 1) b0 (fun l' _=>AdR l n z l') p
theorem jZ3 {l:List (List C)}(n:Int) {z:Int}(h:AdP l z):Tot T (cAdN l n z True) 32 [oR l,pI n,pI z]:=vR (abH l n z) jJV [] [true] Tryz.func32 (AbI l n z l n z (wr (z-1))/\∀(a:(Unit × Int × Int × Int × Unit) × List (List C) × Unit),AbI l n z a.2.1 a.1.2.1 a.1.2.2.1 a.1.2.2.2.1->br (decide (a.1.2.2.2.1>=0)) (¬wr ↑(BitVec.ofInt IntKind.i64.bits (wr (8*a.1.2.2.2.1)) &&& BitVec.ofInt IntKind.i64.bits 63).toNat<0/\List.length a.2.1+1<=4000000000/\AbI l n z (a.2.1 ++(List.replicate 1 [iz IntKind.u8]).set 0 [.i .u8 (IntKind.u8.wrap (Int.fdiv a.1.2.1 (2 ^ min (wr ↑(BitVec.ofInt 64 (wr (8*a.1.2.2.2.1)) &&& BitVec.ofInt 64 63).toNat).toNat 64)))]) a.1.2.1 a.1.2.2.1 (wr (a.1.2.2.2.1-1))/\meM (wr (a.1.2.2.2.1-1))<meM a.1.2.2.2.1) (AdR l n z a.2.1)) (by kernel_rfl) (by
 obtain⟨⟨z0,P⟩,hl⟩:=h;have M:wr (z-1)=z-1:=by unfold wr;rw[IntKind.wrap_i64];omega
 rw[M];refine⟨⟨⟨rfl,rfl⟩,⟨by omega,by omega⟩,by rw[show z-1-(z-1)=0 by omega];simp[eNk]⟩,fun⟨⟨_,n',z',i,_⟩,l',_⟩ ⟨⟨E,G⟩,q2,q3⟩=>?_⟩
 dsimp only at E G q2 q3 ⊢
 subst E G;refine⟨fun J=>?_,fun J=>⟨by have:=df J;rw[q3,show(z'-1-i).toNat=z'.toNat by omega];rfl⟩⟩;have J:=dt J;have B:=sh8 ⟨i.toNat,by omega⟩
 have B:wr ((BitVec.ofInt 64 (wr (8*i)) &&& BitVec.ofInt 64 63).toNat:Nat)=8*i:=by
  have e:((i.toNat:Nat):Int)=i:=by omega
  dsimp only at B
  rw[e]at B;exact B
 have w1:wr (i-1)=i-1:=by unfold wr;rw[IntKind.wrap_i64];omega
 have O:l'.length=l.length+(z'-1-i).toNat:=by rw[q3,List.length_append,jTL]
 refine⟨fun h=>?_,by omega,⟨⟨rfl,rfl⟩,by rw[w1];omega,?_⟩,by rw[w1];unfold meM;omega⟩
 .have h:wr ((BitVec.ofInt 64 (wr (8*i)) &&& BitVec.ofInt 64 63).toNat:Nat)<0:=h
  rw[B]at h;omega
 .rw[w1,B,show(z'-1-(i-1)).toNat=(z'-1-i).toNat+1 by omega,jY1,q3,List.append_assoc]
  have E:min (8*i).toNat 64=8*i.toNat:=by omega
  have G:z'.toNat-1-(z'-1-i).toNat=i.toNat:=by omega
  rw[E,G]
  rfl)
def jQk (x:CfS):List (List C):=eN x.a 2 ++(eN x.b 1 ++(eN x.c 1 ++eN x.d 2))
def fL5:Pz (List C):=⟨Int × Int × Int × Int × Int,fun x=>[I x.1,I x.2.1,I x.2.2.1,I x.2.2.2.1,I x.2.2.2.2],fun l=>match l with
 |[.i .i64 a,.i .i64 b,.i .i64 c,.i .i64 d,.i .i64 e]=>some (a,b,c,d,e)
 |_=>none,fun b x e=>by split at e <;> cases e;rfl⟩
def jLe (x:Int × Int × Int × Int × Int):List (List C):=eN x.1 1 ++(eN x.2.1 1 ++(eN x.2.2.1 2 ++(eN x.2.2.2.1 2 ++eN x.2.2.2.2 2)))
def enF (e:List C):List (List C):=match fCF.un e with
 |some x=>jQk x
 |none=>[]
def enK (e:List C):List (List C):=match fI.un e with
 |some x=>eN x 8
 |none=>[]
def enL (e:List C):List (List C):=match fL5.un e with
 |some x=>jLe x
 |none=>[]
def jLu (c:CdS):List (List C):=[[.i .u8 109],[.i .u8 108]] ++(eN c.F.length 2 ++(eN c.K.length 2 ++eN c.L.length 2))
def enc (c:CdS):List (List C):=jLu c ++(c.F.flatMap enF ++(c.K.flatMap enK ++c.L.flatMap enL))
structure ByP (c:CdS):Prop where
 f:Rw fCF Tt c.F
 k:Rw fI Tt c.K
 l:Rw fL5 Tt c.L
 fl:c.F.length<=1000000
 kl:c.K.length<=150000000
 ll:c.L.length<=150000000
structure ByR (c:CdS) (x:ByteArray):Prop where
 e:∃us,bytes (enc c)=some us/\x=⟨us.toArray⟩
def ctBy:Cts:=ctp 32 (kA (aC (aO 1) <|aC aI <|aC aI aN) fun a=>cAdN a.1 a.2.1 a.2.2.1 (AdP a.1 a.2.2.1)) ct0
theorem jZf:Good T ctBy:=by
 unfold ctBy;refine Good.add jJV ?_;rintro a h;exact jZ3 _ h
def rStr:Pz (List Arg):=⟨ByteArray,fun s=>[.pl (.c (.s s))],fun x=>match x with
 |[.pl (.c (.s s))]=>some s
 |_=>none,fun b x e=>by split at e <;> cases e;rfl⟩
def hBy2:Hx:=⟨fun z=>cond (Nat.beq z 4) (eS fCF) (cond (Nat.beq z 5) (eS fL5) eI),false,fun _=>none,false,false⟩
theorem jTI (x:CfS):(jQk x).length=6:=by unfold jQk;simp[jKp]
theorem jTH (x:Int × Int × Int × Int × Int):(jLe x).length=8:=by unfold jLe;simp[jKp]
theorem jTK (e:List C):(enF e).length<=6:=by
 unfold enF
 split
 .exact Nat.le_of_eq (jTI _)
 .simp
theorem jTJ (e:List C):(enK e).length<=8:=by
 unfold enK
 split
 .exact Nat.le_of_eq (jKp _ _)
 .simp
theorem jYZ (e:List C):(enL e).length<=8:=by
 unfold enL
 split
 .exact Nat.le_of_eq (jTH _)
 .simp
theorem jka {f:List C->List (List C)}{m:Nat}(h:∀e,(f e).length<=m):∀l:List (List C),(l.flatMap f).length<=m*l.length
 |[]=>by simp
 |e ::l=>by
  have:=jka h l;have:=h e;rw[List.flatMap_cons,List.length_append,List.length_cons,Nat.mul_succ];omega
theorem jOR {f:List C->List (List C)}{l:List (List C)}{i:Nat}{e:List C}(h:l[i]? =some e):(l.take (i+1)).flatMap f=(l.take i).flatMap f ++f e:=by
 rw[List.take_add_one,h,List.flatMap_append];simp
def jKj (l:List (List C)):Prop:=∀e ∈ l,∃u,byt e=some u
theorem jKj.app {l m:List (List C)}(h:jKj l) (B:jKj m):jKj (l ++m):=fun e he=>(List.mem_append.1 he).elim (h e) (B e)
theorem jKj.flat {f:List C->List (List C)}(h:∀e,jKj (f e)) (l:List (List C)):jKj (l.flatMap f):=fun e he=>by
 obtain⟨x,_,hx⟩:=List.mem_flatMap.1 he;exact h x e hx
theorem jKJ (n:Int) (z:Nat):jKj (eN n z):=fun e he=>by
 obtain⟨j,_,rfl⟩:=List.mem_map.1 he;refine⟨UInt8.ofNat (byN n (z-1-j)).toNat,?_⟩
 have h:0<=byN n (z-1-j)/\byN n (z-1-j)<256:=by
  unfold byN;rw[IntKind.wrap_u8];omega
 show(if 0<=byN n (z-1-j)/\byN n (z-1-j)<256 then _ else none)=_;rw[if_pos h]
theorem jKj.some:∀{l:List (List C)},jKj l->∃us,bytes l=some us
 |[],_=>⟨[],rfl⟩
 |e ::l,h=>by
  obtain⟨u,E⟩:=h e (List.mem_cons_self ..);obtain⟨us,B⟩:=jKj.some (l:=l) fun x hx=>h x (List.mem_cons_of_mem _ hx);exact⟨u ::us,by unfold bytes;rw[E];simp only[B]⟩
theorem jYX (c:CdS):∃us,bytes (enc c)=some us:=by
 refine jKj.some ?_
 have hF:∀e,jKj (enF e):=fun e=>by
  unfold enF
  split
  .exact(jKJ _ _).app ((jKJ _ _).app ((jKJ _ _).app (jKJ _ _)))
  .intro e B;cases B
 have E:∀e,jKj (enK e):=fun e=>by
  unfold enK
  split
  .exact jKJ _ _
  .intro e B;cases B
 have G:∀e,jKj (enL e):=fun e=>by
  unfold enL
  split
  .exact(jKJ _ _).app ((jKJ _ _).app ((jKJ _ _).app ((jKJ _ _).app (jKJ _ _))))
  .intro e B;cases B
 have h2:jKj [[C.i .u8 109],[C.i .u8 108]]:=fun e B=>by
  rcases List.mem_cons.1 B with rfl|B
  .exact⟨109,rfl⟩
  .rw[List.mem_singleton.1 B];exact⟨108,rfl⟩
 exact(h2.app ((jKJ _ _).app ((jKJ _ _).app (jKJ _ _)))).app ((jKj.flat hF _).app ((jKj.flat E _).app (jKj.flat G _)))
def pr1 (c:CdS):List (List C):=jLu c
def pr2 (c:CdS):List (List C):=pr1 c ++c.F.flatMap enF
def pr3 (c:CdS):List (List C):=pr2 c ++c.K.flatMap enK
structure BgI (c:CdS) (pre rows:List (List C)) (en:List C->List (List C)) (c':CdS) (l r':List (List C)) (n i:Int):Prop where
 q1:c'=c/\r'=rows/\n=rows.length
 q2:Ix rows.length i
 q3:l=pre ++(rows.take i.toNat).flatMap en
def bgT (z a b d:Nat):Rl Av:=.cons 1 (tA 1) <| .cons 3 (tL 3) <| .cons a (tR z) <| .cons b tI <| .cons d tI .nil
def bgRt:Rl Rt:=.cons 1 (rX 1 fCd) <| .cons 3 (rX 2 (fO 1)) .nil
def bgL (c:CdS) (pre rows:List (List C)) (en:List C->List (List C)) (z a b d:Nat):Lp:=.iv (bgT z a b d) bgRt (fun q=>BgI c pre rows en q.2.1 q.2.2.1 q.1.2.2.1 q.1.2.2.2.1 q.1.2.2.2.2.1) fun q=>ixM rows.length q.1.2.2.2.2.1
def byH (c:CdS):Hy:=⟨hBy2,[],[],[(6,bgL c (pr1 c) c.F enF 4 28 29 30),(14,bgL c (pr2 c) c.K enK 1 52 53 54),(19,bgL c (pr3 c) c.L enL 5 63 64 65)]⟩
theorem Jad {c:CdS}(h:ByP c):Tot T (mkc rStr b0 (fun x _=>ByR c x) True) 17 [.pl (.ag (fCd.f c))]:=vF (byH c) jZf Tryz.func17 (AdP [[.i .u8 109],[.i .u8 108]] 2/\∀(x:List (List C) × Unit),AdR [[.i .u8 109],[.i .u8 108]] ↑c.F.length 2 x.1->AdP x.1 2/\∀(x_1:List (List C) × Unit),AdR x.1 ↑c.K.length 2 x_1.1->AdP x_1.1 2/\∀(x:List (List C) × Unit),AdR x_1.1 ↑c.L.length 2 x.1->BgI c (pr1 c) c.F enF c x.1 c.F ↑c.F.length 0/\∀(a:(Unit × Unit × List (List C) × Int × Int × Unit) × CdS × List (List C) × Unit),BgI c (pr1 c) c.F enF a.2.1 a.2.2.1 a.1.2.2.1 a.1.2.2.2.1 a.1.2.2.2.2.1->br (decide (a.1.2.2.2.2.1<a.1.2.2.2.1)) (0<=a.1.2.2.2.2.1/\(∃(y:CfS),a.1.2.2.1[Int.toNat a.1.2.2.2.2.1]? =some (fCF.f y))/\∀(x:CfS),a.1.2.2.1[Int.toNat a.1.2.2.2.2.1]? =some (fCF.f x)->AdP a.2.2.1 2/\∀(x_2:List (List C) × Unit),AdR a.2.2.1 x.a 2 x_2.1->AdP x_2.1 1/\∀(x_3:List (List C) × Unit),AdR x_2.1 x.b 1 x_3.1->AdP x_3.1 1/\∀(x_4:List (List C) × Unit),AdR x_3.1 x.c 1 x_4.1->AdP x_4.1 2/\∀(x_5:List (List C) × Unit),AdR x_4.1 x.d 2 x_5.1->BgI c (pr1 c) c.F enF a.2.1 x_5.1 a.1.2.2.1 a.1.2.2.2.1 (wr (a.1.2.2.2.2.1+1))/\ixM c.F.length (wr (a.1.2.2.2.2.1+1))<ixM c.F.length a.1.2.2.2.2.1) (BgI c (pr2 c) c.K enK a.2.1 a.2.2.1 a.2.1.K ↑a.2.1.K.length 0/\∀(a:(Unit × Unit × List (List C) × Int × Int × Unit) × CdS × List (List C) × Unit),BgI c (pr2 c) c.K enK a.2.1 a.2.2.1 a.1.2.2.1 a.1.2.2.2.1 a.1.2.2.2.2.1->br (decide (a.1.2.2.2.2.1<a.1.2.2.2.1)) (0<=a.1.2.2.2.2.1/\(∃(y:Int),a.1.2.2.1[Int.toNat a.1.2.2.2.2.1]? =some [I y])/\∀(x:Int),a.1.2.2.1[Int.toNat a.1.2.2.2.2.1]? =some [I x]->AdP a.2.2.1 8/\∀(x_2:List (List C) × Unit),AdR a.2.2.1 x 8 x_2.1->BgI c (pr2 c) c.K enK a.2.1 x_2.1 a.1.2.2.1 a.1.2.2.2.1 (wr (a.1.2.2.2.2.1+1))/\ixM c.K.length (wr (a.1.2.2.2.2.1+1))<ixM c.K.length a.1.2.2.2.2.1) (BgI c (pr3 c) c.L enL a.2.1 a.2.2.1 a.2.1.L ↑a.2.1.L.length 0/\∀(a:(Unit × Unit × List (List C) × Int × Int × Unit) × CdS × List (List C) × Unit),BgI c (pr3 c) c.L enL a.2.1 a.2.2.1 a.1.2.2.1 a.1.2.2.2.1 a.1.2.2.2.2.1->br (decide (a.1.2.2.2.2.1<a.1.2.2.2.1)) (0<=a.1.2.2.2.2.1/\(∃(y:Int × Int × Int × Int × Int),a.1.2.2.1[Int.toNat a.1.2.2.2.2.1]? =some (fL5.f y))/\∀(x:Int × Int × Int × Int × Int),a.1.2.2.1[Int.toNat a.1.2.2.2.2.1]? =some (fL5.f x)->AdP a.2.2.1 1/\∀(x_2:List (List C) × Unit),AdR a.2.2.1 x.1 1 x_2.1->AdP x_2.1 1/\∀(x_3:List (List C) × Unit),AdR x_2.1 x.2.1 1 x_3.1->AdP x_3.1 2/\∀(x_4:List (List C) × Unit),AdR x_3.1 x.2.2.1 2 x_4.1->AdP x_4.1 2/\∀(x_5:List (List C) × Unit),AdR x_4.1 x.2.2.2.1 2 x_5.1->AdP x_5.1 2/\∀(x_6:List (List C) × Unit),AdR x_5.1 x.2.2.2.2 2 x_6.1->BgI c (pr3 c) c.L enL a.2.1 x_6.1 a.1.2.2.1 a.1.2.2.2.1 (wr (a.1.2.2.2.2.1+1))/\ixM c.L.length (wr (a.1.2.2.2.2.1+1))<ixM c.L.length a.1.2.2.2.2.1) ((∃(y:List UInt8),bytes a.2.2.1=some y)/\∀(us:List UInt8),bytes a.2.2.1=some us->ByR c {data:=us.toArray})))) (by kernel_rfl) (by
 have fl:=h.fl;have kl:=h.kl;have ll:=h.ll;have M:(pr1 c).length=8:=by unfold pr1 jLu;simp[jKp]
 have O:(pr2 c).length<=8+6*c.F.length:=by
  unfold pr2;have:=jka jTK c.F;rw[List.length_append];omega
 have P:(pr3 c).length<=8+6*c.F.length+8*c.K.length:=by
  unfold pr3;have:=jka jTJ c.K;rw[List.length_append];omega
 refine⟨⟨⟨by omega,by omega⟩,by simp⟩,fun⟨a1,_⟩ ⟨e1⟩=>?_⟩
 dsimp only at e1 ⊢
 subst e1;refine⟨⟨⟨by omega,by omega⟩,by rw[List.length_append,jKp];simp⟩,fun⟨a2,_⟩ ⟨e2⟩=>?_⟩
 dsimp only at e2 ⊢
 subst e2;refine⟨⟨⟨by omega,by omega⟩,by rw[List.length_append,List.length_append,jKp,jKp];simp⟩,fun⟨a3,_⟩ ⟨e3⟩=>?_⟩
 dsimp only at e3 ⊢
 subst e3;refine⟨⟨⟨rfl,rfl,rfl⟩,⟨by omega,by omega⟩,by unfold pr1 jLu;simp⟩,fun⟨⟨_,_,r',n,i,_⟩,c',l,_⟩ ⟨⟨u1,u2,u3⟩,q2,q3⟩=>?_⟩
 dsimp only at u1 u2 u3 q2 q3 ⊢
 subst u1 u2 u3;have lo:=q2.lo;have hi:=q2.hi;refine⟨fun hb=>?_,fun hb=>?_⟩
 .have hb':=dt hb
  have nx:=q2.nx (by omega) hb;have w1:(wr (i+1)).toNat=i.toNat+1:=by unfold wr;rw[IntKind.wrap_i64];omega
  have E:l.length<=8+6*i.toNat:=by
   have:=jka jTK (c'.F.take i.toNat);rw[q3,List.length_append];rw[List.length_take]at this;omega
  refine⟨lo,h.f.ati i lo hb',fun x hx=>⟨⟨⟨by omega,by omega⟩,by omega⟩,fun⟨b1,_⟩ ⟨g1⟩=>?_⟩⟩
  dsimp only at g1 ⊢
  subst g1;refine⟨⟨⟨by omega,by omega⟩,by rw[List.length_append,jKp];omega⟩,fun⟨b2,_⟩ ⟨g2⟩=>?_⟩
  dsimp only at g2 ⊢
  subst g2;refine⟨⟨⟨by omega,by omega⟩,by simp only[List.length_append,jKp];omega⟩,fun⟨b3,_⟩ ⟨g3⟩=>?_⟩
  dsimp only at g3 ⊢
  subst g3;refine⟨⟨⟨by omega,by omega⟩,by simp only[List.length_append,jKp];omega⟩,fun⟨b4,_⟩ ⟨g4⟩=>⟨⟨⟨rfl,rfl,rfl⟩,nx.1,?_⟩,nx.2⟩⟩
  dsimp only at g4 ⊢
  subst g4;rw[w1,jOR hx,q3];simp only[List.append_assoc];rfl
 .have hb:=df hb
  have B:c'.F.take i.toNat=c'.F:=List.take_of_length_le (by omega);rw[B]at q3;refine⟨⟨⟨rfl,rfl,rfl⟩,⟨by omega,by omega⟩,by rw[q3];simp[pr2]⟩,fun⟨⟨_,_,r',n,i,_⟩,c',l,_⟩ ⟨⟨u1,u2,u3⟩,q2,q3⟩=>?_⟩
  dsimp only at u1 u2 u3 q2 q3 ⊢
  subst u1 u2 u3;have lo:=q2.lo;have hi:=q2.hi;refine⟨fun hb=>?_,fun hb=>?_⟩
  .have hb':=dt hb
   have nx:=q2.nx (by omega) hb;have w1:(wr (i+1)).toNat=i.toNat+1:=by unfold wr;rw[IntKind.wrap_i64];omega
   have E:l.length<=8+6*c'.F.length+8*i.toNat:=by
    have:=jka jTJ (c'.K.take i.toNat);rw[q3,List.length_append];rw[List.length_take]at this;omega
   refine⟨lo,h.k.ati i lo hb',fun x hx=>⟨⟨⟨by omega,by omega⟩,by omega⟩,fun⟨b1,_⟩ ⟨g1⟩=>⟨⟨⟨rfl,rfl,rfl⟩,nx.1,?_⟩,nx.2⟩⟩⟩
   dsimp only at g1 ⊢
   subst g1;rw[w1,jOR hx,q3];simp only[List.append_assoc];rfl
  .have hb:=df hb
   have B:c'.K.take i.toNat=c'.K:=List.take_of_length_le (by omega);rw[B]at q3;refine⟨⟨⟨rfl,rfl,rfl⟩,⟨by omega,by omega⟩,by rw[q3];simp[pr3]⟩,fun⟨⟨_,_,r',n,i,_⟩,c',l,_⟩ ⟨⟨u1,u2,u3⟩,q2,q3⟩=>?_⟩
   dsimp only at u1 u2 u3 q2 q3 ⊢
   subst u1 u2 u3;have lo:=q2.lo;have hi:=q2.hi;refine⟨fun hb=>?_,fun hb=>?_⟩
   .have hb':=dt hb
    have nx:=q2.nx (by omega) hb;have w1:(wr (i+1)).toNat=i.toNat+1:=by unfold wr;rw[IntKind.wrap_i64];omega
    have E:l.length<=8+6*c'.F.length+8*c'.K.length+8*i.toNat:=by
     have:=jka jYZ (c'.L.take i.toNat);rw[q3,List.length_append];rw[List.length_take]at this;omega
    refine⟨lo,h.l.ati i lo hb',fun x hx=>⟨⟨⟨by omega,by omega⟩,by omega⟩,fun⟨b1,_⟩ ⟨g1⟩=>?_⟩⟩
    dsimp only at g1 ⊢
    subst g1;refine⟨⟨⟨by omega,by omega⟩,by rw[List.length_append,jKp];omega⟩,fun⟨b2,_⟩ ⟨g2⟩=>?_⟩
    dsimp only at g2 ⊢
    subst g2;refine⟨⟨⟨by omega,by omega⟩,by simp only[List.length_append,jKp];omega⟩,fun⟨b3,_⟩ ⟨g3⟩=>?_⟩
    dsimp only at g3 ⊢
    subst g3;refine⟨⟨⟨by omega,by omega⟩,by simp only[List.length_append,jKp];omega⟩,fun⟨b4,_⟩ ⟨g4⟩=>?_⟩
    dsimp only at g4 ⊢
    subst g4;refine⟨⟨⟨by omega,by omega⟩,by simp only[List.length_append,jKp];omega⟩,fun⟨b5,_⟩ ⟨g5⟩=>⟨⟨⟨rfl,rfl,rfl⟩,nx.1,?_⟩,nx.2⟩⟩
    dsimp only at g5 ⊢
    subst g5;rw[w1,jOR hx,q3];simp only[List.append_assoc];rfl
   .have hb:=df hb
    have B:c'.L.take i.toNat=c'.L:=List.take_of_length_le (by omega);rw[B]at q3
    have J:l=enc c':=by
     rw[q3];unfold pr3 pr2 pr1 enc;simp only[List.append_assoc]
    obtain⟨us,G⟩:=jYX c';rw[J]
    exact⟨⟨us,G⟩,fun vs hvs=>⟨⟨vs,hvs,rfl⟩⟩⟩)
end V
end Go.Proofs.YtnhbcdnmfafbiaaGreatDoor
