import Derived.Test.YtnhbcdnmfafbiaaGreatDoorM11
import Derived.Test.YtnhbcdnmfafbiaaGreatDoorM33
set_option linter.unusedVariables false
set_option linter.unusedSimpArgs false
set_option maxHeartbeats 20000000
set_option maxRecDepth 100000
namespace Go.Proofs.YtnhbcdnmfafbiaaGreatDoor
namespace V
open Go.Proofs
structure Rg where
 (b0:Bool) (n0:Int) (b1:Bool) (n1:Int) (b2:Bool) (n2:Int) (b3:Bool) (n3:Int) (b4:Bool) (n4:Int) (b5:Bool) (n5:Int) (b6:Bool) (n6:Int) (b7:Bool) (n7:Int)
structure Ff where
 (b:Int)
 (s:List (List C))
def fF:Pz (List C):=⟨Ff,fun f=>[I f.b,.r true 2 f.s],fun l=>match l with
 |[.i .i64 b,.r true 2 s]=>some ⟨b,s⟩
 |_=>none,fun b x e=>by split at e <;> cases e;rfl⟩
structure jMP (f:Ff):Prop where
 v:Rw fV vIn f.s
 n:f.s.length<=6000
structure Lu where
 (o r x y:Int)
def fU:Pz (List C):=⟨Lu,fun l=>[I l.o,I l.r,I l.x,I l.y,.ui],fun l=>match l with
 |[.i .i64 o,.i .i64 r,.i .i64 x,.i .i64 y,.ui]=>some ⟨o,r,x,y⟩
 |_=>none,fun b x e=>by split at e <;> cases e;rfl⟩
structure jKm (l:Lu):Prop where
 x:sm l.x
structure Ru where
 (F K L:List (List C))
 (dp:Int)
 (inn:List (List C))
 (nx:Int)
 (g:Rg)
 (fr:List (List C))
 (hp:Hp)
 (gr er vl:Int)
 (out:List (List C))
 (st rd:Int)
def rgU (l:List C):Option (Rg × List C):=match l with
 | .b u0 :: .i .i64 v0 :: .b u1 :: .i .i64 v1 :: .b u2 :: .i .i64 v2 :: .b u3 :: .i .i64 v3 :: .b u4 :: .i .i64 v4 :: .b u5 :: .i .i64 v5 :: .b u6 :: .i .i64 v6 :: .b u7 :: .i .i64 v7 ::l=>some (⟨u0,v0,u1,v1,u2,v2,u3,v3,u4,v4,u5,v5,u6,v6,u7,v7⟩,l)
 |_=>none
def rgC (g:Rg):List C:=[.b g.b0,I g.n0,.b g.b1,I g.n1,.b g.b2,I g.n2,.b g.b3,I g.n3,.b g.b4,I g.n4,.b g.b5,I g.n5,.b g.b6,I g.n6,.b g.b7,I g.n7]
theorem jVU {l B:List C}{g:Rg}(h:rgU l=some (g,B)):l=rgC g ++B:=by
 unfold rgU at h
 split at h
 .cases h;rfl
 .cases h
def fR:Pz (List C):=⟨Ru,fun r=>[.r false 4 r.F,.r false 1 r.K,.r false 5 r.L,I r.dp,.r true 1 r.inn,I r.nx,.b r.g.b0,I r.g.n0,.b r.g.b1,I r.g.n1,.b r.g.b2,I r.g.n2,.b r.g.b3,I r.g.n3,.b r.g.b4,I r.g.n4,.b r.g.b5,I r.g.n5,.b r.g.b6,I r.g.n6,.b r.g.b7,I r.g.n7,.r true 2 r.fr,I r.hp.ha,I r.hp.us,I r.hp.gc,.r true 5 r.hp.bl,.r true 1 r.hp.fr,I r.gr,I r.er,.ui,I r.vl,.r true 1 r.out,I r.st,I r.rd],fun l=>match l with
 | .r false 4 F :: .r false 1 K :: .r false 5 L :: .i .i64 dp :: .r true 1 inn :: .i .i64 nx ::l1=>match rgU l1 with
   |some (g,l2)=>match l2 with
    |[.r true 2 fr,.i .i64 ha,.i .i64 us,.i .i64 gc,.r true 5 bl,.r true 1 fe,.i .i64 gr,.i .i64 er,.ui,.i .i64 vl,.r true 1 ou,.i .i64 st,.i .i64 rd]=>some ⟨F,K,L,dp,inn,nx,g,fr,⟨ha,us,gc,bl,fe⟩,gr,er,vl,ou,st,rd⟩
    |_=>none
   |none=>none
 |_=>none,fun b x e=>by
  split at e
  .split at e
   .rename_i h
    split at e
    .cases e;rw[jVU h];rfl
    .cases e
   .cases e
  .cases e⟩
def bR:Pz (List (List C)):=bS fR
def pR (r:Ru):Arg:=.bp (fR.f r)
def qR (r:Ru):Arg:=.br (fR.f r)
def pU (l:Lu):Arg:=.pl (.ag (fU.f l))
structure jJ0 (g:Rg):Prop where
 (q0:inI g.n0) (q1:inI g.n1) (q2:inI g.n2) (q3:inI g.n3) (q4:inI g.n4) (q5:inI g.n5) (q6:inI g.n6) (q7:inI g.n7)
structure jJG (r:Ru) (b:Nat):Prop where
 F:Rw fCF jKn r.F
 L:Rw fU jKm r.L
 K:Rw fI inI r.K
 g:jJ0 r.g
 vl:inI r.vl
 i:Rw fI (fun _=>True) r.inn
 il:r.inn.length<=1000000
 fr:Rw fF jMP r.fr
 dp:r.dp<=100000
 fl:r.fr.length<=100001
 hp:∃n,jJJ r.hp n 0/\((n+b:Nat):Int)<=r.st
 rd:0<=r.rd/\r.rd<=1000000
 st:0<=r.st/\r.st<=100000
 o:Rw fI (fun _=>True) r.out
 ol:r.out.length<=1000
structure StR (k:Nat) (r r':Ru):Prop where
 ok:∀b,jJG r (b+k)->jJG r' b
 st:r'.st=r.st
 gr:r'.gr=r.gr
def hM:Hx:=⟨fun k=>cond (Nat.beq k 22002) (eS fF) (cond (Nat.beq k 26005) (eS fB) (cond (Nat.beq k 2002) (eS fV) (cond (Nat.beq k 1002) (eS fV) (cond (Nat.beq k 5) (eS fU) (cond (Nat.beq k 4) (eS fCF) eI))))),true,fun _=>none,false,false⟩
def hm:Hy:=⟨hM,[],[],[]⟩
theorem jTF {x y:CfS}(e:fCF.f x=fCF.f y):x=y:=by
 obtain⟨a,b,c,d⟩:=x;obtain⟨B,b',c',d'⟩:=y;simp only[fCF,I,List.cons.injEq,C.i.injEq,true_and,and_true]at e;obtain⟨rfl,rfl,rfl,rfl⟩:=e;rfl
theorem jYQ {x y:Lu}(e:fU.f x=fU.f y):x=y:=by
 obtain⟨a,b,c,d⟩:=x;obtain⟨B,b',c',d'⟩:=y;simp only[fU,I,List.cons.injEq,C.i.injEq,true_and,and_true]at e;obtain⟨rfl,rfl,rfl,rfl⟩:=e;rfl
theorem jMI {x y:Ff}(e:fF.f x=fF.f y):x=y:=by
 obtain⟨a,b⟩:=x;obtain⟨B,b'⟩:=y;simp only[fF,I,List.cons.injEq,C.i.injEq,C.r.injEq,true_and,and_true]at e;obtain⟨rfl,rfl⟩:=e;rfl
def fLp:Pz (List C):=⟨{l:LnS // isP l.p=true},fun a=>fL.f a.1,fun l=>match fL.un l with
 |some l=>if h:isP l.p=true then some ⟨l,h⟩ else none
 |none=>none,fun b x e=>by
  split at e
  .rename_i h
   split at e
   .cases e;rw[fL.ok _ _ h]
   .cases e
  .cases e⟩
def LnS.u (l:LnS):Lu:=⟨l.o,l.r,l.x,l.y⟩
theorem jZu {c:CdS}(h:Rw fCF jKn c.F) (n:Int):Tot T (mkc (rS fCF) b0 (fun f _=>jKn f) True) 108 [.pl (.ag (fCd.f c)),pI n]:=vF hm jJV Tryz.func108 (br (decide (n<0)) (true=true/\jKn {a:=0,b:=0,c:=0,d:=0}) (br (decide (n>=↑c.F.length)) (jKn {a:=0,b:=0,c:=0,d:=0}) (0<=n/\(∃(y:CfS),c.F[n.toNat]? =some (fCF.f y))/\∀(x:CfS),c.F[n.toNat]? =some (fCF.f x)->jKn x))) (by kernel_rfl) (by
 have z:jKn ⟨0,0,0,0⟩:=⟨jJH (by simp) (by simp),jJH (by simp) (by simp),jJH (by simp) (by simp),by simp⟩
 refine⟨fun _=>⟨rfl,z⟩,fun h0=>⟨fun _=>z,fun B=>?_⟩⟩;have h0:=df h0;have B:=df B;refine⟨by omega,h.at (by omega),fun x hx=>?_⟩;obtain⟨y,E,hy⟩:=h.of hx
 rw[jTF E];exact hy)
theorem jZt {c:CdS}(h:Rw fU jKm c.L) (n:Int):Tot T (mkc (rS fLp) b0 (fun l _=>jKm l.1.u) True) 109 [.pl (.ag (fCd.f c)),pI n]:=vF hm jJV Tryz.func109 (br (decide (n<0)) (true=true/\jKm {o:=0,r:=0,x:=0,y:=0}) (br (decide (n>=↑c.L.length)) (jKm {o:=0,r:=0,x:=0,y:=0}) (0<=n/\(∃(y:Lu),c.L[n.toNat]? =some (fU.f y))/\∀(x:Lu),c.L[n.toNat]? =some (fU.f x)->jKm x))) (by kernel_rfl) (by
 have z:jKm ⟨0,0,0,0⟩:=⟨jJH (by simp) (by simp)⟩
 refine⟨fun _=>⟨rfl,z⟩,fun h0=>⟨fun _=>z,fun B=>?_⟩⟩;have h0:=df h0;have B:=df B;refine⟨by omega,h.at (by omega),fun x hx=>?_⟩;obtain⟨y,E,hy⟩:=h.of hx
 rw[jYQ E];exact hy)
theorem LnS.wa {l:LnS}(h:isP l.p=true):WA (.ag (fL.f l)) (.ag (fU.f l.u)):=fun w A mo fp v hv=>by
 obtain⟨o,r,x,y,p⟩:=l;obtain⟨arr,e,q⟩:∃arr:Array Value,v= .agg arr/\RL w A (fL.f ⟨o,r,x,y,p⟩) arr.toList []:=hv;refine⟨arr,e,q.wl (.cons (.rfl _) (.cons (.rfl _) (.cons (.rfl _) (.cons (.rfl _) (.cons ?_ .nil)))))⟩;rcases jTe h with e|e <;> dsimp only at e ⊢ <;> subst e
 .exact .j _
 .exact .rfl _
theorem jZs {c:CdS}(h:Rw fU jKm c.L) (n:Int):Tot T (mkc (rS fU) b0 (fun l _=>jKm l) True) 109 [.pl (.ag (fCd.f c)),pI n]:=by
 obtain⟨⟨l,u⟩,p,d⟩:=jZt h n;exact⟨(l.1.u,u),p,Does.wkr d (LnS.wa l.2)⟩
theorem jZw {c:CdS}(h:Rw fI inI c.K) (n:Int):Tot T (mkc rI b0 (fun n _=>inI n) True) 190 [.pl (.ag (fCd.f c)),pI n]:=vF hm jJV Tryz.func190 (br (decide (n<0)) (true=true/\inI 0) (br (decide (n>=↑c.K.length)) (inI 0) (0<=n/\(∃(y:Int),c.K[n.toNat]? =some [I y])/\∀(x:Int),c.K[n.toNat]? =some [I x]->inI x))) (by kernel_rfl) (by
 have z:inI 0:=⟨by omega,by omega⟩
 refine⟨fun _=>⟨rfl,z⟩,fun h0=>⟨fun _=>z,fun B=>?_⟩⟩;have h0:=df h0;have B:=df B
 exact⟨by omega,h.at (by omega),fun x hx=>h.int hx⟩)
theorem and7 (n:Int):0<=wr ↑(BitVec.ofInt 64 n &&& BitVec.ofInt 64 7).toNat/\wr ↑(BitVec.ofInt 64 n &&& BitVec.ofInt 64 7).toNat<↑8:=by
 have h:(BitVec.ofInt 64 n &&& BitVec.ofInt 64 7).toNat<=7:=by
  rw[BitVec.toNat_and];exact Nat.le_trans Nat.and_le_right (by decide)
 rw[jKX (by omega) (by omega)];omega
theorem jV6 {r:Ru}(B:jJ0 r.g) (n:Int):Tot T (mkc (rS fV) b0 (fun v _=>vIn v) True) 150 [qR r,pI n]:=vF hm jJV Tryz.func150 ((0<=wr ↑(BitVec.ofInt 64 n &&& BitVec.ofInt 64 7).toNat/\wr ↑(BitVec.ofInt 64 n &&& BitVec.ofInt 64 7).toNat<↑8)/\(((((((True/\(wr ↑(BitVec.ofInt 64 n &&& BitVec.ofInt 64 7).toNat=0->vIn {b:=r.g.b0,n:=r.g.n0}))/\(wr ↑(BitVec.ofInt 64 n &&& BitVec.ofInt 64 7).toNat=1->vIn {b:=r.g.b1,n:=r.g.n1}))/\(wr ↑(BitVec.ofInt 64 n &&& BitVec.ofInt 64 7).toNat=2->vIn {b:=r.g.b2,n:=r.g.n2}))/\(wr ↑(BitVec.ofInt 64 n &&& BitVec.ofInt 64 7).toNat=3->vIn {b:=r.g.b3,n:=r.g.n3}))/\(wr ↑(BitVec.ofInt 64 n &&& BitVec.ofInt 64 7).toNat=4->vIn {b:=r.g.b4,n:=r.g.n4}))/\(wr ↑(BitVec.ofInt 64 n &&& BitVec.ofInt 64 7).toNat=5->vIn {b:=r.g.b5,n:=r.g.n5}))/\(wr ↑(BitVec.ofInt 64 n &&& BitVec.ofInt 64 7).toNat=6->vIn {b:=r.g.b6,n:=r.g.n6}))/\(wr ↑(BitVec.ofInt 64 n &&& BitVec.ofInt 64 7).toNat=7->vIn {b:=r.g.b7,n:=r.g.n7})) (by kernel_rfl) (by
 refine⟨and7 n,?_⟩
 repeat' first|trivial|(intro _;exact⟨B.1⟩)|(intro _;exact⟨B.2⟩)|(intro _;exact⟨B.3⟩)|(intro _;exact⟨B.4⟩)|(intro _;exact⟨B.5⟩)|(intro _;exact⟨B.6⟩)|(intro _;exact⟨B.7⟩)|(intro _;exact⟨B.8⟩)|refine⟨?_,?_⟩)
structure GR (r:Ru) (v:Va) (r':Ru):Prop where
 e:∃g,r'={r with g:=g}/\(vIn v->jJ0 r.g->jJ0 g)
theorem jVw (r:Ru) (n:Int) (v:Va):Tot T (mkc r0 bR (fun _ r'=>GR r v r') True) 149 [pR r,pI n,pV v]:=vN hm jJV Tryz.func149 ((0<=wr ↑(BitVec.ofInt 64 n &&& BitVec.ofInt 64 7).toNat/\wr ↑(BitVec.ofInt 64 n &&& BitVec.ofInt 64 7).toNat<↑8)/\(((((((True/\(wr ↑(BitVec.ofInt 64 n &&& BitVec.ofInt 64 7).toNat=0->GR r v {F:=r.F,K:=r.K,L:=r.L,dp:=r.dp,inn:=r.inn,nx:=r.nx,g:={b0:=v.b,n0:=v.n,b1:=r.g.b1,n1:=r.g.n1,b2:=r.g.b2,n2:=r.g.n2,b3:=r.g.b3,n3:=r.g.n3,b4:=r.g.b4,n4:=r.g.n4,b5:=r.g.b5,n5:=r.g.n5,b6:=r.g.b6,n6:=r.g.n6,b7:=r.g.b7,n7:=r.g.n7},fr:=r.fr,hp:=r.hp,gr:=r.gr,er:=r.er,vl:=r.vl,out:=r.out,st:=r.st,rd:=r.rd}))/\(wr ↑(BitVec.ofInt 64 n &&& BitVec.ofInt 64 7).toNat=1->GR r v {F:=r.F,K:=r.K,L:=r.L,dp:=r.dp,inn:=r.inn,nx:=r.nx,g:={b0:=r.g.b0,n0:=r.g.n0,b1:=v.b,n1:=v.n,b2:=r.g.b2,n2:=r.g.n2,b3:=r.g.b3,n3:=r.g.n3,b4:=r.g.b4,n4:=r.g.n4,b5:=r.g.b5,n5:=r.g.n5,b6:=r.g.b6,n6:=r.g.n6,b7:=r.g.b7,n7:=r.g.n7},fr:=r.fr,hp:=r.hp,gr:=r.gr,er:=r.er,vl:=r.vl,out:=r.out,st:=r.st,rd:=r.rd}))/\(wr ↑(BitVec.ofInt 64 n &&& BitVec.ofInt 64 7).toNat=2->GR r v {F:=r.F,K:=r.K,L:=r.L,dp:=r.dp,inn:=r.inn,nx:=r.nx,g:={b0:=r.g.b0,n0:=r.g.n0,b1:=r.g.b1,n1:=r.g.n1,b2:=v.b,n2:=v.n,b3:=r.g.b3,n3:=r.g.n3,b4:=r.g.b4,n4:=r.g.n4,b5:=r.g.b5,n5:=r.g.n5,b6:=r.g.b6,n6:=r.g.n6,b7:=r.g.b7,n7:=r.g.n7},fr:=r.fr,hp:=r.hp,gr:=r.gr,er:=r.er,vl:=r.vl,out:=r.out,st:=r.st,rd:=r.rd}))/\(wr ↑(BitVec.ofInt 64 n &&& BitVec.ofInt 64 7).toNat=3->GR r v {F:=r.F,K:=r.K,L:=r.L,dp:=r.dp,inn:=r.inn,nx:=r.nx,g:={b0:=r.g.b0,n0:=r.g.n0,b1:=r.g.b1,n1:=r.g.n1,b2:=r.g.b2,n2:=r.g.n2,b3:=v.b,n3:=v.n,b4:=r.g.b4,n4:=r.g.n4,b5:=r.g.b5,n5:=r.g.n5,b6:=r.g.b6,n6:=r.g.n6,b7:=r.g.b7,n7:=r.g.n7},fr:=r.fr,hp:=r.hp,gr:=r.gr,er:=r.er,vl:=r.vl,out:=r.out,st:=r.st,rd:=r.rd}))/\(wr ↑(BitVec.ofInt 64 n &&& BitVec.ofInt 64 7).toNat=4->GR r v {F:=r.F,K:=r.K,L:=r.L,dp:=r.dp,inn:=r.inn,nx:=r.nx,g:={b0:=r.g.b0,n0:=r.g.n0,b1:=r.g.b1,n1:=r.g.n1,b2:=r.g.b2,n2:=r.g.n2,b3:=r.g.b3,n3:=r.g.n3,b4:=v.b,n4:=v.n,b5:=r.g.b5,n5:=r.g.n5,b6:=r.g.b6,n6:=r.g.n6,b7:=r.g.b7,n7:=r.g.n7},fr:=r.fr,hp:=r.hp,gr:=r.gr,er:=r.er,vl:=r.vl,out:=r.out,st:=r.st,rd:=r.rd}))/\(wr ↑(BitVec.ofInt 64 n &&& BitVec.ofInt 64 7).toNat=5->GR r v {F:=r.F,K:=r.K,L:=r.L,dp:=r.dp,inn:=r.inn,nx:=r.nx,g:={b0:=r.g.b0,n0:=r.g.n0,b1:=r.g.b1,n1:=r.g.n1,b2:=r.g.b2,n2:=r.g.n2,b3:=r.g.b3,n3:=r.g.n3,b4:=r.g.b4,n4:=r.g.n4,b5:=v.b,n5:=v.n,b6:=r.g.b6,n6:=r.g.n6,b7:=r.g.b7,n7:=r.g.n7},fr:=r.fr,hp:=r.hp,gr:=r.gr,er:=r.er,vl:=r.vl,out:=r.out,st:=r.st,rd:=r.rd}))/\(wr ↑(BitVec.ofInt 64 n &&& BitVec.ofInt 64 7).toNat=6->GR r v {F:=r.F,K:=r.K,L:=r.L,dp:=r.dp,inn:=r.inn,nx:=r.nx,g:={b0:=r.g.b0,n0:=r.g.n0,b1:=r.g.b1,n1:=r.g.n1,b2:=r.g.b2,n2:=r.g.n2,b3:=r.g.b3,n3:=r.g.n3,b4:=r.g.b4,n4:=r.g.n4,b5:=r.g.b5,n5:=r.g.n5,b6:=v.b,n6:=v.n,b7:=r.g.b7,n7:=r.g.n7},fr:=r.fr,hp:=r.hp,gr:=r.gr,er:=r.er,vl:=r.vl,out:=r.out,st:=r.st,rd:=r.rd}))/\(wr ↑(BitVec.ofInt 64 n &&& BitVec.ofInt 64 7).toNat=7->GR r v {F:=r.F,K:=r.K,L:=r.L,dp:=r.dp,inn:=r.inn,nx:=r.nx,g:={b0:=r.g.b0,n0:=r.g.n0,b1:=r.g.b1,n1:=r.g.n1,b2:=r.g.b2,n2:=r.g.n2,b3:=r.g.b3,n3:=r.g.n3,b4:=r.g.b4,n4:=r.g.n4,b5:=r.g.b5,n5:=r.g.n5,b6:=r.g.b6,n6:=r.g.n6,b7:=v.b,n7:=v.n},fr:=r.fr,hp:=r.hp,gr:=r.gr,er:=r.er,vl:=r.vl,out:=r.out,st:=r.st,rd:=r.rd})) (by kernel_rfl) (by
 refine⟨and7 n,?_⟩
 repeat' first|trivial|(intro _;exact⟨⟨_,rfl,fun h q=>⟨h.1,q.2,q.3,q.4,q.5,q.6,q.7,q.8⟩⟩⟩)|(intro _;exact⟨⟨_,rfl,fun h q=>⟨q.1,h.1,q.3,q.4,q.5,q.6,q.7,q.8⟩⟩⟩)|(intro _;exact⟨⟨_,rfl,fun h q=>⟨q.1,q.2,h.1,q.4,q.5,q.6,q.7,q.8⟩⟩⟩)|(intro _;exact⟨⟨_,rfl,fun h q=>⟨q.1,q.2,q.3,h.1,q.5,q.6,q.7,q.8⟩⟩⟩)|(intro _;exact⟨⟨_,rfl,fun h q=>⟨q.1,q.2,q.3,q.4,h.1,q.6,q.7,q.8⟩⟩⟩)|(intro _;exact⟨⟨_,rfl,fun h q=>⟨q.1,q.2,q.3,q.4,q.5,h.1,q.7,q.8⟩⟩⟩)|(intro _;exact⟨⟨_,rfl,fun h q=>⟨q.1,q.2,q.3,q.4,q.5,q.6,h.1,q.8⟩⟩⟩)|(intro _;exact⟨⟨_,rfl,fun h q=>⟨q.1,q.2,q.3,q.4,q.5,q.6,q.7,h.1⟩⟩⟩)|refine⟨?_,?_⟩)
def jP5 (xs:List Arg):Option Ct:=match xs with
 |[.rv [.r false 4 F,.r false 1 K,.r false 5 L] false,.pl (.c (.i .i64 n))]=>some (mkc (rS fCF) b0 (fun f _=>jKn f) (Rw fCF jKn F))
 |_=>none
theorem jX3 (xs:List Arg) (k:Ct) (h:jP5 xs=some k) (hp:k.pr):Tot T k 108 xs:=by
 unfold jP5 at h
 split at h
 .rename_i F K L n
  cases h;obtain⟨x,B,h2⟩:=jZu (c:=⟨F,K,L⟩) hp n;exact⟨x,B,Does.rvp (ns:=[n]) h2 rfl⟩
 .cases h
def jQF:Cts:=ctp 108 jP5 <|ctp 109 (kA (aC (aG fCd) <|aC aI aN) fun a=>mkc (rS fU) b0 (fun l _=>jKm l) (Rw fU jKm a.1.L)) <|ctp 190 (kA (aC (aG fCd) <|aC aI aN) fun a=>mkc rI b0 (fun n _=>inI n) (Rw fI inI a.1.K)) <|ctp 150 (kA (aC (aQ fR) <|aC aI aN) fun a=>mkc (rS fV) b0 (fun v _=>vIn v) (jJ0 a.1.g)) <|ctp 149 (kA (aC (aP fR) <|aC aI <|aC (aG fV) aN) fun a=>mkc r0 bR (fun _ r'=>GR a.1 a.2.2.1 r') True) jQH
theorem jL8:Good T jQF:=by
 unfold jQF;refine jKu (Good.add (Good.add (Good.add (Good.add jTW ?_) ?_) ?_) ?_) jX3
 .rintro a -;exact jVw _ _ _
 .rintro a h;exact jV6 h _
 .rintro a h;exact jZw h _
 .rintro a h;exact jZs h _
end V
end Go.Proofs.YtnhbcdnmfafbiaaGreatDoor
