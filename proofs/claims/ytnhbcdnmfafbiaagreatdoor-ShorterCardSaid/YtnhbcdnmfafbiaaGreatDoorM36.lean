import Derived.Test.YtnhbcdnmfafbiaaGreatDoorM34
import Derived.Test.YtnhbcdnmfafbiaaGreatDoorM35
set_option linter.unusedVariables false
set_option linter.unusedSimpArgs false
set_option maxHeartbeats 20000000
set_option maxRecDepth 100000
namespace Go.Proofs.YtnhbcdnmfafbiaaGreatDoor
namespace V
open Go.Proofs
def jG (l:List C):Option (Ru × Int):=match l[30]? with
 |some (C.i .i64 n)=>match fR.un (l.set 30 .ui) with
  |some r=>some (r,n)
  |none=>none
 |_=>none
def fR0:Pz (List C):=⟨Ru × Int,fun a=>(fR.f a.1).set 30 (I a.2),jG,fun b x e=>by
    unfold jG at e
    split at e
    .rename_i n hn
     split at e
     .rename_i r hr
      cases e;have h:=fR.ok _ _ hr;show b=(fR.f r).set 30 (I n);rw[<-h,List.set_set];have hl:=(List.getElem?_eq_some_iff.1 hn).1;apply List.ext_getElem?;intro i
      by_cases e:30=i
      .subst e;rw[List.getElem?_set_self hl,hn];rfl
      .rw[List.getElem?_set_ne e]
     .cases e
    .cases e⟩
theorem jJG.up {r:Ru}{b b':Nat}(h:jJG r b) (E:b'<=b):jJG r b':={h with hp:=by obtain⟨n,B,h2⟩:=h.hp;exact⟨n,B,by omega⟩}
theorem StR.refl (k:Nat) (r:Ru):StR k r r:=⟨fun b h=>h.up (by omega),rfl,rfl⟩
theorem StR.trans {k k':Nat}{r B E:Ru}(a:StR k r B) (b:StR k' B E):StR (k+k') r E:=⟨fun c h=>b.ok c (a.ok (c+k') (h.up (by omega))),b.st.trans a.st,b.gr.trans a.gr⟩
theorem StR.up {k k':Nat}{r r':Ru}(a:StR k r r') (h:k<=k'):StR k' r r':=⟨fun c q=>a.ok c (q.up (by omega)),a.st,a.gr⟩
theorem GR.st {r r':Ru}{v:Va}(h:GR r v r') (B:vIn v):StR 0 r r':=by
 obtain⟨g,rfl,E⟩:=h.e;exact⟨fun b q=>{q with g:=E B q.g,hp:=q.hp},rfl,rfl⟩
def rg0:Rg:=⟨false,0,false,0,false,0,false,0,false,0,false,0,false,0,false,0⟩
theorem jO4:jJ0 rg0:=by constructor <;> exact⟨by simp[rg0],by simp[rg0]⟩
theorem jJG.endd {r:Ru}{b:Nat}(h:jJG r b) (e:Int):jJG {F:=[],K:=[],L:=[],dp:=r.dp,inn:=[],nx:=r.nx,g:=rg0,fr:=[],hp:={ha:=0,us:=r.hp.us,gc:=r.hp.gc,bl:=[],fr:=[]},gr:=r.gr,er:=e,vl:=r.vl,out:=r.out,st:=r.st,rd:=r.rd} b:=by
 obtain⟨n,B,h2⟩:=h.hp;exact⟨Rw.nil,Rw.nil,Rw.nil,jO4,h.vl,Rw.nil,by simp,Rw.nil,h.dp,by simp,⟨0,⟨Rw.nil,Rw.nil,by simp,by simp⟩,by dsimp only;omega⟩,h.rd,h.st,h.o,h.ol⟩
theorem jV0 (r:Ru) (e:Int):Tot T (mkc r0 bR (fun _ r'=>StR 0 r r') True) 151 [pR r,pI e,.pl (.c .ui)]:=vN hm jL8 Tryz.func151 (StR 0 r {F:=[],K:=[],L:=[],dp:=r.dp,inn:=[],nx:=r.nx,g:={b0:=false,n0:=0,b1:=false,n1:=0,b2:=false,n2:=0,b3:=false,n3:=0,b4:=false,n4:=0,b5:=false,n5:=0,b6:=false,n6:=0,b7:=false,n7:=0},fr:=[],hp:={ha:=0,us:=r.hp.us,gc:=r.hp.gc,bl:=[],fr:=[]},gr:=r.gr,er:=e,vl:=r.vl,out:=r.out,st:=r.st,rd:=r.rd}) (by kernel_rfl) ⟨fun b h=>h.endd _,rfl,rfl⟩
theorem jV2 (r:Ru) (e:Int):Tot T (mkc r0 (bS fR0) (fun _ x=>StR 0 r x.1) True) 151 [pR r,pI e,pI 0]:=vN hm jL8 Tryz.func151 (StR 0 r {F:=[],K:=[],L:=[],dp:=r.dp,inn:=[],nx:=r.nx,g:={b0:=false,n0:=0,b1:=false,n1:=0,b2:=false,n2:=0,b3:=false,n3:=0,b4:=false,n4:=0,b5:=false,n5:=0,b6:=false,n6:=0,b7:=false,n7:=0},fr:=[],hp:={ha:=0,us:=r.hp.us,gc:=r.hp.gc,bl:=[],fr:=[]},gr:=r.gr,er:=e,vl:=r.vl,out:=r.out,st:=r.st,rd:=r.rd}) (by kernel_rfl) ⟨fun b h=>h.endd _,rfl,rfl⟩
theorem jRk:∀(l:List C) (i:Nat) (n:Int),l[i]? =some .ui->Wl (l.set i (.i .i64 n)) l
 |[],i,n,h=>by simp at h
 |c ::l,0,n,h=>by
  simp at h;subst h;exact .cons (.j n) (Wl.refl l)
 |c ::l,i+1,n,h=>.cons (.rfl c) (jRk l i n (by simpa using h))
theorem jV1 (r:Ru) (e:Int):Tot T (mkc r0 bR (fun _ r'=>StR 0 r r') True) 151 [pR r,pI e,pI 0]:=by
 obtain⟨⟨u,x⟩,p,d⟩:=jV2 r e;exact⟨(u,x.1),p,Does.wkb d (jRk (fR.f x.1) 30 _ rfl)⟩
theorem jVe {r:Ru}{b:Nat}(h:jJG r b) (n:Int):Tot T (mkc (rS fV) b0 (fun v _=>vIn v) True) 191 [qR r,pI n]:=vF hm jL8 Tryz.func191 (br (decide (wr (↑r.fr.length-1)<0)) (true=true/\vIn {b:=false,n:=0}) (br (decide (n<0)) (true=true/\vIn {b:=false,n:=0}) (0<=wr (↑r.fr.length-1)/\(wr (↑r.fr.length-1)).toNat<r.fr.length/\(∃(y:Ff),r.fr[(wr (↑r.fr.length-1)).toNat]? =some (fF.f y))/\∀(x:Ff),r.fr[(wr (↑r.fr.length-1)).toNat]? =some (fF.f x)->(∃(y:Ff),r.fr[(wr (↑r.fr.length-1)).toNat]? =some (fF.f y))/\∀(x:Ff),r.fr[(wr (↑r.fr.length-1)).toNat]? =some (fF.f x)->br (decide (n>=↑x.s.length)) (vIn {b:=false,n:=0}) (0<=wr (↑r.fr.length-1)/\(wr (↑r.fr.length-1)).toNat<r.fr.length/\(∃(y:Ff),r.fr[(wr (↑r.fr.length-1)).toNat]? =some (fF.f y))/\∀(x:Ff),r.fr[(wr (↑r.fr.length-1)).toNat]? =some (fF.f x)->0<=n/\(∃(y:Ff),r.fr[(wr (↑r.fr.length-1)).toNat]? =some (fF.f y))/\∀(x:Ff),r.fr[(wr (↑r.fr.length-1)).toNat]? =some (fF.f x)->n.toNat<x.s.length/\(∃(y:Ff),r.fr[(wr (↑r.fr.length-1)).toNat]? =some (fF.f y))/\∀(x:Ff),r.fr[(wr (↑r.fr.length-1)).toNat]? =some (fF.f x)->(∃(y:Va),x.s[n.toNat]? =some (fV.f y))/\∀(x_1:Va),x.s[n.toNat]? =some (fV.f x_1)->vIn x_1)))) (by kernel_rfl) (by
 have fl:=h.fl;rw[jKX (x:=(r.fr.length:Int)-1) (by omega) (by omega)];refine⟨fun _=>⟨rfl,jKY _⟩,fun E=>⟨fun _=>⟨rfl,jKY _⟩,fun h2=>?_⟩⟩;have E:=df E;have h2:=df h2;have at':=h.fr.at (j:=((r.fr.length:Int)-1).toNat) (by omega);refine⟨by omega,by omega,at',fun x hx=>⟨at',fun x1 hx1=>⟨fun _=>jKY _,fun G=>⟨by omega,by omega,at',fun x2 hx2=>⟨by omega,at',fun x3 hx3=>?_⟩⟩⟩⟩⟩;have G:=df G;have J:x3=x1:=jMI (Option.some.inj (hx3.symm.trans hx1));subst J;refine⟨by omega,at',fun x4 hx4=>?_⟩;have M:x4=x3:=jMI (Option.some.inj (hx4.symm.trans hx1));subst M;obtain⟨y,B,hy⟩:=h.fr.of hx4;have B:=jMI B;subst B
 exact⟨hy.v.at (by omega),fun v hv=>hy.v.va hv⟩)
theorem jVv {r:Ru}{b:Nat}(h:jJG r b) (n:Int) (v:Va) (M:vIn v):Tot T (mkc r0 bR (fun _ r'=>StR 0 r r') True) 148 [pR r,pI n,pV v]:=vN hm jL8 Tryz.func148 (br (decide (wr (↑r.fr.length-1)<0)) (true=true/\StR 0 r r) (br (decide (n<0)) (true=true/\StR 0 r r) (0<=wr (↑r.fr.length-1)/\(wr (↑r.fr.length-1)).toNat<r.fr.length/\(∃(y:Ff),r.fr[(wr (↑r.fr.length-1)).toNat]? =some (fF.f y))/\∀(x:Ff),r.fr[(wr (↑r.fr.length-1)).toNat]? =some (fF.f x)->(∃(y:Ff),r.fr[(wr (↑r.fr.length-1)).toNat]? =some (fF.f y))/\∀(x:Ff),r.fr[(wr (↑r.fr.length-1)).toNat]? =some (fF.f x)->br (decide (n>=↑x.s.length)) (StR 0 r r) (0<=wr (↑r.fr.length-1)/\(wr (↑r.fr.length-1)).toNat<r.fr.length/\(∃(y:Ff),r.fr[(wr (↑r.fr.length-1)).toNat]? =some (fF.f y))/\∀(x:Ff),r.fr[(wr (↑r.fr.length-1)).toNat]? =some (fF.f x)->0<=n/\(∃(y:Ff),r.fr[(wr (↑r.fr.length-1)).toNat]? =some (fF.f y))/\∀(x:Ff),r.fr[(wr (↑r.fr.length-1)).toNat]? =some (fF.f x)->n.toNat<x.s.length/\(∃(y:Ff),r.fr[(wr (↑r.fr.length-1)).toNat]? =some (fF.f y))/\∀(x:Ff),r.fr[(wr (↑r.fr.length-1)).toNat]? =some (fF.f x)->(∃(y:Va),x.s[n.toNat]? =some (fV.f y))/\∀(x_1:Va),x.s[n.toNat]? =some (fV.f x_1)->(∃(y:Nat),∃(y_1:Nat),jJJ r.hp y y_1)/\∀(x:Unit × Hp),HpR 0 r.hp x.2->(∃(y:Nat),∃(y_1:Nat),jJJ x.2 y y_1)/\∀(x_2:Unit × Hp),HpR 0 x.2 x_2.2->0<=wr (↑r.fr.length-1)/\(wr (↑r.fr.length-1)).toNat<r.fr.length/\(∃(y:Ff),r.fr[(wr (↑r.fr.length-1)).toNat]? =some (fF.f y))/\∀(x:Ff),r.fr[(wr (↑r.fr.length-1)).toNat]? =some (fF.f x)->0<=n/\(∃(y:Ff),r.fr[(wr (↑r.fr.length-1)).toNat]? =some (fF.f y))/\∀(x:Ff),r.fr[(wr (↑r.fr.length-1)).toNat]? =some (fF.f x)->n.toNat<x.s.length/\(∃(y:Ff),r.fr[(wr (↑r.fr.length-1)).toNat]? =some (fF.f y))/\∀(x:Ff),r.fr[(wr (↑r.fr.length-1)).toNat]? =some (fF.f x)->(∃(y:Va),x.s[n.toNat]? =some (fV.f y))/\∀(x_3:Va),x.s[n.toNat]? =some (fV.f x_3)->StR 0 r {F:=r.F,K:=r.K,L:=r.L,dp:=r.dp,inn:=r.inn,nx:=r.nx,g:=r.g,fr:=r.fr.set (wr (↑r.fr.length-1)).toNat ((fF.f x).set 1 (.r true 2 (x.s.set n.toNat (ovl (fV.f x_3) 0 [.b v.b,I v.n])))),hp:=x_2.2,gr:=r.gr,er:=r.er,vl:=r.vl,out:=r.out,st:=r.st,rd:=r.rd})))) (by kernel_rfl) (by
 have fl:=h.fl;rw[jKX (x:=(r.fr.length:Int)-1) (by omega) (by omega)];refine⟨fun _=>⟨rfl,StR.refl 0 r⟩,fun G=>⟨fun _=>⟨rfl,StR.refl 0 r⟩,fun h2=>?_⟩⟩;have G:=df G;have h2:=df h2;have at':=h.fr.at (j:=((r.fr.length:Int)-1).toNat) (by omega);refine⟨by omega,by omega,at',fun x hx=>⟨at',fun x1 hx1=>⟨fun _=>StR.refl 0 r,fun J=>⟨by omega,by omega,at',fun x2 hx2=>⟨by omega,at',fun x3 hx3=>?_⟩⟩⟩⟩⟩;have J:=df J;have eq:∀{y:Ff},r.fr[((r.fr.length:Int)-1).toNat]? =some (fF.f y)->y=x1:=fun hy=>jMI (Option.some.inj (hy.symm.trans hx1))
 have E:jMP x1:=by
  obtain⟨y,ey,hy⟩:=h.fr.of hx1;rw[jMI ey];exact hy
 have P:=eq hx3;subst P;refine⟨by omega,at',fun x4 hx4=>?_⟩;have V:=eq hx4;subst V;obtain⟨n0,hp,h4⟩:=h.hp;refine⟨E.v.at (by omega),fun v1 _=>⟨⟨_,_,hp⟩,fun⟨_,k1⟩ r1=>⟨⟨_,_,r1.r _ _ hp⟩,fun⟨_,k2⟩ r2=>⟨by omega,by omega,at',fun x5 hx5=>⟨by omega,at',fun x6 hx6=>?_⟩⟩⟩⟩⟩;have Y:=eq hx6;subst Y;refine⟨by omega,at',fun x7 hx7=>?_⟩;have Z:=eq hx7;subst Z;refine⟨E.v.at (by omega),fun v2 _=>⟨fun b q=>?_,rfl,rfl⟩⟩;obtain⟨n1,g1,g2⟩:=q.hp
 have O:jMP {x7 with s:=x7.s.set n.toNat (fV.f v)}:=⟨fun y hy=>by
  rcases List.mem_or_eq_of_mem_set hy with B|B
  .exact E.v y B
  .exact⟨v,B,M⟩,by simpa using E.n⟩
 exact {q with
  fr:=fun y hy=>by
   rcases List.mem_or_eq_of_mem_set hy with B|B
   .exact q.fr y B
   .exact⟨{x7 with s:=x7.s.set n.toNat (fV.f v)},B,O⟩
  fl:=by simpa using q.fl
  hp:=⟨n1,r2.r _ _ (r1.r _ _ g1),g2⟩})
theorem jYV {r:Ru}{b:Nat}(h:jJG r b) (hf:r.fr.length<=100000) (f k:Int):Tot T (mkc r0 bR (fun _ r'=>StR 0 r r') True) 57 [pR r,pI f,pI k]:=vN hm jL8 Tryz.func57 ((∀(e:List C),e ∈ r.F->∃(y:CfS),e=fCF.f y/\jKn y)/\∀(x:CfS × Unit),jKn x.1->br (decide (x.1.d >0)) (0<=x.1.d/\0<=x.1.d/\(x.1.d.toNat<=x.1.d.toNat/\x.1.d.toNat<=4000000000)/\r.fr.length+1<=4000000000/\StR 0 r {F:=r.F,K:=r.K,L:=r.L,dp:=r.dp,inn:=r.inn,nx:=x.1.a,g:=r.g,fr:=r.fr ++[[I k,.r true 2 (List.replicate x.1.d.toNat [bf,iz IntKind.i64])]],hp:=r.hp,gr:=r.gr,er:=r.er,vl:=r.vl,out:=r.out,st:=r.st,rd:=r.rd}) (r.fr.length+1<=4000000000/\StR 0 r {F:=r.F,K:=r.K,L:=r.L,dp:=r.dp,inn:=r.inn,nx:=x.1.a,g:=r.g,fr:=r.fr ++[[I k,ro 2]],hp:=r.hp,gr:=r.gr,er:=r.er,vl:=r.vl,out:=r.out,st:=r.st,rd:=r.rd})) (by kernel_rfl) (by
 have E:∀(a:Int) (s:List (List C)),Rw fV vIn s->s.length<=6000->StR 0 r {r with nx:=a,fr:=r.fr ++[[I k,.r true 2 s]]}:=fun a s B h2=>⟨fun b q=>{q with
  fr:=q.fr.app (Rw.one (S:=fF) (x:=⟨k,s⟩) ⟨B,h2⟩)
  fl:=by show(r.fr ++[_]).length<=_;rw[List.length_append,List.length_singleton];omega
  hp:=q.hp},rfl,rfl⟩
 refine⟨h.F,fun⟨x,_⟩ hx=>⟨fun B=>?_,fun _=>⟨by omega,E _ [] Rw.nil (by simp)⟩⟩⟩;have B:=dt B;have hd:=hx.d
 dsimp only at hd B ⊢
 exact⟨by omega,by omega,⟨Nat.le_refl _,by omega⟩,by omega,E _ _ (fun q hq=>⟨⟨false,0⟩,(List.mem_replicate.1 hq).2,jKY _⟩) (by rw[List.length_replicate];omega)⟩)
structure LvI (r:Ru) (r':Ru) (tp:Int) (f:Ff) (i:Int):Prop where
 q1:∃h',r'={r with fr:=r.fr.set ((r.fr.length:Int)-1).toNat [.uk,.uk],hp:=h'}/\∀n,jJJ r.hp n 0->jJJ h' n 0
 q2:tp=(r.fr.length:Int)-1
 q3:jMP f
 q4:Ix 6000 i
def lvT:Rl Av:=.cons 0 (tA 0) <| .cons 3 tI <| .cons 4 (tA 4) <| .cons 5 tI .nil
def lvR:Rl Rt:=.cons 0 (rX 0 fR) <| .cons 4 (rX 1 fF) .nil
def hLv:Hx:=⟨hM.el,true,fun n=>cond (Nat.beq n 0) (some eI) none,false,false⟩
def lvH (r:Ru):Hy:=⟨hLv,[],[],[(6,.iv lvT lvR (fun a=>LvI r a.2.1 a.1.2.1 a.2.2.1 a.1.2.2.2.1) fun a=>ixM 6000 a.1.2.2.2.1)]⟩
theorem jXF {r:Ru}{b:Nat}(h:jJG r b):Tot T (mkc rI bR (fun _ r'=>StR 0 r r') True) 160 [pR r]:=vF (lvH r) jL8 Tryz.func160 (br (decide (wr (↑r.fr.length-1)<0)) (StR 0 r r) (0<=wr (↑r.fr.length-1)/\(wr (↑r.fr.length-1)).toNat<r.fr.length/\(∃(y:Ff),r.fr[(wr (↑r.fr.length-1)).toNat]? =some (fF.f y))/\∀(x:Ff),r.fr[(wr (↑r.fr.length-1)).toNat]? =some (fF.f x)->(∃(y:Ff),r.fr[(wr (↑r.fr.length-1)).toNat]? =some (fF.f y))/\∀(x:Ff),r.fr[(wr (↑r.fr.length-1)).toNat]? =some (fF.f x)->(∃(y:List C),r.fr[(wr (↑r.fr.length-1)).toNat]? =some y)/\∀(x_1:List C),r.fr[(wr (↑r.fr.length-1)).toNat]? =some x_1->(id x_1).length=2/\LvI r {F:=r.F,K:=r.K,L:=r.L,dp:=r.dp,inn:=r.inn,nx:=r.nx,g:=r.g,fr:=r.fr.set (wr (↑r.fr.length-1)).toNat (uks 2),hp:=r.hp,gr:=r.gr,er:=r.er,vl:=r.vl,out:=r.out,st:=r.st,rd:=r.rd} (wr (↑r.fr.length-1)) x 0/\∀(a:(Unit × Int × Unit × Int × Unit) × Ru × Ff × Unit),LvI r a.2.1 a.1.2.1 a.2.2.1 a.1.2.2.2.1->br (decide (a.1.2.2.2.1<↑a.2.2.1.s.length)) (0<=a.1.2.2.2.1/\Int.toNat a.1.2.2.2.1<a.2.2.1.s.length/\(∃(y:Va),a.2.2.1.s[Int.toNat a.1.2.2.2.1]? =some (fV.f y))/\∀(x:Va),a.2.2.1.s[Int.toNat a.1.2.2.2.1]? =some (fV.f x)->(∃(y:Nat),∃(y_1:Nat),jJJ a.2.1.hp y y_1)/\∀(x:Unit × Hp),HpR 0 a.2.1.hp x.2->LvI r {F:=a.2.1.F,K:=a.2.1.K,L:=a.2.1.L,dp:=a.2.1.dp,inn:=a.2.1.inn,nx:=a.2.1.nx,g:=a.2.1.g,fr:=a.2.1.fr,hp:=x.2,gr:=a.2.1.gr,er:=a.2.1.er,vl:=a.2.1.vl,out:=a.2.1.out,st:=a.2.1.st,rd:=a.2.1.rd} a.1.2.1 a.2.2.1 (wr (a.1.2.2.2.1+1))/\ixM 6000 (wr (a.1.2.2.2.1+1))<ixM 6000 a.1.2.2.2.1) (0<=a.1.2.1/\Int.toNat a.1.2.1<a.2.1.fr.length/\(∃(y:List C),a.2.1.fr[Int.toNat a.1.2.1]? =some y)/\∀(x:List C),a.2.1.fr[Int.toNat a.1.2.1]? =some x->(id x).length=2/\0<=a.1.2.1/\(0<=Int.toNat a.1.2.1/\Int.toNat a.1.2.1<=(a.2.1.fr.set (Int.toNat a.1.2.1) [iz IntKind.i64,ro 2]).length/\0<(a.2.1.fr.set (Int.toNat a.1.2.1) [iz IntKind.i64,ro 2]).length)/\StR 0 r {F:=a.2.1.F,K:=a.2.1.K,L:=a.2.1.L,dp:=a.2.1.dp,inn:=a.2.1.inn,nx:=a.2.1.nx,g:=a.2.1.g,fr:=List.take (Int.toNat a.1.2.1) (a.2.1.fr.set (Int.toNat a.1.2.1) [iz IntKind.i64,ro 2]),hp:=a.2.1.hp,gr:=a.2.1.gr,er:=a.2.1.er,vl:=a.2.1.vl,out:=a.2.1.out,st:=a.2.1.st,rd:=a.2.1.rd}))) (by kernel_rfl) (by
 have fl:=h.fl;rw[jKX (x:=(r.fr.length:Int)-1) (by omega) (by omega)];refine⟨fun _=>StR.refl 0 r,fun E=>?_⟩;have E:=df E;have at':=h.fr.at (j:=((r.fr.length:Int)-1).toNat) (by omega);obtain⟨n0,G,_⟩:=h.hp;refine⟨by omega,by omega,at',fun x hx=>⟨at',fun x1 hx1=>⟨⟨_,hx⟩,fun e he=>?_⟩⟩⟩;have M:e=fF.f x:=Option.some.inj (he.symm.trans hx)
 have J:jMP x1:=by
  obtain⟨y,O,hy⟩:=h.fr.of hx1;rw[jMI O];exact hy
 refine⟨by rw[M];rfl,⟨⟨r.hp,rfl,fun n h=>h⟩,rfl,J,by omega,by omega⟩,fun⟨⟨_,tp,_,i,_⟩,r',f,_⟩ ⟨⟨k,q1,q1'⟩,q2,q3,q4⟩=>?_⟩
 dsimp only at q1 q2 q3 q4 ⊢
 subst q1 q2;have lo:=q4.lo;have fn:=q3.n;refine⟨fun hb=>?_,fun _=>?_⟩
 .have hb':=dt hb
  have nx:=q4.nx (by omega) (decide_eq_true (by omega));exact⟨lo,by omega,q3.v.at (by omega),fun v _=>⟨⟨_,_,q1' _ G⟩,fun⟨_,k2⟩ r2=>⟨⟨⟨k2,rfl,fun n h=>r2.r n 0 (q1' n h)⟩,rfl,q3,nx.1⟩,nx.2⟩⟩⟩
 .have i1:((r.fr.length:Int)-1).toNat<r.fr.length:=by omega
  have B:(r.fr.set ((r.fr.length:Int)-1).toNat [.uk,.uk])[((r.fr.length:Int)-1).toNat]? =some [.uk,.uk]:=by rw[List.getElem?_set_self i1]
  refine⟨by omega,by simp only[List.length_set];omega,⟨_,B⟩,fun e he=>⟨by rw[Option.some.inj (he.symm.trans B)];rfl,by omega,⟨by omega,by simp only[List.length_set];omega,by simp only[List.length_set];omega⟩,fun b q=>?_,rfl,rfl⟩⟩;obtain⟨n1,P,V⟩:=q.hp;have tk:List.take ((r.fr.length:Int)-1).toNat ((r.fr.set ((r.fr.length:Int)-1).toNat [.uk,.uk]).set ((r.fr.length:Int)-1).toNat [iz IntKind.i64,ro 2])=List.take ((r.fr.length:Int)-1).toNat r.fr:=by rw[List.set_set,List.take_set_of_le (Nat.le_refl _)]
  exact {q with
   fr:=by show Rw fF jMP (List.take _ _);rw[tk];exact fun y hy=>q.fr y (List.mem_of_mem_take hy)
   fl:=by show(List.take _ _).length<=_;rw[tk,List.length_take];have:=q.fl;omega
   hp:=⟨n1,q1' n1 P,V⟩})
end V
end Go.Proofs.YtnhbcdnmfafbiaaGreatDoor
set_option maxRecDepth 100000
namespace Go.Proofs.YtnhbcdnmfafbiaaGreatDoor
namespace V
open Go.Proofs
def aZ:Pz Arg:=⟨Unit,fun _=>pI 0,fun x=>match x with
 | .pl (.c (.i .i64 (.ofNat 0)))=>some ()
 |_=>none,fun b x e=>by split at e <;> cases e;rfl⟩
def jP3 (xs:List Arg):Option Ct:=match kA (aC (aP fR) <|aC aI <|aC aU aN) (fun a=>mkc r0 bR (fun _ r'=>StR 0 a.1 r') True) xs with
 |some c=>some c
 |none=>kA (aC (aP fR) <|aC aI <|aC aZ aN) (fun a=>mkc r0 bR (fun _ r'=>StR 0 a.1 r') True) xs
theorem jX1 (xs:List Arg) (k:Ct) (hk:jP3 xs=some k) (hp:k.pr):Tot T k 151 xs:=by
 unfold jP3 at hk
 split at hk
 .rename_i c hc
  cases hk;exact jP1 (fun a _=>jV0 _ _) xs _ hc hp
 .exact jP1 (fun a _=>jV1 _ _) xs _ hk hp
def cSt (k:Nat) (r:Ru) (p:Prop):Ct:=mkc r0 bR (fun _ r'=>StR k r r') p
def cV0 (p:Prop):Ct:=mkc (rS fV) b0 (fun v _=>vIn v) p
theorem jK7 {n:Int}{v:Va}(k:jKM n v) (h:inI n):vIn v:=by rw[k.e];exact⟨h⟩
def jQE:Cts:=ctp 151 jP3 <|ctp 191 (kA (aC (aQ fR) <|aC aI aN) fun a=>cV0 (∃b,jJG a.1 b)) <|ctp 148 (kA (aC (aP fR) <|aC aI <|aC (aG fV) aN) fun a=>cSt 0 a.1 ((∃b,jJG a.1 b)/\vIn a.2.2.1)) <|ctp 57 (kA (aC (aP fR) <|aC aI <|aC aI aN) fun a=>cSt 0 a.1 ((∃b,jJG a.1 b)/\a.1.fr.length<=100000)) <|ctp 160 (kA (aC (aP fR) aN) fun a=>mkc rI bR (fun _ r'=>StR 0 a.1 r') (∃b,jJG a.1 b)) <|ctp 154 (kA (aC (aP fH) <|aC aI <|aC aI <|aC (aG fV) aN) fun a=>mkc rVB bH (fun x h'=>NwR a.1 h' x.1) ((∃n s,jJJ a.1 n s/\n<=1000000/\sm a.2.1)/\vIn a.2.2.2.1)) jQF
theorem jQD:Good T jQE:=by
 unfold jQE;refine jKu (Good.add (Good.add (Good.add (Good.add (Good.add jL8 ?_) ?_) ?_) ?_) ?_) jX1
 .rintro a ⟨⟨n,s,h1,h2,h3⟩,hv⟩;exact jWU h1 h2 h3 _ _ hv
 .rintro a ⟨b,h⟩;exact jXF h
 .rintro a ⟨⟨b,h⟩,h2⟩;exact jYV h h2 _ _
 .rintro a ⟨⟨b,h⟩,hv⟩;exact jVv h _ _ hv
 .rintro a ⟨b,h⟩;exact jVe h _
theorem jU7 (r:Ru):Tot T (cSt 0 r True) 119 [pR r]:=vN hm jQD Tryz.func119 (True/\∀(x:Unit × Ru),StR 0 r x.2->StR 0 r x.2) (by kernel_rfl) ⟨trivial,fun _ h=>h⟩
theorem jW0 {r:Ru}{b:Nat}(h:jJG r b) (l:Lu):Tot T (cV0 True) 147 [qR r,pU l]:=vF hm jQD Tryz.func147 (br (decide (l.o=1)) ((∀(e:List C),e ∈ r.K->∃(y:Int),e=fI.f y/\inI y)/\∀(x:Int × Unit),inI x.1->True/\∀(x_1:Va × Unit),jKM x.1 x_1.1->vIn x_1.1) (br (decide (l.o=2)) (jJ0 r.g/\∀(x:Va × Unit),vIn x.1->vIn x.1) (br (decide (l.o=3)) (true=true/\(∃(y:Nat),jJG r y)/\∀(x:Va × Unit),vIn x.1->vIn x.1) (br (decide (l.o=4)) ((∃(y:Nat),jJG r y)/\∀(x:Va × Unit),vIn x.1->vIn x.1) (br (decide (l.o=5)) (jJ0 r.g/\∀(x:Va × Unit),vIn x.1->vIn x.1) (vIn {b:=false,n:=0})))))) (by kernel_rfl) (by
 have hk:=h.K;have B:=h.g
 exact⟨fun _=>⟨hk,fun _ hi=>⟨trivial,fun _ hn=>jK7 hn hi⟩⟩,fun _=>⟨fun _=>⟨B,fun _ h=>h⟩,fun _=>⟨fun _=>⟨rfl,⟨_,h⟩,fun _ h=>h⟩,fun _=>⟨fun _=>⟨⟨_,h⟩,fun _ h=>h⟩,fun _=>⟨fun _=>⟨B,fun _ h=>h⟩,fun _=>jKY _⟩⟩⟩⟩⟩)
def jQC:Cts:=ctp 119 (kA (aC (aP fR) aN) fun a=>cSt 0 a.1 True) <|ctp 147 (kA (aC (aQ fR) <|aC (aG fU) aN) fun a=>cV0 (∃b,jJG a.1 b)) jQE
theorem jLf:Good T jQC:=by
 unfold jQC;refine Good.add (Good.add jQD ?_) ?_
 .rintro a ⟨b,h⟩;exact jW0 h _
 .rintro a -;exact jU7 _
theorem jW1 {r:Ru}{b:Nat}(h:jJG r b) (l:Lu):Tot T (cSt 0 r True) 110 [pR r,pU l]:=vN hm jLf Tryz.func110 ((∃(y:Nat),jJG r y)/\∀(x:Va × Unit),vIn x.1->br (decide (l.o=5)) (true=true/\((∃(y:Nat),jJG r y)/\vIn x.1)/\∀(x:Unit × Ru),StR 0 r x.2->StR 0 r x.2) (br (decide (l.o=6)) (((∃(y:Nat),jJG r y)/\vIn x.1)/\∀(x:Unit × Ru),StR 0 r x.2->StR 0 r x.2) (br (decide (l.o=4)) (((∃(y:Nat),jJG r y)/\vIn {b:=false,n:=0})/\∀(x_1:Unit × Ru),StR 0 r x_1.2->True/\∀(x_2:Unit × Ru),GR x_1.2 x.1 x_2.2->StR 0 r x_2.2) (True/\∀(x_1:Unit × Ru),GR r x.1 x_1.2->StR 0 r x_1.2)))) (by kernel_rfl) (by
 have G:∃b,jJG r b:=⟨_,h⟩
 have hp:∃n s,jJJ r.hp n s:=by obtain⟨n,B,_⟩:=h.hp;exact⟨n,0,B⟩
 have E:=h.g
 repeat' first|exact fun _ h=>h|exact fun _ h=>h.st (by assumption)|exact fun _ h=>h.st (jK7 (by assumption) (by assumption))|exact StR.refl 0 _|exact G|exact hp|exact E|exact fun _ h=>⟨trivial,fun _ g=>h.trans (g.st (by assumption))⟩|rfl|trivial|assumption|refine⟨?_,?_⟩|intro _)
theorem jV8 {r:Ru}{b:Nat}(h:jJG r b) (l:Lu):Tot T (cSt 0 r True) 111 [pR r,pU l]:=vN hm jLf Tryz.func111 (jJ0 r.g/\∀(x:Va × Unit),vIn x.1->jJ0 r.g/\∀(x_1:Va × Unit),vIn x_1.1->br (decide (l.o=15)) (true=true/\br x.1.b (true=true/\True/\∀(x:Unit × Ru),StR 0 r x.2->StR 0 r x.2) (br false (True/\∀(x:Unit × Ru),StR 0 r x.2->StR 0 r x.2) (br true (br (decide (l.o=10)) (true=true/\True/\∀(x:Unit × Ru),StR 0 r x.2->StR 0 r x.2) (br (decide (l.o=11)) (True/\∀(x:Unit × Ru),StR 0 r x.2->StR 0 r x.2) (True/\∀(x:Int × Unit),True->True/\∀(x:Int × Unit),inI x.1->True/\∀(x_2:Va × Unit),jKM x.1 x_2.1->True/\∀(x:Unit × Ru),GR r x_2.1 x.2->StR 0 r x.2))) (false=false/\True/\∀(x:Int × Unit),True->True/\∀(x:Int × Unit),inI x.1->True/\∀(x_2:Va × Unit),jKM x.1 x_2.1->True/\∀(x:Unit × Ru),GR r x_2.1 x.2->StR 0 r x.2)))) (br (decide (l.o=16)) (br x.1.b (true=true/\True/\∀(x:Unit × Ru),StR 0 r x.2->StR 0 r x.2) (br false (True/\∀(x:Unit × Ru),StR 0 r x.2->StR 0 r x.2) (br true (br (decide (l.o=10)) (true=true/\True/\∀(x:Unit × Ru),StR 0 r x.2->StR 0 r x.2) (br (decide (l.o=11)) (True/\∀(x:Unit × Ru),StR 0 r x.2->StR 0 r x.2) (True/\∀(x:Int × Unit),True->True/\∀(x:Int × Unit),inI x.1->True/\∀(x_2:Va × Unit),jKM x.1 x_2.1->True/\∀(x:Unit × Ru),GR r x_2.1 x.2->StR 0 r x.2))) (false=false/\True/\∀(x:Int × Unit),True->True/\∀(x:Int × Unit),inI x.1->True/\∀(x_2:Va × Unit),jKM x.1 x_2.1->True/\∀(x:Unit × Ru),GR r x_2.1 x.2->StR 0 r x.2)))) (br x.1.b (true=true/\True/\∀(x:Unit × Ru),StR 0 r x.2->StR 0 r x.2) (br x_1.1.b (True/\∀(x:Unit × Ru),StR 0 r x.2->StR 0 r x.2) (br (decide (x_1.1.n=0)) (br (decide (l.o=10)) (true=true/\True/\∀(x:Unit × Ru),StR 0 r x.2->StR 0 r x.2) (br (decide (l.o=11)) (True/\∀(x:Unit × Ru),StR 0 r x.2->StR 0 r x.2) (True/\∀(x:Int × Unit),True->True/\∀(x:Int × Unit),inI x.1->True/\∀(x_2:Va × Unit),jKM x.1 x_2.1->True/\∀(x:Unit × Ru),GR r x_2.1 x.2->StR 0 r x.2))) (false=false/\True/\∀(x:Int × Unit),True->True/\∀(x:Int × Unit),inI x.1->True/\∀(x_2:Va × Unit),jKM x.1 x_2.1->True/\∀(x:Unit × Ru),GR r x_2.1 x.2->StR 0 r x.2)))))) (by kernel_rfl) (by
 have G:∃b,jJG r b:=⟨_,h⟩
 have hp:∃n s,jJJ r.hp n s:=by obtain⟨n,B,_⟩:=h.hp;exact⟨n,0,B⟩
 have E:=h.g
 repeat' first|exact fun _ h=>h|exact fun _ h=>h.st (by assumption)|exact fun _ h=>h.st (jK7 (by assumption) (by assumption))|exact StR.refl 0 _|exact G|exact hp|exact E|exact fun _ h=>⟨trivial,fun _ g=>h.trans (g.st (by assumption))⟩|rfl|trivial|assumption|refine⟨?_,?_⟩|intro _)
theorem jVT {r:Ru}{b:Nat}(h:jJG r b) (l:Lu):Tot T (cSt 0 r True) 112 [pR r,pU l]:=vN hm jLf Tryz.func112 (br (decide (l.o=17)) (StR 0 r {F:=r.F,K:=r.K,L:=r.L,dp:=r.dp,inn:=r.inn,nx:=l.x,g:=r.g,fr:=r.fr,hp:=r.hp,gr:=r.gr,er:=r.er,vl:=r.vl,out:=r.out,st:=r.st,rd:=r.rd}) (jJ0 r.g/\∀(x:Va × Unit),vIn x.1->br x.1.b (True/\∀(x:Unit × Ru),StR 0 r x.2->StR 0 r x.2) (br (decide (x.1.n=0)) (StR 0 r {F:=r.F,K:=r.K,L:=r.L,dp:=r.dp,inn:=r.inn,nx:=l.x,g:=r.g,fr:=r.fr,hp:=r.hp,gr:=r.gr,er:=r.er,vl:=r.vl,out:=r.out,st:=r.st,rd:=r.rd}) (StR 0 r r)))) (by kernel_rfl) (by
 have G:∃b,jJG r b:=⟨_,h⟩
 have hp:∃n s,jJJ r.hp n s:=by obtain⟨n,B,_⟩:=h.hp;exact⟨n,0,B⟩
 have E:=h.g
 have z:∀n,StR 0 r {r with nx:=n}:=fun n=>⟨fun b q=>{q with hp:=q.hp},rfl,rfl⟩
 repeat' first|exact fun _ h=>h|exact fun _ h=>h.st (by assumption)|exact fun _ h=>h.st (jK7 (by assumption) (by assumption))|exact StR.refl 0 _|exact z _|exact G|exact hp|exact E|exact fun _ h=>⟨trivial,fun _ g=>h.trans (g.st (by assumption))⟩|rfl|trivial|assumption|refine⟨?_,?_⟩|intro _)
theorem jhX {r:Ru}{b:Nat}(h:jJG r b) (l:Lu):Tot T (cSt 0 r True) 115 [pR r,pU l]:=vN hm jLf Tryz.func115 (jJ0 r.g/\∀(x:Va × Unit),vIn x.1->br x.1.b (True/\∀(x:Unit × Ru),StR 0 r x.2->StR 0 r x.2) (br (decide (↑r.out.length>=(16:Int))) (True/\∀(x:Unit × Ru),StR 0 r x.2->StR 0 r x.2) (r.out.length+1<=4000000000/\StR 0 r {F:=r.F,K:=r.K,L:=r.L,dp:=r.dp,inn:=r.inn,nx:=r.nx,g:=r.g,fr:=r.fr,hp:=r.hp,gr:=r.gr,er:=r.er,vl:=r.vl,out:=r.out ++(List.replicate 1 [iz IntKind.i64]).set 0 [I x.1.n],st:=r.st,rd:=r.rd}))) (by kernel_rfl) (by
 have G:∃b,jJG r b:=⟨_,h⟩
 have hp:∃n s,jJJ r.hp n s:=by obtain⟨n,B,_⟩:=h.hp;exact⟨n,0,B⟩
 have E:=h.g
 have z:r.out.length<16->∀n,StR 0 r {r with out:=r.out ++[[I n]]}:=fun ho n=>⟨fun b q=>{q with o:=q.o.app (Rw.one (S:=fI) trivial),ol:=by show(r.out ++[[I n]]).length<=1000;rw[List.length_append,List.length_singleton];omega,hp:=q.hp},rfl,rfl⟩
 refine⟨E,fun _ _=>⟨fun _=>⟨trivial,fun _ h=>h⟩,fun _=>⟨fun _=>⟨trivial,fun _ h=>h⟩,fun B=>⟨?_,z ?_ _⟩⟩⟩⟩
 all_goals
  have B:=df B
  omega)
theorem jjE {r:Ru}{b:Nat}(h:jJG r b) (l:Lu):Tot T (cSt 0 r True) 116 [pR r,pU l]:=vN hm jLf Tryz.func116 (br (decide (r.rd>=↑r.inn.length)) (True/\∀(x:Unit × Ru),StR 0 r x.2->StR 0 r x.2) (0<=r.rd/\r.rd.toNat<r.inn.length/\(∃(y:Int),r.inn[r.rd.toNat]? =some [I y])/\∀(x:Int),r.inn[r.rd.toNat]? =some [I x]->True/\∀(x:Int × Unit),inI x.1->True/\∀(x_1:Va × Unit),jKM x.1 x_1.1->True/\∀(x:Unit × Ru),GR r x_1.1 x.2->StR 0 r {F:=x.2.F,K:=x.2.K,L:=x.2.L,dp:=x.2.dp,inn:=x.2.inn,nx:=x.2.nx,g:=x.2.g,fr:=x.2.fr,hp:=x.2.hp,gr:=x.2.gr,er:=x.2.er,vl:=x.2.vl,out:=x.2.out,st:=x.2.st,rd:=wr (x.2.rd+1)})) (by kernel_rfl) (by
 have rd:=h.rd;have il:=h.il;refine⟨fun _=>⟨trivial,fun _ h=>h⟩,fun B=>?_⟩;have B:=df B;refine⟨rd.1,by omega,h.i.at (by omega),fun _ _=>⟨trivial,fun _ hi=>⟨trivial,fun _ hn=>⟨trivial,fun⟨_,r'⟩ g=>?_⟩⟩⟩⟩
 dsimp only at g ⊢
 obtain⟨g,rfl,G⟩:=g.e;have E:wr (r.rd+1)=r.rd+1:=jKX (by omega) (by omega)
 dsimp only
 rw[E];refine⟨fun b q=>{q with rd:=?_,hp:=q.hp,g:=G (jK7 hn hi) q.g},rfl,rfl⟩
 dsimp only
 omega)
theorem jXD {r:Ru}{b:Nat}(h:jJG r b) (l:Lu) (v:Va):Tot T (cSt 0 r True) 155 [pR r,pU l,pV v]:=vN hm jLf Tryz.func155 (br (!v.b) (True/\∀(x:Unit × Ru),StR 0 r x.2->StR 0 r x.2) ((∃(y:Nat),∃(y_1:Nat),jJJ r.hp y y_1)/\∀(x:Int × Unit),jKE r.hp v x.1->True/\∀(x_1:Va × Unit),jKM x.1 x_1.1->True/\∀(x:Unit × Ru),GR r x_1.1 x.2->StR 0 r x.2)) (by kernel_rfl) (by
 have J:∃b,jJG r b:=⟨_,h⟩
 have hp:∃n s,jJJ r.hp n s:=by obtain⟨n,B,_⟩:=h.hp;exact⟨n,0,B⟩
 have G:=h.g
 have sz:∀{k:Int},jKE r.hp v k->inI k:=fun {k} q=>by
  obtain⟨n,B,_⟩:=h.hp
  rcases q.y with⟨e,_⟩|⟨_,b,E,M⟩
  .exact⟨by omega,by omega⟩
  .have:=(B.blk E).n;exact⟨by omega,by omega⟩
 repeat' first|exact fun _ h=>h|exact fun _ h=>h.st (by assumption)|exact fun _ h=>h.st (jK7 (by assumption) (by assumption))|exact fun _ h=>h.st (jK7 (by assumption) (sz (by assumption)))|exact StR.refl 0 _|exact J|exact hp|exact G|exact fun _ h=>⟨trivial,fun _ g=>h.trans (g.st (by assumption))⟩|rfl|trivial|assumption|refine⟨?_,?_⟩|intro _)
theorem jVJ {r:Ru}{b:Nat}(h:jJG r b) (l:Lu) (v:Va) (a:Int):Tot T (cSt 0 r True) 156 [pR r,pU l,pV v,pI a]:=vN hm jLf Tryz.func156 ((∃(y:Nat),∃(y_1:Nat),jJJ r.hp y y_1)/\∀(x:Int × Unit),jKE r.hp v x.1->br (decide (a>=x.1)) (True/\∀(x:Unit × Ru),StR 0 r x.2->StR 0 r x.2) ((∃(y:Nat),∃(y_1:Nat),jJJ r.hp y y_1)/\∀(x:Va × Unit),vIn x.1->True/\∀(x_1:Unit × Ru),GR r x.1 x_1.2->StR 0 r x_1.2)) (by kernel_rfl) (by
 have G:∃b,jJG r b:=⟨_,h⟩
 have hp:∃n s,jJJ r.hp n s:=by obtain⟨n,B,_⟩:=h.hp;exact⟨n,0,B⟩
 have E:=h.g
 repeat' first|exact fun _ h=>h|exact fun _ h=>h.st (by assumption)|exact fun _ h=>h.st (jK7 (by assumption) (by assumption))|exact StR.refl 0 _|exact G|exact hp|exact E|exact fun _ h=>⟨trivial,fun _ g=>h.trans (g.st (by assumption))⟩|rfl|trivial|assumption|refine⟨?_,?_⟩|intro _)
theorem jet {r:Ru}{b:Nat}(h:jJG r b) (l:Lu) (v:Va) (a:Int):Tot T (cSt 0 r True) 157 [pR r,pU l,pV v,pI a]:=vN hm jLf Tryz.func157 ((∃(y:Nat),∃(y_1:Nat),jJJ r.hp y y_1)/\∀(x:Int × Unit),jKE r.hp v x.1->br (decide (a>=x.1)) (True/\∀(x:Unit × Ru),StR 0 r x.2->StR 0 r x.2) (jJ0 r.g/\∀(x:Va × Unit),vIn x.1->((∃(y:Nat),∃(y_1:Nat),jJJ r.hp y y_1)/\vIn x.1)/\∀(x:Unit × Hp),HpR 0 r.hp x.2->StR 0 r {F:=r.F,K:=r.K,L:=r.L,dp:=r.dp,inn:=r.inn,nx:=r.nx,g:=r.g,fr:=r.fr,hp:=x.2,gr:=r.gr,er:=r.er,vl:=r.vl,out:=r.out,st:=r.st,rd:=r.rd})) (by kernel_rfl) (by
 have G:∃b,jJG r b:=⟨_,h⟩
 have hp:∃n s,jJJ r.hp n s:=by obtain⟨n,B,_⟩:=h.hp;exact⟨n,0,B⟩
 have E:=h.g
 have z:∀k,HpR 0 r.hp k->StR 0 r {r with hp:=k}:=fun k hk=>⟨fun b q=>{q with hp:=by obtain⟨n,B,h2⟩:=q.hp;exact⟨n,hk.r n 0 B,h2⟩},rfl,rfl⟩
 repeat' first|exact fun _ h=>h|exact fun _ h=>h.st (by assumption)|exact fun _ h=>h.st (jK7 (by assumption) (by assumption))|exact StR.refl 0 _|exact fun _ h=>z _ h|exact G|exact hp|exact E|exact fun _ h=>⟨trivial,fun _ g=>h.trans (g.st (by assumption))⟩|rfl|trivial|assumption|refine⟨?_,?_⟩|intro _)
theorem jeG {r:Ru}{b:Nat}(h:jJG r b) (l:Lu) (v a:Va):Tot T (mkc rB bR (fun _ r'=>StR 0 r r') True) 158 [pR r,pU l,pV v,pV a]:=vF hm jLf Tryz.func158 (br (!v.b) (true=true/\True/\∀(x:Unit × Ru),StR 0 r x.2->StR 0 r x.2) (br a.b (True/\∀(x:Unit × Ru),StR 0 r x.2->StR 0 r x.2) (br (decide (a.n<0)) (decide (a.n<0)=true/\decide (a.n<0)=true/\decide (a.n<0)=true/\decide (a.n<0)=true/\decide (a.n<0)=true/\decide (a.n<0)=true/\decide (a.n<0)=true/\decide (a.n<0)=true/\true=true/\True/\∀(x:Unit × Ru),StR 0 r x.2->StR 0 r x.2) (decide (a.n<0)=false/\decide (a.n<0)=false/\decide (a.n<0)=false/\decide (a.n<0)=false/\decide (a.n<0)=false/\decide (a.n<0)=false/\(∃(y:Nat),∃(y_1:Nat),jJJ r.hp y y_1)/\∀(x:Int × Unit),jKE r.hp v x.1->decide (a.n<0)=false/\decide (a.n<0)=false/\br (decide (a.n>=x.1)) (True/\∀(x:Unit × Ru),StR 0 r x.2->StR 0 r x.2) (StR 0 r r))))) (by kernel_rfl) (by
 have G:∃b,jJG r b:=⟨_,h⟩
 have hp:∃n s,jJJ r.hp n s:=by obtain⟨n,B,_⟩:=h.hp;exact⟨n,0,B⟩
 have E:=h.g
 repeat' first|exact fun _ h=>h|exact fun _ h=>h.st (by assumption)|exact fun _ h=>h.st (jK7 (by assumption) (by assumption))|exact StR.refl 0 _|exact G|exact hp|exact E|exact fun _ h=>⟨trivial,fun _ g=>h.trans (g.st (by assumption))⟩|rfl|trivial|assumption|refine⟨?_,?_⟩|intro _)
def cB1 (r:Ru) (p:Prop):Ct:=mkc rB bR (fun _ r'=>StR 0 r r') p
def jQB:Cts:=ctp 110 (kA (aC (aP fR) <|aC (aG fU) aN) fun a=>cSt 0 a.1 (∃b,jJG a.1 b)) <|ctp 111 (kA (aC (aP fR) <|aC (aG fU) aN) fun a=>cSt 0 a.1 (∃b,jJG a.1 b)) <|ctp 112 (kA (aC (aP fR) <|aC (aG fU) aN) fun a=>cSt 0 a.1 (∃b,jJG a.1 b)) <|ctp 115 (kA (aC (aP fR) <|aC (aG fU) aN) fun a=>cSt 0 a.1 (∃b,jJG a.1 b)) <|ctp 116 (kA (aC (aP fR) <|aC (aG fU) aN) fun a=>cSt 0 a.1 (∃b,jJG a.1 b)) <|ctp 155 (kA (aC (aP fR) <|aC (aG fU) <|aC (aG fV) aN) fun a=>cSt 0 a.1 (∃b,jJG a.1 b)) <|ctp 156 (kA (aC (aP fR) <|aC (aG fU) <|aC (aG fV) <|aC aI aN) fun a=>cSt 0 a.1 (∃b,jJG a.1 b)) <|ctp 157 (kA (aC (aP fR) <|aC (aG fU) <|aC (aG fV) <|aC aI aN) fun a=>cSt 0 a.1 (∃b,jJG a.1 b)) <|ctp 158 (kA (aC (aP fR) <|aC (aG fU) <|aC (aG fV) <|aC (aG fV) aN) fun a=>cB1 a.1 (∃b,jJG a.1 b)) jQC
theorem jNp:Good T jQB:=by
 unfold jQB;refine Good.add (Good.add (Good.add (Good.add (Good.add (Good.add (Good.add (Good.add (Good.add jLf ?_) ?_) ?_) ?_) ?_) ?_) ?_) ?_) ?_
 .rintro a ⟨b,h⟩;exact jeG h _ _ _
 .rintro a ⟨b,h⟩;exact jet h _ _ _
 .rintro a ⟨b,h⟩;exact jVJ h _ _ _
 .rintro a ⟨b,h⟩;exact jXD h _ _
 .rintro a ⟨b,h⟩;exact jjE h _
 .rintro a ⟨b,h⟩;exact jhX h _
 .rintro a ⟨b,h⟩;exact jVT h _
 .rintro a ⟨b,h⟩;exact jV8 h _
 .rintro a ⟨b,h⟩;exact jW1 h _
end V
end Go.Proofs.YtnhbcdnmfafbiaaGreatDoor
set_option maxRecDepth 100000
namespace Go.Proofs.YtnhbcdnmfafbiaaGreatDoor
namespace V
open Go.Proofs
theorem jUV {r:Ru}{b:Nat}(h:jJG r b) (l:Lu):Tot T (cSt 0 r True) 114 [pR r,pU l]:=vN hm jNp Tryz.func114 (jJ0 r.g/\∀(x:Va × Unit),vIn x.1->br (decide (l.o=21)) (true=true/\jJ0 r.g/\∀(x:Va × Unit),vIn x.1->br (decide (l.o=26)) ((∃(y:Nat),jJG r y)/\∀(x:Unit × Ru),StR 0 r x.2->StR 0 r x.2) (br (decide (l.o=22)) ((∃(y:Nat),jJG r y)/\∀(x:Unit × Ru),StR 0 r x.2->StR 0 r x.2) (br (decide (l.o=21)) ((∃(y:Nat),jJG r y)/\∀(x:Unit × Ru),StR 0 r x.2->StR 0 r x.2) (br (decide (l.o=24)) (jJ0 r.g/\∀(x:Va × Unit),vIn x.1->(∃(y:Nat),jJG r y)/\∀(x:Bool × Ru),StR 0 r x.2->br x.1 ((∃(y:Nat),jJG x.2 y)/\∀(x_1:Unit × Ru),StR 0 x.2 x_1.2->StR 0 r x_1.2) (StR 0 r x.2)) (br (decide (l.o=25)) (jJ0 r.g/\∀(x:Va × Unit),vIn x.1->(∃(y:Nat),jJG r y)/\∀(x:Bool × Ru),StR 0 r x.2->br x.1 ((∃(y:Nat),jJG x.2 y)/\∀(x_1:Unit × Ru),StR 0 x.2 x_1.2->StR 0 r x_1.2) (StR 0 r x.2)) (StR 0 r r)))))) (br (decide (l.o=25)) (jJ0 r.g/\∀(x:Va × Unit),vIn x.1->br (decide (l.o=26)) ((∃(y:Nat),jJG r y)/\∀(x:Unit × Ru),StR 0 r x.2->StR 0 r x.2) (br (decide (l.o=22)) ((∃(y:Nat),jJG r y)/\∀(x:Unit × Ru),StR 0 r x.2->StR 0 r x.2) (br (decide (l.o=21)) ((∃(y:Nat),jJG r y)/\∀(x:Unit × Ru),StR 0 r x.2->StR 0 r x.2) (br (decide (l.o=24)) (jJ0 r.g/\∀(x:Va × Unit),vIn x.1->(∃(y:Nat),jJG r y)/\∀(x:Bool × Ru),StR 0 r x.2->br x.1 ((∃(y:Nat),jJG x.2 y)/\∀(x_1:Unit × Ru),StR 0 x.2 x_1.2->StR 0 r x_1.2) (StR 0 r x.2)) (br (decide (l.o=25)) (jJ0 r.g/\∀(x:Va × Unit),vIn x.1->(∃(y:Nat),jJG r y)/\∀(x:Bool × Ru),StR 0 r x.2->br x.1 ((∃(y:Nat),jJG x.2 y)/\∀(x_1:Unit × Ru),StR 0 x.2 x_1.2->StR 0 r x_1.2) (StR 0 r x.2)) (StR 0 r r)))))) (br (decide (l.o=26)) ((∃(y:Nat),jJG r y)/\∀(x:Unit × Ru),StR 0 r x.2->StR 0 r x.2) (br (decide (l.o=22)) ((∃(y:Nat),jJG r y)/\∀(x:Unit × Ru),StR 0 r x.2->StR 0 r x.2) (br (decide (l.o=21)) ((∃(y:Nat),jJG r y)/\∀(x:Unit × Ru),StR 0 r x.2->StR 0 r x.2) (br (decide (l.o=24)) (jJ0 r.g/\∀(x:Va × Unit),vIn x.1->(∃(y:Nat),jJG r y)/\∀(x:Bool × Ru),StR 0 r x.2->br x.1 ((∃(y:Nat),jJG x.2 y)/\∀(x_1:Unit × Ru),StR 0 x.2 x_1.2->StR 0 r x_1.2) (StR 0 r x.2)) (br (decide (l.o=25)) (jJ0 r.g/\∀(x:Va × Unit),vIn x.1->(∃(y:Nat),jJG r y)/\∀(x:Bool × Ru),StR 0 r x.2->br x.1 ((∃(y:Nat),jJG x.2 y)/\∀(x_1:Unit × Ru),StR 0 x.2 x_1.2->StR 0 r x_1.2) (StR 0 r x.2)) (StR 0 r r)))))))) (by kernel_rfl) (by
 have M:∃b,jJG r b:=⟨_,h⟩
 have B:=h.g
 have P:∀x:Bool × Ru,StR 0 r x.2->(x.1=true->(∃y,jJG x.2 y)/\∀y:Unit × Ru,StR 0 x.2 y.2->StR 0 r y.2)/\(x.1=false->StR 0 r x.2):=fun x q=>⟨fun _=>⟨⟨b,q.ok b h⟩,fun _ q2=>q.trans q2⟩,fun _=>q⟩
 have O:∀x:Unit × Ru,StR 0 r x.2->StR 0 r x.2:=fun _ h=>h
 have E:(∃y,jJG r y)/\∀x:Unit × Ru,StR 0 r x.2->StR 0 r x.2:=⟨M,O⟩
 have J:jJ0 r.g/\∀x:Va × Unit,vIn x.1->(∃y,jJG r y)/\∀x:Bool × Ru,StR 0 r x.2->(x.1=true->(∃y,jJG x.2 y)/\∀y:Unit × Ru,StR 0 x.2 y.2->StR 0 r y.2)/\(x.1=false->StR 0 r x.2):=⟨B,fun _ _=>⟨M,P⟩⟩
 have G:(decide (l.o=26)=true->(∃y,jJG r y)/\∀x:Unit × Ru,StR 0 r x.2->StR 0 r x.2)/\(decide (l.o=26)=false->(decide (l.o=22)=true->(∃y,jJG r y)/\∀x:Unit × Ru,StR 0 r x.2->StR 0 r x.2)/\(decide (l.o=22)=false->(decide (l.o=21)=true->(∃y,jJG r y)/\∀x:Unit × Ru,StR 0 r x.2->StR 0 r x.2)/\(decide (l.o=21)=false->(decide (l.o=24)=true->_)/\(decide (l.o=24)=false->(decide (l.o=25)=true->_)/\(decide (l.o=25)=false->StR 0 r r))))):=⟨fun _=>E,fun _=>⟨fun _=>E,fun _=>⟨fun _=>E,fun _=>⟨fun _=>J,fun _=>⟨fun _=>J,fun _=>StR.refl 0 r⟩⟩⟩⟩⟩
 exact⟨B,fun _ _=>⟨fun _=>⟨rfl,B,fun _ _=>G⟩,fun _=>⟨fun _=>⟨B,fun _ _=>G⟩,fun _=>G⟩⟩⟩)
theorem jWd {r:Ru}{b:Nat}(h:jJG r b) (l:Lu) (hl:jKm l):Tot T (cSt 1 r True) 113 [pR r,pU l]:=vN hm jNp Tryz.func113 (br (decide (l.o=20)) (br (decide (l.o=23)) (jJ0 r.g/\∀(x:Va × Unit),vIn x.1->br x.1.b (True/\∀(x:Unit × Ru),StR 0 r x.2->StR 1 r x.2) (br (decide (x.1.n<0)) (true=true/\True/\∀(x:Unit × Ru),StR 0 r x.2->StR 1 r x.2) (br (decide (x.1.n >32)) (True/\∀(x:Unit × Ru),StR 0 r x.2->StR 1 r x.2) (jJ0 r.g/\∀(x_1:Va × Unit),vIn x_1.1->((∃(y:Nat),∃(y_1:Nat),jJJ r.hp y y_1/\y<=1000000/\sm x.1.n)/\vIn x_1.1)/\∀(x:(Va × Bool) × Hp),NwR r.hp x.2 x.1.1->br (!x.1.2) (True/\∀(x_2:Unit × Ru),StR 0 {F:=r.F,K:=r.K,L:=r.L,dp:=r.dp,inn:=r.inn,nx:=r.nx,g:=r.g,fr:=r.fr,hp:=x.2,gr:=r.gr,er:=r.er,vl:=r.vl,out:=r.out,st:=r.st,rd:=r.rd} x_2.2->StR 1 r x_2.2) (True/\∀(x_2:Unit × Ru),GR {F:=r.F,K:=r.K,L:=r.L,dp:=r.dp,inn:=r.inn,nx:=r.nx,g:={b0:=false,n0:=0,b1:=false,n1:=0,b2:=false,n2:=0,b3:=false,n3:=0,b4:=false,n4:=0,b5:=false,n5:=0,b6:=false,n6:=0,b7:=false,n7:=0},fr:=r.fr,hp:=x.2,gr:=r.gr,er:=r.er,vl:=r.vl,out:=r.out,st:=r.st,rd:=r.rd} x.1.1 x_2.2->StR 1 r x_2.2))))) (((∃(y:Nat),∃(y_1:Nat),jJJ r.hp y y_1/\y<=1000000/\sm l.x)/\vIn {b:=false,n:=0})/\∀(x:(Va × Bool) × Hp),NwR r.hp x.2 x.1.1->br (!x.1.2) (True/\∀(x_1:Unit × Ru),StR 0 {F:=r.F,K:=r.K,L:=r.L,dp:=r.dp,inn:=r.inn,nx:=r.nx,g:=r.g,fr:=r.fr,hp:=x.2,gr:=r.gr,er:=r.er,vl:=r.vl,out:=r.out,st:=r.st,rd:=r.rd} x_1.2->StR 1 r x_1.2) (True/\∀(x_1:Unit × Ru),GR {F:=r.F,K:=r.K,L:=r.L,dp:=r.dp,inn:=r.inn,nx:=r.nx,g:={b0:=false,n0:=0,b1:=false,n1:=0,b2:=false,n2:=0,b3:=false,n3:=0,b4:=false,n4:=0,b5:=false,n5:=0,b6:=false,n6:=0,b7:=false,n7:=0},fr:=r.fr,hp:=x.2,gr:=r.gr,er:=r.er,vl:=r.vl,out:=r.out,st:=r.st,rd:=r.rd} x.1.1 x_1.2->StR 1 r x_1.2))) (br (decide (l.o=23)) (jJ0 r.g/\∀(x:Va × Unit),vIn x.1->br x.1.b (True/\∀(x:Unit × Ru),StR 0 r x.2->StR 1 r x.2) (br (decide (x.1.n<0)) (true=true/\True/\∀(x:Unit × Ru),StR 0 r x.2->StR 1 r x.2) (br (decide (x.1.n >32)) (True/\∀(x:Unit × Ru),StR 0 r x.2->StR 1 r x.2) (jJ0 r.g/\∀(x_1:Va × Unit),vIn x_1.1->((∃(y:Nat),∃(y_1:Nat),jJJ r.hp y y_1/\y<=1000000/\sm x.1.n)/\vIn x_1.1)/\∀(x:(Va × Bool) × Hp),NwR r.hp x.2 x.1.1->br (!x.1.2) (True/\∀(x_2:Unit × Ru),StR 0 {F:=r.F,K:=r.K,L:=r.L,dp:=r.dp,inn:=r.inn,nx:=r.nx,g:=r.g,fr:=r.fr,hp:=x.2,gr:=r.gr,er:=r.er,vl:=r.vl,out:=r.out,st:=r.st,rd:=r.rd} x_2.2->StR 1 r x_2.2) (True/\∀(x_2:Unit × Ru),GR {F:=r.F,K:=r.K,L:=r.L,dp:=r.dp,inn:=r.inn,nx:=r.nx,g:={b0:=false,n0:=0,b1:=false,n1:=0,b2:=false,n2:=0,b3:=false,n3:=0,b4:=false,n4:=0,b5:=false,n5:=0,b6:=false,n6:=0,b7:=false,n7:=0},fr:=r.fr,hp:=x.2,gr:=r.gr,er:=r.er,vl:=r.vl,out:=r.out,st:=r.st,rd:=r.rd} x.1.1 x_2.2->StR 1 r x_2.2))))) (((∃(y:Nat),∃(y_1:Nat),jJJ r.hp y y_1/\y<=1000000/\sm l.x)/\vIn {b:=false,n:=0})/\∀(x:(Va × Bool) × Hp),NwR r.hp x.2 x.1.1->br (!x.1.2) (True/\∀(x_1:Unit × Ru),StR 0 {F:=r.F,K:=r.K,L:=r.L,dp:=r.dp,inn:=r.inn,nx:=r.nx,g:=r.g,fr:=r.fr,hp:=x.2,gr:=r.gr,er:=r.er,vl:=r.vl,out:=r.out,st:=r.st,rd:=r.rd} x_1.2->StR 1 r x_1.2) (True/\∀(x_1:Unit × Ru),GR {F:=r.F,K:=r.K,L:=r.L,dp:=r.dp,inn:=r.inn,nx:=r.nx,g:={b0:=false,n0:=0,b1:=false,n1:=0,b2:=false,n2:=0,b3:=false,n3:=0,b4:=false,n4:=0,b5:=false,n5:=0,b6:=false,n6:=0,b7:=false,n7:=0},fr:=r.fr,hp:=x.2,gr:=r.gr,er:=r.er,vl:=r.vl,out:=r.out,st:=r.st,rd:=r.rd} x.1.1 x_1.2->StR 1 r x_1.2)))) (by kernel_rfl) (by
 have E:=h.g
 have J:∀z:Int,sm z->∃n s,jJJ r.hp n s/\n<=1000000/\sm z:=fun z hz=>by
  obtain⟨n,B,h2⟩:=h.hp;exact⟨n,0,B,by have:=h.st;omega,hz⟩
 have M:∀(k:Hp) (g:Rg),jJ0 g->HpR 1 r.hp k->StR 1 r {r with g:=g,hp:=k}:=fun k g E hk=>⟨fun b q=>{q with g:=E,hp:=by obtain⟨n,B,h2⟩:=q.hp;exact⟨n+1,hk.r n 0 B,by dsimp only;omega⟩},rfl,rfl⟩
 have G:True/\∀x:Unit × Ru,StR 0 r x.2->StR 1 r x.2:=⟨trivial,fun _ q=>q.up (by omega)⟩
 have nb:∀x:(Va × Bool) × Hp,NwR r.hp x.2 x.1.1->((!x.1.2)=true->True/\∀y:Unit × Ru,StR 0 {r with hp:=x.2} y.2->StR 1 r y.2)/\((!x.1.2)=false->True/\∀y:Unit × Ru,GR {r with g:=⟨false,0,false,0,false,0,false,0,false,0,false,0,false,0,false,0⟩,hp:=x.2} x.1.1 y.2->StR 1 r y.2):=fun x hx=>⟨fun _=>⟨trivial,fun y q=>(M x.2 r.g E hx.r).trans q⟩,fun _=>⟨trivial,fun y q=>(M x.2 _ jO4 hx.r).trans (q.st hx.v)⟩⟩
 refine⟨fun _=>⟨fun _=>?_,fun _=>⟨⟨J _ hl.x,jKY _⟩,nb⟩⟩,fun _=>⟨fun _=>?_,fun _=>⟨⟨J _ hl.x,jKY _⟩,nb⟩⟩⟩
 all_goals
  refine⟨E,fun⟨v,_⟩ _=>⟨fun _=>G,fun _=>⟨fun _=>⟨rfl,G⟩,fun B=>⟨fun _=>G,fun h2=>⟨E,fun _ hv=>⟨⟨J _ ?_,hv⟩,nb⟩⟩⟩⟩⟩⟩;have B:=df B;have h2:=df h2
  dsimp only at B h2 ⊢
  exact jJH (by omega) (by omega))
theorem jWc {r:Ru}{b:Nat}(h:jJG r b) (l:Lu):Tot T (cSt 0 r True) 117 [pR r,pU l]:=vN hm jNp Tryz.func117 (br (decide (l.o=30)) (true=true/\jJ0 r.g/\∀(x:Va × Unit),vIn x.1->(∃(y:Nat),∃(y_1:Nat),jJJ r.hp y y_1)/\∀(x:Int × Unit),True->br (decide (x.1=(-1))) (decide (x.1=(-1))=true/\decide (x.1=(-1))=true/\decide (x.1=(-1))=true/\decide (x.1=(-1))=true/\decide (x.1=(-1))=true/\decide (x.1=(-1))=true/\decide (x.1=(-1))=true/\decide (x.1=(-1))=true/\decide (x.1=(-1))=true/\decide (x.1=(-1))=true/\true=true/\True/\∀(x:Unit × Ru),StR 0 r x.2->StR 0 r x.2) (decide (x.1=(-1))=false/\decide (x.1=(-1))=false/\decide (x.1=(-1))=false/\decide (x.1=(-1))=false/\decide (x.1=(-1))=false/\(∀(e:List C),e ∈ r.F->∃(y:CfS),e=fCF.f y/\jKn y)/\∀(x_1:CfS × Unit),jKn x_1.1->decide (x.1=(-1))=false/\decide (x.1=(-1))=false/\decide (x.1=(-1))=false/\decide (x.1=(-1))=false/\decide (x.1=(-1))=false/\br (decide (x_1.1.b≠l.x)) (True/\∀(x:Unit × Ru),StR 0 r x.2->StR 0 r x.2) (br (decide (l.o=31)) (true=true/\(∃(y:Nat),jJG r y)/\∀(x:Int × Ru),StR 0 r x.2->br (decide (↑x.2.fr.length>=x.2.dp)) (True/\∀(x_2:Unit × Ru),StR 0 x.2 x_2.2->StR 0 r x_2.2) (((∃(y:Nat),jJG x.2 y)/\x.2.fr.length<=100000)/\∀(x_2:Unit × Ru),StR 0 x.2 x_2.2->StR 0 r x_2.2)) (br (decide (l.o=32)) ((∃(y:Nat),jJG r y)/\∀(x:Int × Ru),StR 0 r x.2->br (decide (↑x.2.fr.length>=x.2.dp)) (True/\∀(x_2:Unit × Ru),StR 0 x.2 x_2.2->StR 0 r x_2.2) (((∃(y:Nat),jJG x.2 y)/\x.2.fr.length<=100000)/\∀(x_2:Unit × Ru),StR 0 x.2 x_2.2->StR 0 r x_2.2)) (br (decide (↑r.fr.length>=r.dp)) (True/\∀(x:Unit × Ru),StR 0 r x.2->StR 0 r x.2) (((∃(y:Nat),jJG r y)/\r.fr.length<=100000)/\∀(x:Unit × Ru),StR 0 r x.2->StR 0 r x.2)))))) (br (decide (l.o=32)) (jJ0 r.g/\∀(x:Va × Unit),vIn x.1->(∃(y:Nat),∃(y_1:Nat),jJJ r.hp y y_1)/\∀(x:Int × Unit),True->br (decide (x.1=(-1))) (decide (x.1=(-1))=true/\decide (x.1=(-1))=true/\decide (x.1=(-1))=true/\decide (x.1=(-1))=true/\decide (x.1=(-1))=true/\decide (x.1=(-1))=true/\decide (x.1=(-1))=true/\decide (x.1=(-1))=true/\decide (x.1=(-1))=true/\decide (x.1=(-1))=true/\true=true/\True/\∀(x:Unit × Ru),StR 0 r x.2->StR 0 r x.2) (decide (x.1=(-1))=false/\decide (x.1=(-1))=false/\decide (x.1=(-1))=false/\decide (x.1=(-1))=false/\decide (x.1=(-1))=false/\(∀(e:List C),e ∈ r.F->∃(y:CfS),e=fCF.f y/\jKn y)/\∀(x_1:CfS × Unit),jKn x_1.1->decide (x.1=(-1))=false/\decide (x.1=(-1))=false/\decide (x.1=(-1))=false/\decide (x.1=(-1))=false/\decide (x.1=(-1))=false/\br (decide (x_1.1.b≠l.x)) (True/\∀(x:Unit × Ru),StR 0 r x.2->StR 0 r x.2) (br (decide (l.o=31)) (true=true/\(∃(y:Nat),jJG r y)/\∀(x:Int × Ru),StR 0 r x.2->br (decide (↑x.2.fr.length>=x.2.dp)) (True/\∀(x_2:Unit × Ru),StR 0 x.2 x_2.2->StR 0 r x_2.2) (((∃(y:Nat),jJG x.2 y)/\x.2.fr.length<=100000)/\∀(x_2:Unit × Ru),StR 0 x.2 x_2.2->StR 0 r x_2.2)) (br (decide (l.o=32)) ((∃(y:Nat),jJG r y)/\∀(x:Int × Ru),StR 0 r x.2->br (decide (↑x.2.fr.length>=x.2.dp)) (True/\∀(x_2:Unit × Ru),StR 0 x.2 x_2.2->StR 0 r x_2.2) (((∃(y:Nat),jJG x.2 y)/\x.2.fr.length<=100000)/\∀(x_2:Unit × Ru),StR 0 x.2 x_2.2->StR 0 r x_2.2)) (br (decide (↑r.fr.length>=r.dp)) (True/\∀(x:Unit × Ru),StR 0 r x.2->StR 0 r x.2) (((∃(y:Nat),jJG r y)/\r.fr.length<=100000)/\∀(x:Unit × Ru),StR 0 r x.2->StR 0 r x.2)))))) (br (decide (l.o=31)) (true=true/\(∃(y:Nat),jJG r y)/\∀(x:Int × Ru),StR 0 r x.2->br (decide (↑x.2.fr.length>=x.2.dp)) (True/\∀(x_1:Unit × Ru),StR 0 x.2 x_1.2->StR 0 r x_1.2) (((∃(y:Nat),jJG x.2 y)/\x.2.fr.length<=100000)/\∀(x_1:Unit × Ru),StR 0 x.2 x_1.2->StR 0 r x_1.2)) (br (decide (l.o=32)) ((∃(y:Nat),jJG r y)/\∀(x:Int × Ru),StR 0 r x.2->br (decide (↑x.2.fr.length>=x.2.dp)) (True/\∀(x_1:Unit × Ru),StR 0 x.2 x_1.2->StR 0 r x_1.2) (((∃(y:Nat),jJG x.2 y)/\x.2.fr.length<=100000)/\∀(x_1:Unit × Ru),StR 0 x.2 x_1.2->StR 0 r x_1.2)) (br (decide (↑r.fr.length>=r.dp)) (True/\∀(x:Unit × Ru),StR 0 r x.2->StR 0 r x.2) (((∃(y:Nat),jJG r y)/\r.fr.length<=100000)/\∀(x:Unit × Ru),StR 0 r x.2->StR 0 r x.2)))))) (by kernel_rfl) (by
 have G:∃b,jJG r b:=⟨_,h⟩
 have M:=h.g;have hp:∃n s,jJJ r.hp n s:=by obtain⟨n,B,_⟩:=h.hp;exact⟨n,0,B⟩
 have O:∀x:Unit × Ru,StR 0 r x.2->StR 0 r x.2:=fun _ h=>h
 have E:True/\∀x:Unit × Ru,StR 0 r x.2->StR 0 r x.2:=⟨trivial,O⟩
 have ln:∀{q:Ru}{b:Nat},jJG q b->decide ((q.fr.length:Int)>=q.dp)=false->q.fr.length<=100000:=fun {q b} h B=>by
  have B:=df B;have:=h.dp;omega
 have J:∀x:Int × Ru,StR 0 r x.2->(decide ((x.2.fr.length:Int)>=x.2.dp)=true->True/\∀y:Unit × Ru,StR 0 x.2 y.2->StR 0 r y.2)/\(decide ((x.2.fr.length:Int)>=x.2.dp)=false->((∃y,jJG x.2 y)/\x.2.fr.length<=100000)/\∀y:Unit × Ru,StR 0 x.2 y.2->StR 0 r y.2):=fun x q=>⟨fun _=>⟨trivial,fun _ p=>q.trans p⟩,fun B=>⟨⟨⟨b,q.ok b h⟩,ln (q.ok b h) B⟩,fun _ p=>q.trans p⟩⟩
 have P:(decide (l.o=31)=true->true=true/\(∃y,jJG r y)/\∀x:Int × Ru,StR 0 r x.2->_)/\(decide (l.o=31)=false->(decide (l.o=32)=true->(∃y,jJG r y)/\∀x:Int × Ru,StR 0 r x.2->_)/\(decide (l.o=32)=false->(decide ((r.fr.length:Int)>=r.dp)=true->True/\∀x:Unit × Ru,StR 0 r x.2->StR 0 r x.2)/\(decide ((r.fr.length:Int)>=r.dp)=false->((∃y,jJG r y)/\r.fr.length<=100000)/\∀x:Unit × Ru,StR 0 r x.2->StR 0 r x.2))):=⟨fun _=>⟨rfl,G,J⟩,fun _=>⟨fun _=>⟨G,J⟩,fun _=>⟨fun _=>E,fun B=>⟨⟨G,ln h B⟩,O⟩⟩⟩⟩
 have hF:=h.F;refine⟨fun _=>⟨rfl,M,fun _ _=>⟨hp,fun x _=>?_⟩⟩,fun _=>⟨fun _=>⟨M,fun _ _=>⟨hp,fun x _=>?_⟩⟩,fun _=>P⟩⟩
 all_goals exact⟨fun B=>⟨B,B,B,B,B,B,B,B,B,B,rfl,E⟩,fun B=>⟨B,B,B,B,B,hF,fun _ _=>⟨B,B,B,B,B,fun _=>E,fun _=>P⟩⟩⟩)
theorem jVV {r:Ru}{b:Nat}(h:jJG r b):Tot T (cSt 0 r True) 118 [pR r]:=vN hm jNp Tryz.func118 (jJ0 r.g/\∀(x:Va × Unit),vIn x.1->br (decide (↑r.fr.length >(1:Int))) ((∃(y:Nat),jJG r y)/\∀(x:Int × Ru),StR 0 r x.2->StR 0 r {F:=x.2.F,K:=x.2.K,L:=x.2.L,dp:=x.2.dp,inn:=x.2.inn,nx:=x.1,g:=x.2.g,fr:=x.2.fr,hp:=x.2.hp,gr:=x.2.gr,er:=x.2.er,vl:=x.2.vl,out:=x.2.out,st:=x.2.st,rd:=x.2.rd}) (br x.1.b (True/\∀(x:Unit × Ru),StR 0 r x.2->StR 0 r x.2) (True/\∀(x_1:Unit × Ru),StR 0 {F:=r.F,K:=r.K,L:=r.L,dp:=r.dp,inn:=r.inn,nx:=r.nx,g:=r.g,fr:=r.fr,hp:=r.hp,gr:=r.gr,er:=r.er,vl:=x.1.n,out:=r.out,st:=r.st,rd:=r.rd} x_1.2->StR 0 r x_1.2))) (by kernel_rfl) (by
 have z:∀n,inI n->StR 0 r {r with vl:=n}:=fun n hn=>⟨fun b q=>{q with hp:=q.hp,vl:=hn},rfl,rfl⟩
 refine⟨h.g,fun _ hv=>⟨fun _=>⟨⟨_,h⟩,fun x q=>q.trans (k':=0) ⟨fun b p=>{p with hp:=p.hp},rfl,rfl⟩⟩,fun _=>⟨fun _=>⟨trivial,fun _ h=>h⟩,fun _=>⟨trivial,fun _ q=>(z _ hv.n).trans q⟩⟩⟩⟩)
def jQA:Cts:=ctp 114 (kA (aC (aP fR) <|aC (aG fU) aN) fun a=>cSt 0 a.1 (∃b,jJG a.1 b)) <|ctp 113 (kA (aC (aP fR) <|aC (aG fU) aN) fun a=>cSt 1 a.1 ((∃b,jJG a.1 b)/\jKm a.2.1)) <|ctp 117 (kA (aC (aP fR) <|aC (aG fU) aN) fun a=>cSt 0 a.1 (∃b,jJG a.1 b)) <|ctp 118 (kA (aC (aP fR) aN) fun a=>cSt 0 a.1 (∃b,jJG a.1 b)) jQB
theorem jQz:Good T jQA:=by
 unfold jQA;refine Good.add (Good.add (Good.add (Good.add jNp ?_) ?_) ?_) ?_
 .rintro a ⟨b,h⟩;exact jVV h
 .rintro a ⟨b,h⟩;exact jWc h _
 .rintro a ⟨⟨b,h⟩,hl⟩;exact jWd h _ hl
 .rintro a ⟨b,h⟩;exact jUV h _
structure jMd (r r':Ru):Prop where
 ok:jJG r' 0
 st:r'.st=r.st+1
 gr:r'.gr=r.gr
end V
end Go.Proofs.YtnhbcdnmfafbiaaGreatDoor
set_option maxRecDepth 100000
namespace Go.Proofs.YtnhbcdnmfafbiaaGreatDoor
namespace V
open Go.Proofs
def Ru.nxt (r:Ru):Ru:={r with nx:=wr (r.nx+1),st:=wr (r.st+1)}
def stA (r:Ru):Prop:=(∃y:Nat,jJG r.nxt y)/\∀x:Unit × Ru,StR 0 r.nxt x.2->jMd r x.2
def stB (r:Ru):Prop:=True/\∀x:Unit × Ru,StR 0 r.nxt x.2->jMd r x.2
def stC (r:Ru) (l:Lu):Prop:=((∃y:Nat,jJG r.nxt y)/\jKm l)/\∀x:Unit × Ru,StR 1 r.nxt x.2->jMd r x.2
theorem jVK {r:Ru}(h:jJG r 0) (hs:r.st<=90000):Tot T (mkc r0 bR (fun _ r'=>jMd r r') True) 58 [pR r]:=vN hm jQz Tryz.func58 ((∀(e:List C),e ∈ r.L->∃(y:Lu),e=fU.f y/\jKm y)/\∀(x:Lu × Unit),jKm x.1->br (decide (x.1.o>=1)) (br (decide (x.1.o<=6)) (stA r) (br (decide (x.1.o>=7)) (br (decide (x.1.o<=16)) (stA r) (br (decide (x.1.o=17)) (true=true/\stA r) (br (decide (x.1.o=18)) (stA r) (br (decide (x.1.o=19)) (true=true/\stC r x.1) (br (decide (x.1.o=20)) (true=true/\stC r x.1) (br (decide (x.1.o=23)) (stC r x.1) (br (decide (x.1.o>=21)) (br (decide (x.1.o<=26)) (stA r) (br (decide (x.1.o=27)) (stA r) (br (decide (x.1.o=28)) (stA r) (br (decide (x.1.o>=29)) (br (decide (x.1.o<=32)) (stA r) (br (decide (x.1.o=33)) (stA r) (stB r))) (false=false/\br (decide (x.1.o=33)) (stA r) (stB r)))))) (false=false/\br (decide (x.1.o=27)) (stA r) (br (decide (x.1.o=28)) (stA r) (br (decide (x.1.o>=29)) (br (decide (x.1.o<=32)) (stA r) (br (decide (x.1.o=33)) (stA r) (stB r))) (false=false/\br (decide (x.1.o=33)) (stA r) (stB r)))))))))))) (false=false/\br (decide (x.1.o=17)) (true=true/\stA r) (br (decide (x.1.o=18)) (stA r) (br (decide (x.1.o=19)) (true=true/\stC r x.1) (br (decide (x.1.o=20)) (true=true/\stC r x.1) (br (decide (x.1.o=23)) (stC r x.1) (br (decide (x.1.o>=21)) (br (decide (x.1.o<=26)) (stA r) (br (decide (x.1.o=27)) (stA r) (br (decide (x.1.o=28)) (stA r) (br (decide (x.1.o>=29)) (br (decide (x.1.o<=32)) (stA r) (br (decide (x.1.o=33)) (stA r) (stB r))) (false=false/\br (decide (x.1.o=33)) (stA r) (stB r)))))) (false=false/\br (decide (x.1.o=27)) (stA r) (br (decide (x.1.o=28)) (stA r) (br (decide (x.1.o>=29)) (br (decide (x.1.o<=32)) (stA r) (br (decide (x.1.o=33)) (stA r) (stB r))) (false=false/\br (decide (x.1.o=33)) (stA r) (stB r))))))))))))) (false=false/\br (decide (x.1.o>=7)) (br (decide (x.1.o<=16)) (stA r) (br (decide (x.1.o=17)) (true=true/\stA r) (br (decide (x.1.o=18)) (stA r) (br (decide (x.1.o=19)) (true=true/\stC r x.1) (br (decide (x.1.o=20)) (true=true/\stC r x.1) (br (decide (x.1.o=23)) (stC r x.1) (br (decide (x.1.o>=21)) (br (decide (x.1.o<=26)) (stA r) (br (decide (x.1.o=27)) (stA r) (br (decide (x.1.o=28)) (stA r) (br (decide (x.1.o>=29)) (br (decide (x.1.o<=32)) (stA r) (br (decide (x.1.o=33)) (stA r) (stB r))) (false=false/\br (decide (x.1.o=33)) (stA r) (stB r)))))) (false=false/\br (decide (x.1.o=27)) (stA r) (br (decide (x.1.o=28)) (stA r) (br (decide (x.1.o>=29)) (br (decide (x.1.o<=32)) (stA r) (br (decide (x.1.o=33)) (stA r) (stB r))) (false=false/\br (decide (x.1.o=33)) (stA r) (stB r)))))))))))) (false=false/\br (decide (x.1.o=17)) (true=true/\stA r) (br (decide (x.1.o=18)) (stA r) (br (decide (x.1.o=19)) (true=true/\stC r x.1) (br (decide (x.1.o=20)) (true=true/\stC r x.1) (br (decide (x.1.o=23)) (stC r x.1) (br (decide (x.1.o>=21)) (br (decide (x.1.o<=26)) (stA r) (br (decide (x.1.o=27)) (stA r) (br (decide (x.1.o=28)) (stA r) (br (decide (x.1.o>=29)) (br (decide (x.1.o<=32)) (stA r) (br (decide (x.1.o=33)) (stA r) (stB r))) (false=false/\br (decide (x.1.o=33)) (stA r) (stB r)))))) (false=false/\br (decide (x.1.o=27)) (stA r) (br (decide (x.1.o=28)) (stA r) (br (decide (x.1.o>=29)) (br (decide (x.1.o<=32)) (stA r) (br (decide (x.1.o=33)) (stA r) (stB r))) (false=false/\br (decide (x.1.o=33)) (stA r) (stB r))))))))))))) (by kernel_rfl) (by
 have J:=h.st;have E:wr (r.st+1)=r.st+1:=jKX (by omega) (by omega)
 have n1:jJG r.nxt 1:={h with
  hp:=by obtain⟨n,G,h2⟩:=h.hp;exact⟨n,G,by show((n+1:Nat):Int)<=wr (r.st+1);omega⟩
  st:=by show 0<=wr (r.st+1)/\wr (r.st+1)<=100000;omega}
 have z:∀{k:Nat}{x:Ru},k<=1->StR k r.nxt x->jMd r x:=fun {k x} hk q=>⟨q.ok 0 (n1.up (by omega)),by rw[q.st];exact E,by rw[q.gr];rfl⟩
 have a:stA r:=⟨⟨_,n1⟩,fun _ q=>z (by omega) q⟩
 have B:stB r:=⟨trivial,fun _ q=>z (by omega) q⟩
 refine⟨h.L,fun⟨l,_⟩ hl=>?_⟩
 have c:stC r l:=⟨⟨⟨_,n1⟩,hl⟩,fun _ q=>z (by omega) q⟩
 repeat' first|exact a|exact B|exact c|rfl|refine⟨?_,?_⟩|intro _)
end V
end Go.Proofs.YtnhbcdnmfafbiaaGreatDoor
set_option maxRecDepth 100000
namespace Go.Proofs.YtnhbcdnmfafbiaaGreatDoor
namespace V
open Go.Proofs
structure Rs where
 (e v:Int)
 (o:List (List C))
 (s r g u:Int)
def fRs:Pz (List C):=⟨Rs,fun x=>[I x.e,.ui,I x.v,.r false 1 x.o,I x.s,I x.r,I x.g,I x.u],fun l=>match l with
 |[.i .i64 e,.ui,.i .i64 v,.r false 1 o,.i .i64 s,.i .i64 r,.i .i64 g,.i .i64 u]=>some ⟨e,v,o,s,r,g,u⟩
 |_=>none,fun b x e=>by split at e <;> cases e;rfl⟩
structure RsR (r:Ru) (x:Rs):Prop where
 e:x.e=r.er
 v:x.v=r.vl
 o:Rw fI (fun _=>True) x.o
 n:x.o.length<=1000
theorem jVX {r:Ru}{b:Nat}(h:jJG r b):Tot T (mkc (rS fRs) b0 (fun x _=>RsR r x) True) 59 [qR r]:=vR hm jQz [(2,3)] [false] Tryz.func59 (br (decide (↑r.out.length >(0:Int))) ((0:Int)<=↑r.out.length/\(0:Int)<=↑r.out.length/\((r.out.length:Int).toNat<=(r.out.length:Int).toNat/\(r.out.length:Int).toNat<=4000000000)/\(r.out.length=(List.replicate (r.out.length:Int).toNat [iz IntKind.i64]).length/\0<r.out.length/\pln r.out)/\pln r.out/\RsR r {e:=r.er,v:=r.vl,o:=r.out,s:=r.st,r:=r.rd,g:=r.hp.gc,u:=r.hp.us}) (RsR r {e:=r.er,v:=r.vl,o:=[],s:=r.st,r:=r.rd,g:=r.hp.gc,u:=r.hp.us})) (by kernel_rfl) (by
 have ol:=h.ol;refine⟨fun B=>?_,fun _=>⟨rfl,rfl,Rw.nil,by simp⟩⟩;have B:=dt B;have pl:=h.o.plx fun _=>rfl
 exact⟨by omega,by omega,⟨by omega,by omega⟩,⟨by rw[List.length_replicate];omega,by omega,pl⟩,pl,⟨rfl,rfl,h.o,ol⟩⟩)
def jQy:Cts:=ctp 58 (kA (aC (aP fR) aN) fun a=>mkc r0 bR (fun _ r'=>jMd a.1 r') (jJG a.1 0/\a.1.st<=90000)) <|ctp 59 (kA (aC (aQ fR) aN) fun a=>mkc (rS fRs) b0 (fun x _=>RsR a.1 x) (∃b,jJG a.1 b)) jQA
theorem jTV:Good T jQy:=by
 unfold jQy;refine Good.add (Good.add jQz ?_) ?_
 .rintro a ⟨b,h⟩;exact jVX h
 .rintro a ⟨h,h2⟩;exact jVK h h2
structure GoI (g:Int) (r':Ru):Prop where
 q1:jJG r' 0
 q2:r'.gr=g
 q3:r'.st<=g
def goT:Rl Av:=.cons 0 (tA 0) <| .cons 4 (tA 4) .nil
def goR:Rl Rt:=.cons 0 (rX 0 fR) <| .cons 4 (rX 1 fRs) .nil
def goH (r:Ru) (n:Int):Hy:=⟨hM,[],[],[(4,.iv goT goR (fun a=>GoI (r.gr+n) a.2.1) fun a=>(r.gr+n-a.2.1.st).toNat)]⟩
structure GoR (x:Rs):Prop where
 o:Rw fI (fun _=>True) x.o
 v:inI x.v
 n:x.o.length<=1000
theorem jYr {r:Ru}(h:jJG r 0) (M:0<=r.gr/\r.gr<=65536) (hs:r.st<=r.gr) (n:Int):Tot T (mkc (rS fRs) bR (fun x r'=>GoR x) True) 31 [pR r,pI n]:=vR (goH r n) jTV [(4,3)] [false] Tryz.func31 (br (decide (n<0)) (true=true/\GoR {e:=24,v:=0,o:=[],s:=0,r:=0,g:=0,u:=0}) (br (decide (n >wr (65536-r.gr))) (GoR {e:=24,v:=0,o:=[],s:=0,r:=0,g:=0,u:=0}) (GoI (r.gr+n) {F:=r.F,K:=r.K,L:=r.L,dp:=r.dp,inn:=r.inn,nx:=r.nx,g:=r.g,fr:=r.fr,hp:=r.hp,gr:=wr (r.gr+n),er:=r.er,vl:=r.vl,out:=r.out,st:=r.st,rd:=r.rd}/\∀(a:(Unit × Unit × Unit) × Ru × Rs × Unit),GoI (r.gr+n) a.2.1->br (decide (a.2.1.er=42)) (decide (a.2.1.er=42)=true/\decide (a.2.1.er=42)=true/\decide (a.2.1.er=42)=true/\decide (a.2.1.er=42)=true/\decide (a.2.1.er=42)=true/\decide (a.2.1.er=42)=true/\decide (a.2.1.er=42)=true/\decide (a.2.1.er=42)=true/\decide (a.2.1.er=42)=true/\br (decide (a.2.1.st<a.2.1.gr)) ((jJG a.2.1 0/\a.2.1.st<=90000)/\∀(x:Unit × Ru),jMd a.2.1 x.2->GoI (r.gr+n) x.2/\(r.gr+n-x.2.st).toNat<(r.gr+n-a.2.1.st).toNat) ((∃(y:Nat),jJG a.2.1 y)/\∀(x:Rs × Unit),RsR a.2.1 x.1->GoR x.1)) (decide (a.2.1.er=42)=false/\decide (a.2.1.er=42)=false/\decide (a.2.1.er=42)=false/\decide (a.2.1.er=42)=false/\decide (a.2.1.er=42)=false/\decide (a.2.1.er=42)=false/\decide (a.2.1.er=42)=false/\decide (a.2.1.er=42)=false/\decide (a.2.1.er=42)=false/\false=false/\(∃(y:Nat),jJG a.2.1 y)/\∀(x:Rs × Unit),RsR a.2.1 x.1->GoR x.1)))) (by kernel_rfl) (by
 have G:wr (65536-r.gr)=65536-r.gr:=jKX (by omega) (by omega);rw[G]
 have z:inI 0:=⟨by omega,by omega⟩
 refine⟨fun _=>⟨rfl,⟨Rw.nil,z,by simp⟩⟩,fun B=>⟨fun _=>⟨Rw.nil,z,by simp⟩,fun h2=>?_⟩⟩;have B:=df B;have h2:=df h2;have J:wr (r.gr+n)=r.gr+n:=jKX (by omega) (by omega);rw[J];refine⟨⟨{h with hp:=h.hp},rfl,by show r.st<=_;omega⟩,fun⟨_,r',x,_⟩ ⟨q1,q2,q3⟩=>?_⟩
 dsimp only at q1 q2 q3 ⊢
 have fin:(∃y,jJG r' y)/\∀x:Rs × Unit,RsR r' x.1->GoR x.1:=⟨⟨_,q1⟩,fun x hx=>⟨hx.o,by rw[hx.v];exact q1.vl,hx.n⟩⟩
 refine⟨fun h3=>⟨h3,h3,h3,h3,h3,h3,h3,h3,h3,fun E=>⟨⟨q1,by omega⟩,fun⟨_,r2⟩ p=>?_⟩,fun _=>fin⟩,fun h3=>⟨h3,h3,h3,h3,h3,h3,h3,h3,h3,rfl,fin⟩⟩;have E:=dt E;have st:=p.st;have gr:=p.gr
 dsimp only at st gr ⊢
 exact⟨⟨p.ok,by rw[gr];exact q2,by omega⟩,by omega⟩)
def jQx:Cts:=ctp 31 (kA (aC (aP fR) <|aC aI aN) fun a=>mkc (rS fRs) bR (fun x r'=>GoR x) (jJG a.1 0/\(0<=a.1.gr/\a.1.gr<=65536)/\a.1.st<=a.1.gr)) jQy
theorem jTU:Good T jQx:=by
 unfold jQx;refine Good.add jTV ?_;rintro a ⟨B,h2,E⟩;exact jYr B h2 E _
def rBo (S:Pz (List C)):Pz (List Arg):=⟨S.α,fun x=>[.ow [.bx (S.f x)] true],fun l=>match l with
 |[.ow [.bx l] true]=>S.un l
 |_=>none,fun b x e=>by
  split at e
  .rw[S.ok _ _ e]
  .cases e⟩
structure BgR (r:Ru):Prop where
 ok:jJG r 0
 gr:r.gr=0
 st:r.st=0
structure Jb1 (c:CdS):Prop where
 F:Rw fCF jKn c.F
 K:Rw fI inI c.K
 L:Rw fU jKm c.L
theorem jZH {c:CdS}(h:Jb1 c) (w d:Int) (hd:d<=100000) {n:List (List C)}(hn:Rw fI (fun _=>True) n) (hl:n.length<=1000000):Tot T (mkc (rBo fR) b0 (fun r _=>BgR r) True) 30 [.pl (.ag (fCd.f c)),pI w,pI d,.pl (.c (.r false 1 n))]:=vR hm jTU [] [true] Tryz.func30 (pln n/\0+n.length<=4000000000/\(2:Int)≠0/\((∃(y:Nat),jJG {F:=c.F,K:=c.K,L:=c.L,dp:=d,inn:=n,nx:=0,g:={b0:=false,n0:=0,b1:=false,n1:=0,b2:=false,n2:=0,b3:=false,n3:=0,b4:=false,n4:=0,b5:=false,n5:=0,b6:=false,n6:=0,b7:=false,n7:=0},fr:=[],hp:={ha:=wr (w.tdiv 2),us:=0,gc:=0,bl:=[],fr:=[]},gr:=0,er:=42,vl:=0,out:=[],st:=0,rd:=0} y)/\0<=100000)/\∀(x:Unit × Ru),StR 0 {F:=c.F,K:=c.K,L:=c.L,dp:=d,inn:=n,nx:=0,g:={b0:=false,n0:=0,b1:=false,n1:=0,b2:=false,n2:=0,b3:=false,n3:=0,b4:=false,n4:=0,b5:=false,n5:=0,b6:=false,n6:=0,b7:=false,n7:=0},fr:=[],hp:={ha:=wr (w.tdiv 2),us:=0,gc:=0,bl:=[],fr:=[]},gr:=0,er:=42,vl:=0,out:=[],st:=0,rd:=0} x.2->BgR x.2) (by kernel_rfl) (by
 have z:inI 0:=⟨by omega,by omega⟩
 have B:jJG {F:=c.F,K:=c.K,L:=c.L,dp:=d,inn:=n,nx:=0,g:=rg0,fr:=[],hp:={ha:=wr (w.tdiv 2),us:=0,gc:=0,bl:=[],fr:=[]},gr:=0,er:=42,vl:=0,out:=[],st:=0,rd:=0} 0:=⟨h.F,h.L,h.K,jO4,z,hn,hl,Rw.nil,hd,by simp,⟨0,⟨Rw.nil,Rw.nil,by simp,by simp⟩,by simp⟩,by simp,by simp,Rw.nil,by simp⟩
 exact⟨hn.plx fun _=>rfl,by omega,by omega,⟨⟨_,B⟩,by omega⟩,fun⟨_,r⟩ q=>⟨q.ok 0 B,q.gr,q.st⟩⟩)
end V
end Go.Proofs.YtnhbcdnmfafbiaaGreatDoor
set_option maxRecDepth 100000
namespace Go.Proofs.YtnhbcdnmfafbiaaGreatDoor
namespace V
open Go.Proofs
def wkL (e:List C):List C:=e.take 4 ++[.ui]
theorem jKy.isP {l:LnS}(h:jKy l):isP l.p=true:=by
 rcases h.p with e|⟨e,_⟩ <;> rw[e] <;> rfl
theorem jKy.wk {l:LnS}(h:jKy l):Wl (fL.f l) (wkL (fL.f l)):=by
 obtain⟨o,r,x,y,p⟩:=l;refine .cons (.rfl _) (.cons (.rfl _) (.cons (.rfl _) (.cons (.rfl _) (.cons ?_ .nil))));rcases h.p with e|⟨e,_⟩ <;> dsimp only at e ⊢ <;> subst e
 .exact .j _
 .exact .rfl _
theorem jRo:∀{l:List (List C)},Rw fL jKy l->We l (l.map wkL)
 |[],_=>.nil
 |e ::l,h=>by
  obtain⟨x,B,hx⟩:=h e (List.mem_cons_self ..);rw[B];exact .cons hx.wk (jRo fun q hq=>h q (List.mem_cons_of_mem _ hq))
theorem jVE {l:List (List C)}(h:Rw fL jKy l):Rw fU jKm (l.map wkL):=fun q hq=>by
 obtain⟨e,E,rfl⟩:=List.mem_map.1 hq;obtain⟨x,B,hx⟩:=h e E;exact⟨x.u,by rw[B];rfl,⟨hx.x⟩⟩
def CdS.wk (c:CdS):CdS:=⟨c.F,c.K,c.L.map wkL⟩
theorem CdS.wa {c:CdS}(h:Rw fL jKy c.L):WA (.ag (fCd.f c)) (.ag (fCd.f c.wk)):=fun w A mo fp v hv=>by
 obtain⟨arr,e,q⟩:∃arr:Array Value,v= .agg arr/\RL w A (fCd.f c) arr.toList []:=hv;refine⟨arr,e,?_⟩;generalize arr.toList=vs at q;obtain⟨F,K,L⟩:=c;have q:RL w A [.r false 4 F,.r false 1 K,.r false 5 L] vs []:=q;show RL w A [.r false 4 F,.r false 1 K,.r false 5 (L.map wkL)] vs [];generalize hF:([]:List Nat)=G at q
 cases q with
 |cons q1 q2=>
  cases q2 with
  |cons q2 q3=>
   cases q3 with
   |cons q3 q4=>
    cases q4;have B:=q1.pl rfl;have E:=q2.pl rfl;subst B E;simp only[List.append_nil,List.nil_append]at hF;subst hF;have:=RL.cons (F:=[]) (F':=[]) q1 (.cons (F:=[]) (F':=[]) q2 (.cons (F:=[]) (F':=[]) (q3.row (jRo h)) .nil));exact this
theorem jZI {c:CdS}(h:jLh c) (w d:Int) (hd:d<=100000) {n:List (List C)}(hn:Rw fI (fun _=>True) n) (hl:n.length<=1000000):Tot T (mkc (rBo fR) b0 (fun r _=>BgR r) True) 30 [.pl (.ag (fCd.f c)),pI w,pI d,.pl (.c (.r false 1 n))]:=by
 obtain⟨x,p,q⟩:=jZH (c:=c.wk) ⟨h.F,h.K,jVE h.L⟩ w d hd hn hl;exact⟨x,p,q.wka (CdS.wa h.L)⟩
structure dpOk (d:Int):Prop where
 h:d<=100000
def ctMh:Cts:=ctp 30 (kA (aC (aG fCd) <|aC aI <|aC aI <|aC (aR 1) aN) fun a=>mkc (rBo fR) b0 (fun r _=>BgR r) (jLh a.1/\dpOk a.2.2.1/\Rw fI (fun _=>True) a.2.2.2.1/\a.2.2.2.1.length<=1000000)) jQx
theorem jZc:Good T ctMh:=by
 unfold ctMh;refine Good.add jTU ?_;rintro a ⟨B,h2,E,G⟩;exact jZI B _ _ h2.h E G
theorem Jab {c:CdS}(h:jLh c):Tot T (mkc (rS fCd) b0 (fun c _=>jLh c) True) 16 [.pl (.ag (fCd.f c))]:=vF (⟨hM,[20,23,26],[(2,[(3,3000003)])],[]⟩) jZc Tryz.func16 ((jLh c/\dpOk 64/\(∀(e:List C),e ∈ []->∃(y:Int),e=fI.f y/\True)/\0<=1000000)/\∀(x:Ru × Unit),BgR x.1->(jJG x.1 0/\(0<=x.1.gr/\x.1.gr<=65536)/\x.1.st<=x.1.gr)/\∀(x:Rs × Ru),GoR x.1->br (decide (x.1.e≠0)) (true=true/\jLh c) (br (decide (↑x.1.o.length >(0:Int))) (jLh c) (jLh {F:=[[I 0,I 0,I 0,I 0]],K:=[[I x.1.v]],L:=[[I 1,I 0,I 0,I 0,I 0],[I 33,I 0,I 0,I 0,I 0]]}))) (by kernel_rfl) (by
 refine⟨⟨h,⟨by omega⟩,(fun e he=>by cases he),by omega⟩,fun⟨r,_⟩ hr=>⟨⟨hr.ok,⟨by have:=hr.gr;dsimp only at this ⊢;omega,by have:=hr.gr;dsimp only at this ⊢;omega⟩,by have:=hr.gr;have:=hr.st;dsimp only at *;omega⟩,fun⟨x,_⟩ hx=>⟨fun _=>⟨rfl,h⟩,fun _=>⟨fun _=>h,fun _=>?_⟩⟩⟩⟩;have z:sm 0:=jJH (by omega) (by omega)
 exact⟨Rw.one (S:=fCF) (x:=⟨0,0,0,0⟩) ⟨z,z,z,by simp⟩,Rw.one (S:=fI) hx.v,(Rw.one (S:=fL) (x:=⟨1,0,0,0,I 0⟩) ⟨jJH (by simp) (by simp),z,z,z,.inl rfl⟩).app (Rw.one (S:=fL) (x:=⟨33,0,0,0,I 0⟩) ⟨jJH (by simp) (by simp),z,z,z,.inl rfl⟩),by simp,by simp,by simp⟩)
end V
end Go.Proofs.YtnhbcdnmfafbiaaGreatDoor
