import Derived.Test.YtnhbcdnmfafbiaaGreatDoorM25
import Derived.Test.YtnhbcdnmfafbiaaGreatDoorM27
import Derived.Test.YtnhbcdnmfafbiaaGreatDoorM28
import Derived.Test.YtnhbcdnmfafbiaaGreatDoorM29
import Derived.Lib.ItoaNum
set_option linter.unusedVariables false
set_option linter.unusedSimpArgs false
set_option maxHeartbeats 20000000
set_option maxRecDepth 100000
namespace Go.Proofs.YtnhbcdnmfafbiaaGreatDoor
namespace V
open Go.Proofs Go.RowKit
def JcA:C->Value
 | .i k n=>.int k n
 | .b x=>.bool x
 |_=>undef
def isD:C->Bool
 | .i _ _=>true
 | .b _=>true
 |_=>false
theorem RL.val {w:World}{A:Nat->Prop}:∀{l:List C}{us:List Value}{F:List Nat},RL w A l us F->l.all isD=true->us=l.map JcA/\F=[]
 |[],us,F,h,_=>by cases h;exact⟨rfl,rfl⟩
 |c ::l,us,F,h,hd=>by
  rw[List.all_cons,Bool.and_eq_true]at hd
  cases h with
  |cons h1 h2=>
   obtain⟨rfl,rfl⟩:=RL.val h2 hd.2
   cases h1 with
   |i=>exact⟨rfl,rfl⟩
   |b=>exact⟨rfl,rfl⟩
   |_=>cases hd.1
theorem JfP:pwC.map JcA=Lib.pow10Tab.map fun z=>Value.int .u64 z:=by kernel_rfl
theorem JfQ:Tryz.prog.globalNamed "internal/strconv.uint64pow10"=some 2:=by kernel_rfl
theorem Jg1 {n:Int}(h0: -9223372036854775808<=n) (M:n<=9223372036854775807):Tot T1 (mkc rSs b0 (fun s _=>D s=Lib.itoa n) True) 133 [pI n]:=by
 refine⟨(⟨(Lib.itoa n).toArray⟩,()),?_,⟨⟨_,Tryz.func133,by kernel_rfl,by kernel_rfl⟩⟩,fun c ok B hX hu=>?_⟩
 .show(Lib.itoa n).toArray.toList=_
  simp
 .have t0:=ok.sx.sr.tms 0
  rw[B]at t0;have t0:RC c.w c.A (.i .i64 n) (c.a 0) []:=t0
  have e0:c.a 0= .int .i64 n:=by
   generalize c.a 0=v at t0;cases t0;rfl
  have B:c.st=⟨[(0,.c (I n))],[]⟩:=B;have hR:lkr T1 c.st.rt 1000002=some ⟨3,pwC⟩:=by rw[B];rfl
  have G:=ok.sx.sr.rts _ _ hR;unfold jJM at G;rw[if_neg (by simp),if_neg (by simp[isV])]at G;obtain⟨F',arr,q1,q2,q3,q4,_⟩:=G;obtain⟨P,V,Y⟩:=ok.sx.sr.gl 2 pwC rfl;have O:=q2.blk;have rl:=q2.rl;rw[P]at O;rw[V,List.drop_zero,List.take_of_length_le (by rw[Array.length_toList,q4,Y];exact Nat.le_refl _)]at rl;obtain⟨Z,_⟩:=rl.val rfl
  have J:Lib.TabIs Tryz.prog c.w "internal/strconv.uint64pow10" .u64 Lib.pow10Tab:=by
   unfold Lib.TabIs World.var?;rw[JfQ];simp only[Option.bind_some,O];rw[<-JfP,<-Z]
  show Calls Tryz.prog 133 #[c.a 0] c.w _;rw[e0];refine(Tryz.strconv_Itoa n h0 M c.w J).mono ?_;rintro e w' ⟨rfl,k,os,rfl⟩
  have low:Below c.w.heap.size c.w (Go.Sort.grow (c.w.drewN k) os):=⟨rfl,rfl,rfl,by show _<=(c.w.heap ++os).size;rw[Array.size_append];omega,fun j hj=>by show(c.w.heap ++os)[j]? =_;rw[Array.getElem?_append_left hj]⟩
  obtain⟨E,k2⟩:=ok.world (w':=Go.Sort.grow (c.w.drewN k) os) (A':=c.A) (X':=[]) (fun j hj _=>low.block j hj) (low.mono (Nat.zero_le _)) (fun _ h=>h) (fun j hj=>⟨.inl hj,Nat.lt_of_lt_of_le (ok.al j hj) low.size⟩) List.nodup_nil (fun g hg=>by cases hg);refine⟨⟨Go.Sort.grow (c.w.drewN k) os,c.A,⟨[(RK,.c (.s ⟨(Lib.itoa n).toArray⟩))],[]⟩,c.mo,c.fp,fun t=>if t=RK then .string ⟨(Lib.itoa n).toArray⟩ else c.a t,[]⟩,.string ⟨(Lib.itoa n).toArray⟩,rfl,rfl,⟨⟨⟨?_,?_,?_,?_,fun t=>?_,?_,E.sx.sr.gl⟩,E.sx.nd,E.sx.na,E.sx.dj,E.sx.lt⟩,E.al⟩,k2.trans (Stp.tmp (by rw[B])),rfl,rfl,by simp only[if_true]⟩
  .intro j R h;exact E.sx.sr.rts j R (by show lkr T1 c.st.rt j=_;rw[B];exact h)
  .intro j R h;exact E.sx.sr.nd j R (by show lkr T1 c.st.rt j=_;rw[B];exact h)
  .intro j R h;exact E.sx.sr.fa j R (by show lkr T1 c.st.rt j=_;rw[B];exact h)
  .intro j j' R R' hn h h';exact E.sx.sr.dj j j' R R' hn (by show lkr T1 c.st.rt j=_;rw[B];exact h) (by show lkr T1 c.st.rt j'=_;rw[B];exact h')
  .show TV _ _ _ _ (if RK=t then .c (.s ⟨(Lib.itoa n).toArray⟩) else .u) (if t=RK then _ else _)
   by_cases e:t=RK
   .rw[if_pos e.symm,if_pos e]
    exact RC.s _
   .rw[if_neg (fun q=>e q.symm)]
    trivial
  .intro j h;exact E.sx.sr.nf j (by show lkr T1 c.st.rt j=_;rw[B];exact h)
end V
end Go.Proofs.YtnhbcdnmfafbiaaGreatDoor
set_option maxRecDepth 100000
namespace Go.Proofs.YtnhbcdnmfafbiaaGreatDoor
namespace V
open Go.Proofs
def wtx (w:Wd):List UInt8:=if w.k=1 then Lib.itoa w.n else if w.k=2 then D w.s else D (txF w.k)
def wds (b:List UInt8) (u:List Wd):List UInt8:=u.foldl (fun b x=>wb b (wtx x)) b
theorem JeZ (b:List UInt8) (u v:List Wd):wds b (u ++v)=wds (wds b u) v:=List.foldl_append
def twl:List Wd->Nat
 |[]=>0
 |x ::u=>(wtx x).length+1+twl u
theorem JaI:∀u v:List Wd,twl (u ++v)=twl u+twl v
 |[],v=>by rw[twl];simp
 |x ::u,v=>by rw[List.cons_append,twl,twl,JaI u v];omega
theorem Je2 (b t:List UInt8):(wb b t).length<=b.length+(t.length+1):=by
 have:(sep b t).length<=1:=by
  unfold sep
  split
  .split <;> simp
  .simp
 unfold wb
 split
 .omega
 .simp only[List.length_append];omega
theorem JcZ:∀(u:List Wd) (b:List UInt8),(wds b u).length<=b.length+twl u
 |[],b=>by rw[twl];exact Nat.le_refl _
 |x ::u,b=>by
  have a:=Je2 b (wtx x);have c:=JcZ u (wb b (wtx x));rw[twl];show(wds (wb b (wtx x)) u).length<=_;omega
structure WtR (w:WrS) (u:List Wd) (w':WrS):Prop where
 p:w'.ps=w.ps
 o:w'.o=oC (wds (dcB w.o) u)
theorem WtR.trans {w w1 w2:WrS}{u v:List Wd}(h:WtR w u w1) (B:WtR w1 v w2):WtR w (u ++v) w2:=⟨B.p.trans h.p,by rw[B.o,h.o,Jea,JeZ]⟩
theorem WtR.refl {w:WrS}{n:Nat}(h:WrP w n):WtR w [] w:=⟨rfl,h.o⟩
theorem WtR.wr {w w1:WrS}{u:List Wd}{n:Nat}(h:WtR w u w1) (hp:WrP w (twl u+n)):WrP w1 n:=by
 refine⟨by rw[h.o,Jea],?_⟩;have a:=JcZ u (dcB w.o);have b:=hp.n;have c:(dcB w.o).length=w.o.length:=List.length_map ..;rw[h.o,Jck];omega
theorem WrP.le {w:WrS}{n m:Nat}(h:WrP w n) (hm:m<=n):WrP w m:=⟨h.o,by have:=h.n;omega⟩
structure WoP (w:WrS) (k:Int):Prop where
 p:WrP w (twl (kwW k)+1)
 s:k=0\/(3<=k/\k<=34)
def JcE:Cts:=ctp 89 (kA (aC (aP fWr) <|aC aSs aN) fun a=>mkc r0 bWr (fun _ w'=>WrR a.1 (D a.2.1) w') (WrP a.1 (a.2.1.size+1))) <|ctp 88 (kA (aC aI aN) fun a=>mkc rSs b0 (fun s _=>s=txF a.1) True) <|ctp 133 (kA (aC aI aN) fun a=>mkc rSs b0 (fun s _=>D s=Lib.itoa a.1) (inI a.1)) ct0
theorem JcD:Good T1 JcE:=by
 unfold JcE;refine Good.ad1 (Good.ad1 (Good.ad1 Jae ?_) ?_) ?_
 .rintro a ⟨h0,h1⟩;exact Jg1 (by omega) (by omega)
 .rintro a -;exact Jc7 _
 .rintro a h;exact JeM h
theorem JeL {w:WrS}{k:Int}(h:WoP w k):Tot T1 (mkc r0 bWr (fun _ w'=>WtR w (kwW k) w') True) 43 [pWr w,pI k]:=vN (⟨hWt,[],[],[]⟩) JcD Tryz.func43 (True/\∀(x:ByteArray × Unit),x.1=txF k->WrP w (ByteArray.size x.1+1)/\∀(x_1:Unit × WrS),WrR w (D x.1) x_1.2->WtR w (kwW k) x_1.2) (by kernel_rfl) (by
 obtain⟨hp,hk⟩:=h;refine⟨trivial,fun⟨t,_⟩ B=>?_⟩;have B:t=txF k:=B;subst B
 dsimp only
 by_cases k0:k=0
 .subst k0
  exact⟨hp,fun⟨_,w'⟩ hw=>⟨hw.p,hw.o⟩⟩
 .have ek:kwW k=[wK k]:=if_neg k0
  have ex:wtx (wK k)=D (txF k):=by
   show(if k=1 then _ else if k=2 then _ else D (txF k))=_;rw[if_neg (by omega),if_neg (by omega)]
  rw[ek]at hp ⊢;refine⟨hp.le (by rw[twl,twl,ex,jJZ];omega),fun⟨_,w'⟩ hw=>⟨hw.p,?_⟩⟩;show _=oC (wb (dcB w.o) (wtx (wK k)))
  rw[ex];exact hw.o)
theorem JeP {w:WrS}{n:Int}(h:WrP w (twl [nW n]+1)) (hi:inI n):Tot T1 (mkc r0 bWr (fun _ w'=>WtR w [nW n] w') True) 82 [pWr w,pI n]:=vN (⟨hWt,[],[],[]⟩) JcD Tryz.func82 (inI n/\∀(x:ByteArray × Unit),D x.1=Lib.itoa n->WrP w (ByteArray.size x.1+1)/\∀(x_1:Unit × WrS),WrR w (D x.1) x_1.2->WtR w [{k:=1,n:=n,s:=ByteArray.empty}] x_1.2) (by kernel_rfl) (by
 refine⟨hi,fun⟨t,_⟩ ht=>?_⟩;have ex:wtx (nW n)=D t:=ht.symm
 exact⟨h.le (by rw[twl,twl,ex,jJZ];show t.size+1<=_;omega),fun⟨_,w'⟩ hw=>⟨hw.p,by
  show _=oC (wb (dcB w.o) (wtx (nW n)))
  rw[ex];exact hw.o⟩⟩)
def nsD (m:List (List C)):List ByteArray:=m.map fun e=>match e with
 |[.s x]=>x
 |_=>ByteArray.empty
def lsW (m:List (List C)) (k:Int):List Wd:=jn (kwW k) ((nsD m).map fun x=>[sW x])
structure LsQ (w:WrS) (m:List (List C)) (k:Int):Prop where
 p:WrP w (twl (lsW m k)+1)
 q:m=nmC (nsD m)
 s:k=0\/k=25
 n:m.length<=100000
structure LsJ (w:WrS) (m:List (List C)) (k:Int) (w':WrS) (m':List (List C)) (k' i:Int):Prop where
 e:m'=m/\k'=k
 l:0<=i/\i<=m.length
 r:WtR w (lsW (m.take i.toNat) k) w'
def JcC:Cts:=ctp 43 (kA (aC (aP fWr) <|aC aI aN) fun a=>mkc r0 bWr (fun _ w'=>WtR a.1 (kwW a.2.1) w') (WoP a.1 a.2.1)) JcE
theorem Jeb:Good T1 JcC:=by
 unfold JcC;refine Good.ad1 JcD ?_;rintro a h;exact JeL h
def hWs:Hx:=⟨fun z=>eS fSt,false,fun _=>none,false,false⟩
def wliT:Rl Av:=.cons 0 (tA 0) <| .cons 1 (tR 1) <| .cons 2 tI <| .cons 6 tI .nil
def JeR:Rl Rt:=.cons 0 (rX 0 fWr) .nil
def wliH (w:WrS) (m:List (List C)) (k:Int):Hy:=⟨hWs,[],[],[(1,.iv wliT JeR (fun q=>LsJ w m k q.2.1 q.1.2.1 q.1.2.2.1 q.1.2.2.2.1) fun q=>ixM m.length q.1.2.2.2.1)]⟩
theorem Jcr (s:List Wd):∀{a b:List (List Wd)},a≠[]->b≠[]->jn s (a ++b)=jn s a ++(s ++jn s b)
 |[],b,h,_=>absurd rfl h
 |[u],v ::b,_,_=>rfl
 |[u],[],_,h=>absurd rfl h
 |u ::v ::a,b,_,hb=>by
  rw[List.cons_append,List.cons_append,Jax,Jax,<-List.cons_append,Jcr s (by simp) hb];simp only[List.append_assoc]
theorem JeQ {w:WrS}{m:List (List C)}{k:Int}(h:LsQ w m k):Tot T1 (mkc r0 bWr (fun _ w'=>WtR w (lsW m k) w') True) 83 [pWr w,.pl (.c (.r false 1 m)),pI k]:=vN (wliH w m k) Jeb Tryz.func83 (LsJ w m k w m k 0/\∀(a:(Unit × List (List C) × Int × Int × Unit) × WrS × Unit),LsJ w m k a.2.1 a.1.2.1 a.1.2.2.1 a.1.2.2.2.1->br (decide (a.1.2.2.2.1<↑(List.length a.1.2.1))) (br (decide (a.1.2.2.2.1 >0)) (WoP a.2.1 a.1.2.2.1/\∀(x:Unit × WrS),WtR a.2.1 (kwW a.1.2.2.1) x.2->0<=a.1.2.2.2.1/\(∃(y:ByteArray),a.1.2.1[Int.toNat a.1.2.2.2.1]? =some (fSt.f y))/\∀(x_1:ByteArray),a.1.2.1[Int.toNat a.1.2.2.2.1]? =some (fSt.f x_1)->WrP x.2 (x_1.size+1)/\∀(x_2:Unit × WrS),WrR x.2 (D x_1) x_2.2->LsJ w m k x_2.2 a.1.2.1 a.1.2.2.1 (wr (a.1.2.2.2.1+1))/\ixM m.length (wr (a.1.2.2.2.1+1))<ixM m.length a.1.2.2.2.1) (0<=a.1.2.2.2.1/\(∃(y:ByteArray),a.1.2.1[Int.toNat a.1.2.2.2.1]? =some (fSt.f y))/\∀(x:ByteArray),a.1.2.1[Int.toNat a.1.2.2.2.1]? =some (fSt.f x)->WrP a.2.1 (x.size+1)/\∀(x_1:Unit × WrS),WrR a.2.1 (D x) x_1.2->LsJ w m k x_1.2 a.1.2.1 a.1.2.2.1 (wr (a.1.2.2.2.1+1))/\ixM m.length (wr (a.1.2.2.2.1+1))<ixM m.length a.1.2.2.2.1)) (WtR w (lsW m k) a.2.1)) (by kernel_rfl) (by
 obtain⟨hp,hm,hk,G⟩:=h;refine⟨⟨⟨rfl,rfl⟩,by omega,.refl hp⟩,fun⟨⟨_,m',k',i,_⟩,w',_⟩ ⟨⟨e1,e2⟩,hl,hr⟩=>?_⟩
 dsimp only at e1 e2 hl hr ⊢
 subst e1 e2
 have B:∀{x:ByteArray},m'[i.toNat]? =some (fSt.f x)->lsW (m'.take (i+1).toNat) k'=lsW (m'.take i.toNat) k' ++((if i=0 then[] else kwW k') ++[sW x])/\twl (lsW (m'.take (i+1).toNat) k')<=twl (lsW m' k'):=fun {x} hx=>by
  have e:m'.take (i+1).toNat=m'.take i.toNat ++[fSt.f x]:=by
   rw[show(i+1).toNat=i.toNat+1 by omega,List.take_add_one,hx];rfl
  have P:∀a b:List (List C),b≠[]->a≠[]->lsW (a ++b) k'=lsW a k' ++(kwW k' ++lsW b k'):=fun a b hb ha=>by
   unfold lsW nsD;rw[List.map_append,List.map_append];exact Jcr _ (by simpa using ha) (by simpa using hb)
  constructor
  .rw[e]
   by_cases i0:i=0
   .subst i0;rfl
   .rw[if_neg i0,P _ _ (by simp) (by
     have hi:i.toNat<m'.length:=(List.getElem?_eq_some_iff.1 hx).1
     intro q;have:=congrArg List.length q;rw[List.length_take,List.length_nil]at this;omega)]
    rfl
  .conv=>rhs;rw[<-List.take_append_drop (i+1).toNat m']
   by_cases O:m'.drop (i+1).toNat=[]
   .rw[O,List.append_nil];exact Nat.le_refl _
   .rw[P _ _ O (by rw[e];simp),JaI];omega
 have nx:∀{w1 w2:WrS}{x:ByteArray},m'[i.toNat]? =some (fSt.f x)->i<m'.length->WtR w' (if i=0 then[] else kwW k') w1->WrP w1 (x.size+1)/\(WrR w1 (D x) w2->LsJ w m' k' w2 m' k' (wr (i+1))/\ixM m'.length (wr (i+1))<ixM m'.length i):=fun {w1 w2 x} hx h1 hw1=>by
  obtain⟨E,a2⟩:=B hx;have M:=hr.trans hw1;have ex:wtx (sW x)=D x:=rfl;have z:twl [sW x]=x.size+1:=by rw[twl,twl,ex,jJZ]
  rw[E,<-List.append_assoc,JaI,z]at a2;refine⟨M.wr (hp.le (by omega)),fun hw2=>⟨⟨⟨rfl,rfl⟩,?_,?_⟩,?_⟩⟩
  .rw[JaN (by have:=hp.n;have:m'.length<=100000:=G;omega)];omega
  .rw[JaN (by have:m'.length<=100000:=G;omega),E,<-List.append_assoc]
   exact M.trans ⟨hw2.p,hw2.o⟩
  .rw[JaN (by have:m'.length<=100000:=G;omega)];unfold ixM;omega
 have J:i<m'.length->∃y:ByteArray,m'[i.toNat]? =some (fSt.f y):=fun h1=>by
  have hi:i.toNat<(nsD m').length:=by unfold nsD;rw[List.length_map];omega
  refine⟨(nsD m')[i.toNat],?_⟩;rw[show m'[i.toNat]? =(nmC (nsD m'))[i.toNat]? from congrArg (·[i.toNat]?) hm];unfold nmC;rw[List.getElem?_map,List.getElem?_eq_getElem hi];rfl
 refine⟨fun h1=>?_,fun h1=>?_⟩
 .have h1:=dt h1
  refine⟨fun h2=>⟨⟨hr.wr ?_,by omega⟩,fun⟨_,w1⟩ hw1=>⟨by omega,J h1,fun x hx=>?_⟩⟩,fun h2=>⟨by omega,J h1,fun x hx=>?_⟩⟩
  .obtain⟨x,hx⟩:=J h1
   obtain⟨E,a2⟩:=B hx;refine hp.le ?_;rw[E,if_neg (by have:=dt h2;omega),<-List.append_assoc,JaI,JaI]at a2;omega
  .have hw1:WtR w' (if i=0 then[] else kwW k') w1:=by rw[if_neg (by have:=dt h2;omega)];exact hw1
   exact⟨(nx (w2:=w1) hx h1 hw1).1,fun w2 hw2=>(nx hx h1 hw1).2 hw2⟩
  .have hw1:WtR w' (if i=0 then[] else kwW k') w':=by rw[if_pos (by have:=df h2;omega)];exact .refl (hr.wr (n:=0) (hp.le (by
    obtain⟨x,hx⟩:=J h1;obtain⟨E,a2⟩:=B hx;rw[E,JaI]at a2
    omega)))
   exact⟨(nx (w2:=w') hx h1 hw1).1,fun w2 hw2=>(nx hx h1 hw1).2 hw2⟩
 .have h1:=df h1
  rw[List.take_of_length_le (by omega)]at hr
  exact hr)
def rkI (k:Int):Int:=rk k
def wnI (k i:Int):Int:=wnt k i.toNat
theorem JfM (k:Int):Tot T1 (mkc rI b0 (fun r _=>r=rkI k) True) 41 [pI k]:=vF (⟨hWs,[],[],[]⟩) Jae Tryz.func41 (br (decide (k=8)) (true=true/\0=rkI k) (br (decide (k=9)) (true=true/\0=rkI k) (br (decide (k=10)) (true=true/\0=rkI k) (br (decide (k=11)) (true=true/\0=rkI k) (br (decide (k=12)) (true=true/\0=rkI k) (br (decide (k=18)) (0=rkI k) (br (decide (k=17)) (1=rkI k) (br (decide (k=16)) (2=rkI k) (br (decide (k=15)) (3=rkI k) (br (decide (k=13)) (true=true/\4=rkI k) (br (decide (k=14)) (4=rkI k) (br (decide (k=19)) (true=true/\5=rkI k) (br (decide (k=21)) (true=true/\5=rkI k) (br (decide (k=22)) (true=true/\5=rkI k) (br (decide (k=23)) (true=true/\5=rkI k) (br (decide (k=24)) (5=rkI k) (br (decide (k=20)) (6=rkI k) (7=rkI k)))))))))))))))))) (by kernel_rfl) (by
 iterate 17 refine⟨fun h=>by have h:=dt h;subst h;first|rfl|exact⟨rfl,rfl⟩,fun h=>?_⟩
 unfold rkI rk
 simp_all)
theorem Je3 (k:Int) {i:Int}(hi:0<=i):Tot T1 (mkc rI b0 (fun r _=>r=wnI k i) True) 134 [pI k,pI i]:=vF (⟨hWs,[],[],[]⟩) Jae Tryz.func134 (br (decide (k=17)) (2=wnI k i) (br (decide (k=16)) (br (decide (i=0)) (2=wnI k i) (3=wnI k i)) (br (decide (k=15)) (br (decide (i=0)) (3=wnI k i) (4=wnI k i)) (br (decide (k=13)) (true=true/\4=wnI k i) (br (decide (k=14)) (4=wnI k i) (br (decide (k=19)) (true=true/\6=wnI k i) (br (decide (k=21)) (true=true/\6=wnI k i) (br (decide (k=22)) (true=true/\6=wnI k i) (br (decide (k=23)) (true=true/\6=wnI k i) (br (decide (k=24)) (6=wnI k i) (br (decide (k=18)) (br (decide (i=0)) (1=wnI k i) (0=wnI k i)) (br (decide (k=20)) (br (decide (i=0)) (6=wnI k i) (0=wnI k i)) (0=wnI k i))))))))))))) (by kernel_rfl) (by
 have nz:decide (i=0)=false->∃j,i.toNat=j+1:=fun h=>⟨i.toNat-1,by have:=df h;omega⟩
 iterate 12 refine⟨fun h=>by have h:=dt h;subst h;first|rfl|exact⟨rfl,rfl⟩|exact⟨fun h=>by have h:=dt h;subst h;rfl,fun h=>by obtain⟨j,e⟩:=nz h;unfold wnI;rw[e];rfl⟩,fun h=>?_⟩
 unfold wnI wnt
 simp_all)
end V
end Go.Proofs.YtnhbcdnmfafbiaaGreatDoor
namespace Go.Proofs.YtnhbcdnmfafbiaaGreatDoor
namespace V
open Go.Proofs
abbrev MX:Int:=4611686018427387903
theorem dg_b {c:UInt8}(h:dgB c.toNat=true):48<=(c.toNat:Int)/\(c.toNat:Int)<=57:=by
 unfold dgB at h;rw[Bool.and_eq_true]at h;exact⟨dt h.1,dt h.2⟩
theorem Jbl (a:Int) (c:UInt8) (l:List UInt8):nmF a (c ::l)=if dgB c.toNat then(if a >(MX-((c.toNat:Int)-48)) / 10 then -1 else nmF (a*10+((c.toNat:Int)-48)) l) else -1:=rfl
theorem JdC:∀(l m:List UInt8) (a:Int),0<=a->0<=nmF a l->nmF a (l ++m)=nmF (nmF a l) m
 |[],m,a,_,_=>rfl
 |c ::l,m,a,h0,h=>by
  rw[List.cons_append,Jbl];rw[Jbl]at h ⊢
  cases hd :dgB c.toNat with
  |false=>rw[hd]at h;simp at h
  |true=>
   rw[hd]at h;have:=dg_b hd;simp only[if_true]at h ⊢
   split at h
   .exact absurd h (by decide)
   .rename_i h2
    rw[if_neg h2,if_neg h2];exact JdC l m _ (by omega) h
theorem JdB:∀(l:List UInt8) (a n:Int),0<=a->a<=MX->nmF a l=n->0<=n->n<=MX/\n<(a+1)*10 ^ l.length
 |[],a,n,_,h1,h,_=>by
  have h:a=n:=h;subst h;exact⟨h1,by simp;omega⟩
 |c ::l,a,n,h0,h1,h,hn=>by
  rw[Jbl]at h
  cases hd :dgB c.toNat with
  |false=>rw[hd]at h;simp at h;omega
  |true=>
   rw[hd]at h;have:=dg_b hd;simp only[if_true]at h
   split at h
   .omega
   .rename_i h2
    have ih:=JdB l _ n (by omega) (by unfold MX at h2 ⊢;omega) h hn;refine⟨ih.1,Int.lt_of_lt_of_le ih.2 ?_⟩;rw[List.length_cons,Int.pow_succ,Int.mul_comm (10 ^ l.length) 10,<-Int.mul_assoc];exact Int.mul_le_mul_of_nonneg_right (by omega) (Int.pow_nonneg (by decide))
theorem JdE:∀(k u:Nat),u<10 ^ (k+1)->Lib.nDigits u<=k+1
 |0,u,h=>by rw[Lib.nDigits_small (by simpa using h)];exact Nat.le_refl _
 |k+1,u,h=>by
  by_cases B:u<10
  .rw[Lib.nDigits_small B];omega
  .rw[Lib.nDigits_big B]
   have:=JdE k (u / 10) (by rw[Nat.pow_succ]at h;omega);omega
theorem Jcs {n:Int}(h:0<=n):Lib.itoa n=Lib.decDigits n.toNat:=by unfold Lib.itoa;rw[if_neg (by omega)]
theorem Jgc {l:List UInt8}{n:Int}(hl:l≠[]) (h:nmF 0 l=n) (hn:0<=n):(Lib.itoa n).length<=l.length/\n<=MX:=by
 have v:=JdB l 0 n (by decide) (by decide) h hn;rw[Jcs hn,Lib.decDigits_length]
 obtain⟨k,hk⟩:∃k,l.length=k+1:=⟨l.length-1,by have:=List.length_pos_iff.2 hl;omega⟩
 refine⟨?_,v.1⟩;rw[hk];refine JdE k _ ?_;have v2:=v.2;rw[hk]at v2;have e:((10 ^ (k+1):Nat):Int)=(10:Int) ^ (k+1):=by simp
 omega
theorem dgt {d:Nat}(h:d<10):(UInt8.ofNat (48+d)).toNat=48+d/\dgB (UInt8.ofNat (48+d)).toNat=true:=by
 have e:(UInt8.ofNat (48+d)).toNat=48+d:=by rw[UInt8.toNat_ofNat'];omega
 refine⟨e,?_⟩;rw[e];unfold dgB;simp;omega
theorem Jgd (u:Nat) (h:(u:Int)<=MX):nmF 0 (Lib.decDigits u)=u:=by
 induction u using Nat.strongRecOn with
 |_ u ih=>
  unfold MX at h;rw[Lib.decDigits]
  split
  .rename_i h1
   obtain⟨B,E⟩:=dgt h1;rw[Jbl,E,B];simp only[if_true];rw[if_neg (by unfold MX;omega),nmF];omega
  .rename_i h1
   have G:=ih (u / 10) (by omega) (by unfold MX;omega);rw[JdC _ _ _ (by decide) (by rw[G];omega),G,Jbl];obtain⟨B,E⟩:=dgt (show u % 10<10 by omega);rw[E,B];simp only[if_true];rw[if_neg (by unfold MX;omega),nmF];omega
theorem Jd9 (u:Nat):Lib.decDigits u≠[]/\∀c ∈ Lib.decDigits u,dgB c.toNat=true:=by
 induction u using Nat.strongRecOn with
 |_ u ih=>
  rw[Lib.decDigits]
  split
  .rename_i h1
   exact⟨by simp,fun c B=>by rw[List.mem_singleton.1 B];exact(dgt h1).2⟩
  .rename_i h1
   refine⟨by simp,fun c B=>?_⟩;rcases List.mem_append.1 B with B|B
   .exact(ih (u / 10) (by omega)).2 c B
   .rw[List.mem_singleton.1 B];exact(dgt (by omega)).2
def wdO (w:WdS):Wd:=⟨w.k,w.n,w.s⟩
def wz (w:Wd):Nat:=(wtx w).length
inductive Gw:Wd->Prop
 |nu {n:Int}(h0:0<=n) (h1:n<=MX):Gw ⟨1,n,ByteArray.empty⟩
 |nm {s:ByteArray}(hn:D s≠[]) (hl:∀c ∈ D s,ltB c.toNat=true) (hd:∀c,(D s).head? =some c->dgB c.toNat=false) (hk:∀k:Int,3<=k->k<=17->txF k≠s):Gw ⟨2,0,s⟩
 |kw {k:Int}(h0:3<=k) (h1:k<=34):Gw ⟨k,0,ByteArray.empty⟩
theorem Ja4 (x:ByteArray) (a j:Nat):D (x.extract a j)=((D x).drop a).take (j-a):=by
 unfold D;rw[ByteArray.data_extract,Array.toList_extract]
theorem jZ7 {x y:ByteArray}(h:D x=D y):x=y:=by
 cases x;cases y;exact congrArg ByteArray.mk (Array.toList_inj.1 h)
theorem Jcx {x:ByteArray}{a j:Int}(h0:0<=a) (B:a<=j) (h2:j<=x.size):(D (x.extract a.toNat j.toNat)).length=(j-a).toNat:=by
 rw[Ja4,List.length_take,List.length_drop,jJZ];omega
theorem Jhl {x:ByteArray}{a j:Nat}{c:UInt8}(h:c ∈ D (x.extract a j)):∃i,a<=i/\i<j/\x[i]? =some c:=by
 obtain⟨i,hi,e⟩:=List.mem_iff_getElem.1 h;rw[Ja4]at hi;have B:i<j-a:=by rw[List.length_take]at hi;omega
 refine⟨a+i,by omega,by omega,?_⟩;rw[JaU,<-e];have:(D (x.extract a j))[i]? =(D x)[a+i]?:=by rw[Ja4,List.getElem?_take_of_lt B,List.getElem?_drop]
 rw[<-this,List.getElem?_eq_getElem]
theorem Ja5 {k:Int}(h:3<=k) (s:ByteArray) (n:Int):wtx ⟨k,n,s⟩=D (txF k):=by
 unfold wtx
 dsimp only
 rw[if_neg (by omega),if_neg (by omega)]
structure WkF (x:ByteArray) (a:Int) (w:WdS) (j:Int):Prop where
 g:Gw (wdO w)
 z:(wz (wdO w):Int)<=j-a
 l:bl w.k=1->isC ltB x a/\¬isC ltB x j
 p:w.a=a
theorem WkW.f {x:ByteArray}{a j:Int}{w:WdS}(h:WkW x a w j):WkF x a w j:=by
 have E:=h.lt
 cases h with
 |@sg k h0 hr hl s=>
  refine⟨.kw (k:=k) (by have:=s.l;omega) s.l.2,?_,fun e=>?_,rfl⟩
  .show((wtx ⟨k,0,ByteArray.empty⟩).length:Int)<=_
   rw[Ja5 (by have:=s.l;omega),jJZ];omega
  .unfold bl at e
   dsimp only at e
   rw[if_neg (by have:=s.l;omega)]at e;cases e
 |@nu _ n hr r d hn e=>
  have l:=r.l;have ez:=Jcx (x:=x) l.1 (by omega) l.2.2;have ne:D (x.extract a.toNat j.toNat)≠[]:=fun q=>by rw[q]at ez;simp at ez;omega
  have q:=Jgc ne e hn;refine⟨.nu hn q.2,?_,fun _=>⟨r.y a (Int.le_refl _) l.2.1,r.n⟩,rfl⟩;have:wz (wdO ⟨1,a,n,ByteArray.empty⟩)=(Lib.itoa n).length:=rfl;rw[this];omega
 |@kw _ k hr r d l e=>
  have B:=r.l;have ez:=Jcx (x:=x) B.1 (by omega) B.2.2;refine⟨.kw (k:=k) l.1 (by omega),?_,fun _=>⟨r.y a (Int.le_refl _) B.2.1,r.n⟩,rfl⟩;show((wtx ⟨k,0,ByteArray.empty⟩).length:Int)<=_;rw[Ja5 l.1,e,ez];omega
 |@nm _ hr r d e=>
  have B:=r.l;have ez:=Jcx (x:=x) B.1 (by omega) B.2.2;refine⟨.nm (fun q=>by rw[q]at ez;simp at ez;omega) (fun c hc=>?_) (fun c hc=>?_) (fun k k1 k2=>e k k1 k2),?_,fun _=>⟨r.y a (Int.le_refl _) B.2.1,r.n⟩,rfl⟩
  .obtain⟨i,i1,i2,i3⟩:=Jhl hc
   obtain⟨u,u1,u2⟩:=r.y i (by omega) (by omega);rw[Int.toNat_natCast,i3]at u1;cases u1;exact u2
  .cases hd :dgB c.toNat with
   |false=>rfl
   |true=>
    refine absurd ⟨c,?_,hd⟩ d;rw[Ja4,List.head?_take,if_neg (by omega),List.head?_drop]at hc;rw[JaU];exact hc
  .have:wz (wdO ⟨2,a,0,x.extract a.toNat j.toNat⟩)=(D (x.extract a.toNat j.toNat)).length:=rfl
   rw[this,ez];omega
structure LxF (x:ByteArray) (i:Int) (l:List WdS) (ws:List Wd):Prop where
 e:l.map wdO=ws ++[⟨0,0,ByteArray.empty⟩]
 g:∀w ∈ ws,Gw w
 z:(W0 wz ws:Int)+i<=x.size
 n:(ws.length:Int)+i<=x.size
 p:∀w ∈ l,0<=w.a/\w.a<=x.size
 h:∀v r,ws=v ::r->bl v.k=1->isC ltB x i
theorem Lx.f {x:ByteArray}{i:Int}{l:List WdS}{e a:Int}(h:Lx x i l e a) (B:e=0) (h0:0<=i) (hi:i<=x.size):∃ws,LxF x i l ws:=by
 induction h with
 |@fin i h=>exact⟨[],rfl,fun w hw=>(by cases hw),(by show(0 :Int)+i<=_;omega),(by show(0:Int)+i<=_;omega),fun w hw=>(by rw[List.mem_singleton.1 hw];dsimp only;omega),fun v r q=>(by cases q)⟩
 |bad _ h=>exact absurd B h
 |@more i j j' e a w l h hw hs t ih=>
  have lt:=hw.lt;have f:=hw.f;have sl:=hs.l;obtain⟨ws,F⟩:=ih B (by omega) (by omega);refine⟨wdO w ::ws,by rw[List.map_cons,F.e];rfl,fun v hv=>?_,?_,?_,fun v hv=>?_,fun v r q hb=>?_⟩
  .rcases List.mem_cons.1 hv with rfl|hv
   .exact f.g
   .exact F.g v hv
  .have fz:=f.z
   have G:=F.z
   cases ws with
   |nil=>show(wz (wdO w):Int)+i<=_;omega
   |cons v r=>
    show((wz (wdO w)+min (bl (wdO w).k) (bl v.k)+W0 wz (v ::r):Nat):Int)+i<=_;have b1:=Jau (wdO w).k;have b2:=Jau v.k
    have q:min (bl (wdO w).k) (bl v.k)=0\/j+1<=j':=by
     by_cases E:bl v.k=1
     .by_cases e2:bl w.k=1
      .right
       rcases Int.lt_or_le j j' with q|q
       .omega
       .have:j'=j:=by omega
        have c:=F.h v r rfl E;rw[this]at c;exact absurd c (f.l e2).2
      .left
       have J:bl (wdO w).k=bl w.k:=rfl;omega
     .left;omega
    omega
  .have:=F.n
   rw[List.length_cons];omega
  .rcases List.mem_cons.1 hv with rfl|hv
   .rw[f.p];omega
   .exact F.p v hv
  .cases q
   exact(f.l hb).1
theorem Lx.at {x:ByteArray}{i:Int}{l:List WdS}{e a:Int}(h:Lx x i l e a) (h0:0<=i) (hi:i<=x.size):0<=a/\a<=x.size/\(e=0->a=0):=by
 induction h with
 |fin h=>exact⟨Int.le_refl _,by omega,fun _=>rfl⟩
 |bad _ h=>exact⟨h0,hi,fun q=>absurd q h⟩
 |more h hw hs t ih=>exact ih (by have:=hw.lt;have:=hs.l;omega) hs.l.2
def lb (w:Wd):Bool:=decide (w.k<18)
def bz:Bool->List Wd->List UInt8
 |_,[]=>[]
 |p,w ::r=>(if p && lb w then[32] else[]) ++(wtx w ++bz (lb w) r)
structure GwF (w:Wd):Prop where
 n:wtx w≠[]
 l:∀c ∈ wtx w,ltB c.toNat=lb w
 b:∀c ∈ wtx w,blB c.toNat=false
 g:lb w=false->18<=w.k/\w.k<=34/\wtx w=D (txF w.k)
theorem JbF {n:Int}(h:ltB n=true):blB n=false/\n≠42/\n≠61/\n≠62/\n≠40:=by
 unfold ltB dgB at h;unfold blB;simp only[Bool.or_eq_true,Bool.and_eq_true,decide_eq_true_eq]at h;refine⟨?_,by omega,by omega,by omega,by omega⟩;simp only[Bool.or_eq_false_iff,decide_eq_false_iff_not];omega
theorem Jd8 {n:Int}(h:dgB n=true):ltB n=true:=by unfold ltB;rw[h];simp
theorem JgV:∀j:Fin 35,3<=j.val->(txL[j.val]?).getD []≠[]/\∀c ∈ (txL[j.val]?).getD [],ltB c.toNat=decide (j.val<18)/\blB c.toNat=false:=by decide
theorem Ja7 {k:Int}(h0:0<=k) (B:k<35):D (txF k)=(txL[k.toNat]?).getD []:=by
 unfold txF;rw[if_pos ⟨h0,B⟩];rfl
theorem Gw.f {w:Wd}(h:Gw w):GwF w:=by
 cases h with
 |@nu n h0 h1=>
  have e:wtx ⟨1,n,ByteArray.empty⟩=Lib.decDigits n.toNat:=Jcs h0;have d:=Jd9 n.toNat;refine⟨by rw[e];exact d.1,fun c hc=>?_,fun c hc=>?_,fun q=>by cases q⟩
  .rw[e]at hc;exact Jd8 (d.2 c hc)
  .rw[e]at hc;exact(JbF (Jd8 (d.2 c hc))).1
 |@nm s hn hl hd hk=>exact⟨hn,fun c hc=>hl c hc,fun c hc=>(JbF (hl c hc)).1,fun q=>by cases q⟩
 |@kw k h0 h1=>
  have e:=Ja5 h0 ByteArray.empty 0;rw[Ja7 (by omega) (by omega)]at e;have a:=JgV ⟨k.toNat,by omega⟩ (by show 3<=k.toNat;omega);have B:decide (k.toNat<18)=lb ⟨k,0,ByteArray.empty⟩:=by unfold lb;dsimp only;congr 1;exact propext (by omega)
  refine⟨by rw[e];exact a.1,fun c hc=>?_,fun c hc=>?_,fun q=>⟨?_,h1,Ja5 h0 _ _⟩⟩
  .rw[e]at hc;rw[(a.2 c hc).1];exact B
  .rw[e]at hc;exact(a.2 c hc).2
  .unfold lb at q;have:=df q;dsimp only at this ⊢;omega
def lsL (b:List UInt8):Bool:=match b.getLast? with
 |some u=>ltB u.toNat
 |none=>false
theorem Jcu {a b:List UInt8}(h:b≠[]):(a ++b).getLast? =b.getLast?:=by
 rw[List.getLast?_append,List.getLast?_eq_some_getLast h];rfl
theorem Jc0:∀(ws:List Wd) (b:List UInt8),(∀w ∈ ws,Gw w)->wds b ws=b ++bz (lsL b) ws
 |[],b,_=>(List.append_nil b).symm
 |w ::ws,b,h=>by
  have f:=(h w (List.mem_cons_self ..)).f;show wds (wb b (wtx w)) ws=_;rw[Jc0 ws _ fun v hv=>h v (List.mem_cons_of_mem _ hv)]
  obtain⟨c,t,e⟩:∃c t,wtx w=c ::t:=by
   cases q :wtx w with
   |nil=>exact absurd q f.n
   |cons c t=>exact⟨c,t,rfl⟩
  have M:ltB c.toNat=lb w:=f.l c (by rw[e];simp);have B:wb b (wtx w)=b ++(sep b (wtx w) ++wtx w):=by unfold wb;rw[e];rfl
  have G:sep b (wtx w)=if lsL b && lb w then[32] else[]:=by
   unfold sep lsL;rw[e,List.head?_cons]
   cases b.getLast? with
   |none=>rfl
   |some u=>simp only;rw[M]
  have J:lsL (wb b (wtx w))=lb w:=by
   rw[B,<-List.append_assoc];unfold lsL;rw[Jcu f.n]
   obtain⟨u,E⟩:∃u,(wtx w).getLast? =some u:=⟨_,List.getLast?_eq_some_getLast f.n⟩
   rw[E];exact f.l u (List.mem_of_getLast? E)
  rw[J,B,G,bz];simp only[List.append_assoc]
theorem JeB:∀ws:List Wd,(bz false ws).length=W0 wz ws/\∀w r,ws=w ::r->(bz true ws).length=bl w.k+W0 wz ws
 |[]=>⟨rfl,fun w r h=>by cases h⟩
 |w ::ws=>by
  have ih:=JeB ws
  have E:(wtx w ++bz (lb w) ws).length=W0 wz (w ::ws):=by
   rw[List.length_append]
   cases ws with
   |nil=>rfl
   |cons v r=>
    show _=wz w+min (bl w.k) (bl v.k)+W0 wz (v ::r);have b2:=Jau v.k;unfold lb
    by_cases B:w.k<18
    .rw[show decide (w.k<18)=true from decide_eq_true B,ih.2 v r rfl,show bl w.k=1 from if_pos B]
     show wz w+_=_;omega
    .rw[show decide (w.k<18)=false from decide_eq_false B,ih.1,show bl w.k=0 from if_neg B]
     show wz w+_=_;omega
  refine⟨by rw[bz];simpa using E,fun v r e=>?_⟩;cases e;rw[bz,List.length_append,E];unfold lb bl
  by_cases B:w.k<18
  .simp[B]
  .simp[B]
theorem StA.pre {x:ByteArray}{a:Int}{t:ByteArray}(h:StA x a t):D t <+:(D x).drop a.toNat:=by
 rw[List.prefix_iff_eq_take];have:=congrArg D h.e;rw[Ja4]at this;rw[jJZ,<-this];have:=h.lo;rw[show(a+(t.size:Int)).toNat-a.toNat=t.size by omega]
theorem StA.of {x:ByteArray}{a:Int}{t:ByteArray}(h0:0<=a) (ha:a<=x.size) (h:D t <+:(D x).drop a.toNat):StA x a t:=by
 have l:=h.length_le;rw[jJZ,List.length_drop,jJZ]at l;refine⟨h0,by omega,jZ7 ?_⟩;rw[Ja4,show(a+(t.size:Int)).toNat-a.toNat=t.size by omega,<-jJZ t];exact(List.prefix_iff_eq_take.1 h).symm
theorem Jdl {B T R:List UInt8}(h:B <+:T ++R) (h2:B.length<=2) (G:1<=T.length):B <+:T\/(T.length=1/\∃c r,R=c ::r/\B=T ++[c]):=by
 rcases Nat.lt_or_ge T.length B.length with q|q
 .right
  obtain⟨a,rfl⟩:=List.length_eq_one_iff.1 (show T.length=1 by omega)
  obtain⟨b,c,rfl⟩:∃b c,B=[b,c]:=by
   have E:B.length=2:=by simp at q;omega
   cases B with
   |nil=>cases E
   |cons b B=>obtain⟨c,rfl⟩:=List.length_eq_one_iff.1 (show B.length=1 by simp at E;omega);exact⟨b,c,rfl⟩
  rw[List.singleton_append,List.cons_prefix_cons]at h;obtain⟨rfl,h⟩:=h
  cases R with
  |nil=>simp at h
  |cons d r=>
   rw[List.cons_prefix_cons]at h;exact⟨rfl,d,r,rfl,by rw[h.1];rfl⟩
 .exact .inl (List.prefix_of_prefix_length_le h (List.prefix_append T R) q)
theorem sg_A:∀k:Fin 35,18<=k.val->(((txL[k.val]?).getD []).length<=2/\1<=((txL[k.val]?).getD []).length)/\([40,42]:List UInt8).isPrefixOf ((txL[k.val]?).getD [])=false/\(((txL[k.val]?).getD []) ++[42]=[40,42]->k.val≠24)/\∀j:Fin 35,18<=j.val->j.val<k.val->((txL[j.val]?).getD []).isPrefixOf ((txL[k.val]?).getD [])=false/\(((txL[j.val]?).getD []).length=2->((txL[k.val]?).getD []).length=1->((txL[j.val]?).getD []).take 1=(txL[k.val]?).getD []->k.val≠24/\(((txL[j.val]?).getD []).getLast? =some 42\/((txL[j.val]?).getD []).getLast? =some 61\/((txL[j.val]?).getD []).getLast? =some 62)):=by decide
theorem Jdy {a b:List UInt8}(h:a.isPrefixOf b=false):¬a <+:b:=fun q=>by
 rw[List.isPrefixOf_iff_prefix.2 q]at h;cases h
theorem Jfx {k:Int}(h0:18<=k) (J:k<=34) {R:List UInt8}(hR:∀c r,R=c ::r->(c≠42/\c≠61/\c≠62)\/k=24):(¬D oRm <+:D (txF k) ++R)/\∀j:Int,18<=j->j<k->¬D (txF j) <+:D (txF k) ++R:=by
 have A:=sg_A ⟨k.toNat,by omega⟩ (by show 18<=k.toNat;omega)
 dsimp only at A
 rw[<-Ja7 (by omega) (by omega)]at A;refine⟨fun q=>?_,fun j j0 j1 q=>?_⟩
 .rcases Jdl q (by decide) A.1.2 with q|⟨_,c,r,e,q⟩
  .exact Jdy A.2.1 q
  .have hc:c=42:=by
    have:=congrArg List.getLast? q;rw[Jcu (by simp)]at this;exact(Option.some.inj this).symm
   subst hc;rcases hR _ _ e with h|h
   .exact h.1 rfl
   .have:=A.2.2.1 q.symm;omega
 .have B:=A.2.2.2 ⟨j.toNat,by omega⟩ (by show 18<=j.toNat;omega) (by show j.toNat<k.toNat;omega)
  have E:=(sg_A ⟨j.toNat,by omega⟩ (by show 18<=j.toNat;omega)).1
  dsimp only at B E
  rw[<-Ja7 (by omega) (by omega)]at B E
  rcases Jdl q E.1 A.1.2 with q|⟨G,c,r,e,q⟩
  .exact Jdy B.1 q
  .have B2:=B.2 (by rw[q,List.length_append,G];rfl) G (by rw[q,List.take_append_of_le_length (by omega),List.take_of_length_le (by omega)])
   rw[q,Jcu (by simp)]at B2;rcases hR _ _ e with h|h
   .rcases B2.2 with b|b|b
    .exact h.1 (Option.some.inj b)
    .exact h.2.1 (Option.some.inj b)
    .exact h.2.2 (Option.some.inj b)
   .exact B2.1 (by omega)
theorem Ja1 {p:Int->Bool}{x:ByteArray}{q:Int}{c:UInt8}{r:List UInt8}(h:(D x).drop q.toNat=c ::r):isC p x q↔p c.toNat=true:=by
 have e:x[q.toNat]? =some c:=by rw[JaU,<-List.head?_drop,h];rfl
 exact⟨fun⟨u,h1,h2⟩=>by rw[e]at h1;cases h1;exact h2,fun h=>⟨c,e,h⟩⟩
theorem Jg3 {p:Int->Bool}{x:ByteArray}{q:Int}(h:(D x).drop q.toNat=[]):¬isC p x q:=fun⟨u,h1,_⟩=>by
 rw[JaU,<-List.head?_drop,h]at h1;cases h1
structure At (x:ByteArray) (q:Int) (w:Wd) (r:List Wd):Prop where
 l:0<=q/\q<=x.size
 d:(D x).drop q.toNat=wtx w ++bz (lb w) r
 g:Gw w
 gs:∀v ∈ r,Gw v
 a:Adj (w ::r)
theorem At.size {x:ByteArray}{q:Int}{w:Wd}{r:List Wd}(h:At x q w r):q+wz w+(bz (lb w) r).length=x.size:=by
 have:=congrArg List.length h.d;rw[List.length_drop,jJZ,List.length_append]at this;have:=h.l;unfold wz;omega
theorem At.dr {x:ByteArray}{q:Int}{w:Wd}{r:List Wd}(h:At x q w r):(D x).drop (q+wz w).toNat=bz (lb w) r:=by
 have:=h.l;rw[show(q+(wz w:Int)).toNat=q.toNat+wz w by omega,<-List.drop_drop,h.d];unfold wz;rw[List.drop_left]
theorem At.rm {x:ByteArray}{q:Int}{w:Wd}{r:List Wd}(h:At x q w r):(¬StA x q oRm)/\(¬isC blB x q)/\(lb w=false->Sgn x q w.k):=by
 have f:=h.g.f
 obtain⟨c,t,e⟩:∃c t,wtx w=c ::t:=by
  cases q :wtx w with
  |nil=>exact absurd q f.n
  |cons c t=>exact⟨c,t,rfl⟩
 have d:=h.d;have O:(D x).drop q.toNat=c ::(t ++bz (lb w) r):=by rw[d,e];rfl
 have nb:¬isC blB x q:=fun q=>by
  rw[Ja1 O,f.b c (by rw[e];simp)]at q;cases q
 cases hl :lb w with
 |true=>
  refine⟨fun s=>?_,nb,fun q=>by cases q⟩;have p:=s.pre;rw[O]at p;have B:=f.l c (by rw[e];simp);rw[hl]at B;have p:[40,42] <+:c ::(t ++bz (lb w) r):=p;rw[List.cons_prefix_cons]at p;have:=(JbF B).2.2.2.2;rw[<-p.1]at this;exact this rfl
 |false=>
  obtain⟨P,V,g3⟩:=f.g hl
  have nx:∀c r',bz (lb w) r=c ::r'->(c≠42/\c≠61/\c≠62)\/w.k=24:=fun c r' B=>by
   cases r with
   |nil=>cases B
   |cons v r=>
    have M:=(h.gs v (by simp)).f;rw[bz,hl]at B;have B:wtx v ++bz (lb v) r=c ::r':=B
    obtain⟨c',t',G⟩:∃c t,wtx v=c ::t:=by
     cases q :wtx v with
     |nil=>exact absurd q M.n
     |cons c t=>exact⟨c,t,rfl⟩
    rw[G]at B;have Z:c'=c:=by injection B
    subst Z;have J:=M.l c' (by rw[G];simp)
    cases lv :lb v with
    |true=>
     rw[lv]at J;have q:=JbF J;exact .inl ⟨fun z=>q.2.1 (by rw[z];rfl),fun z=>q.2.2.1 (by rw[z];rfl),fun z=>q.2.2.2.1 (by rw[z];rfl)⟩
    |false=>
     obtain⟨v1,v2,v3⟩:=M.g lv;have Y:gp w.k v.k:=h.a.1;unfold gp at Y;have E:w.k=24\/v.k=23\/v.k=31\/v.k=24:=by omega
     rcases E with E|E|E|E
     .exact .inr E
     .rw[v3,E]at G
      have:c'=40:=by have:=congrArg List.head? G;exact(Option.some.inj this).symm
      subst this;exact .inl (by decide)
     .rw[v3,E]at G
      have:c'=45:=by have:=congrArg List.head? G;exact(Option.some.inj this).symm
      subst this;exact .inl (by decide)
     .rw[v3,E]at G
      have:c'=41:=by have:=congrArg List.head? G;exact(Option.some.inj this).symm
      subst this;exact .inl (by decide)
  have S:=Jfx P V nx;rw[g3]at d;refine⟨fun s=>S.1 (by rw[<-d];exact s.pre),nb,fun _=>⟨⟨P,V⟩,StA.of h.l.1 h.l.2 (by rw[d];exact List.prefix_append _ _),fun j j0 j1 s=>S.2 j j0 j1 (by rw[<-d];exact s.pre)⟩⟩
theorem JgU:∀j:Fin 35,3<=j.val->j.val<18->∀c,((txL[j.val]?).getD []).head? =some c->dgB c.toNat=false:=by
 have a:∀j:Fin 35,3<=j.val->j.val<18->(match ((txL[j.val]?).getD []).head? with|some c=>dgB c.toNat|none=>false)=false:=by decide
 intro j B h2 c E;have:=a j B h2;rw[E]at this;exact this
theorem At.wk {x:ByteArray}{q:Int}{w:Wd}{r:List Wd}(h:At x q w r):WkW x q ⟨w.k,q,w.n,w.s⟩ (q+wz w):=by
 have f:=h.g.f;have R:=h.rm;have sz:=h.size;have hl:=h.l
 obtain⟨c,t,e⟩:∃c t,wtx w=c ::t:=by
  cases q :wtx w with
  |nil=>exact absurd q f.n
  |cons c t=>exact⟨c,t,rfl⟩
 have E:(D x).drop q.toNat=c ::(t ++bz (lb w) r):=by rw[h.d,e];rfl
 have zp:1<=wz w:=by unfold wz;rw[e];simp
 have ex:D (x.extract q.toNat (q+wz w).toNat)=wtx w:=by
  rw[Ja4,show(q+(wz w:Int)).toNat-q.toNat=wz w by omega,h.d];unfold wz;rw[List.take_left]
 cases lw :lb w with
 |false=>
  obtain⟨g1,g2,Y⟩:=f.g lw;have nl:¬isC ltB x q:=fun p=>by rw[Ja1 E,f.l c (by rw[e];simp),lw]at p;cases p
  have S:=R.2.2 lw;have ez:(wz w:Int)=(txF w.k).size:=by unfold wz;rw[Y,jJZ]
  cases h.g with
  |nu=>cases lw
  |nm=>cases lw
  |kw=>rw[ez];exact .sg hl.1 R.1 nl S
 |true=>
  have B:Run x q (q+wz w):=by
   refine⟨by omega,fun i i0 i1=>?_,fun p=>?_⟩
   .have hi:(i-q).toNat<(wtx w).length:=by unfold wz at i1;omega
    refine⟨(wtx w)[(i-q).toNat],?_,?_⟩
    .rw[JaU]
     have:(D x)[i.toNat]? =((D x).drop q.toNat)[(i-q).toNat]?:=by rw[List.getElem?_drop];congr 1;omega
     rw[this,h.d,List.getElem?_append_left hi,List.getElem?_eq_getElem hi]
    .rw[f.l _ (List.getElem_mem hi),lw]
   .have dr:=h.dr
    cases r with
    |nil=>exact Jg3 (p:=ltB) (by rw[dr];rfl) p
    |cons v r=>
     rw[bz,lw]at dr
     cases lv :lb v with
     |true=>
      rw[lv]at dr;have dr:(D x).drop (q+wz w).toNat=32 ::(wtx v ++bz true r):=dr;rw[Ja1 dr]at p;cases p
     |false=>
      rw[lv]at dr;have O:=(h.gs v (by simp)).f
      obtain⟨c',Z,G⟩:∃c t,wtx v=c ::t:=by
       cases q :wtx v with
       |nil=>exact absurd q O.n
       |cons c t=>exact⟨c,t,rfl⟩
      have dr:(D x).drop (q+wz w).toNat=c' ::(Z ++bz false r):=by rw[dr,G];rfl
      rw[Ja1 dr,O.l c' (by rw[G];simp),lv]at p;cases p
  cases hg :h.g with
  |@nu n h0 h1=>
   have J:wtx ⟨1,n,ByteArray.empty⟩=Lib.decDigits n.toNat:=Jcs h0;refine .nu R.1 B ⟨c,by rw[JaU,<-List.head?_drop,E];rfl,(Jd9 n.toNat).2 c (by rw[<-J,e];simp)⟩ h0 ?_;rw[ex,J,Jgd _ (by omega)];show((n.toNat:Nat):Int)=n;omega
  |@nm s hn hl2 hd hk=>
   have M:x.extract q.toNat (q+wz ⟨2,0,s⟩).toNat=s:=jZ7 ex
   have:=WkW.nm (x:=x) R.1 B (fun p=>by
    rw[Ja1 E]at p
    have:(D s).head? =some c:=by
     have P:D s=c ::t:=e;rw[P];rfl
    rw[hd c this]at p;cases p) (fun k k1 k2=>by rw[M];exact hk k k1 k2)
   rw[M]at this;exact this
  |@kw k h0 h1=>
   have h3:k<18:=dt lw;have V:txF k=x.extract q.toNat (q+wz ⟨k,0,ByteArray.empty⟩).toNat:=jZ7 (by rw[ex,Ja5 h0]);refine .kw R.1 B (fun p=>?_) ⟨h0,show k<=17 by omega⟩ V;rw[Ja1 E]at p
   have hd:=JgU ⟨k.toNat,by omega⟩ (by show 3<=k.toNat;omega) (by show k.toNat<18;omega) c (by
    show((txL[k.toNat]?).getD []).head? =some c
    rw[<-Ja7 (by omega) (by omega),<-Ja5 h0 ByteArray.empty 0,e];rfl)
   rw[hd]at p;cases p
theorem Je9:∀i j:Fin 35,3<=i.val->i.val<18->3<=j.val->j.val<18->(txL[i.val]?).getD []=(txL[j.val]?).getD []->i.val=j.val:=by decide
theorem WkW.det {x:ByteArray}{a j j':Int}{w w':WdS}(h:WkW x a w j) (B:WkW x a w' j'):w=w'/\j=j':=by
 cases h with
 |@sg k h0 hr hl s=>
  cases B with
  |@sg k' h0' hr' hl' s'=>
   have:k=k':=by
    rcases Int.lt_trichotomy k k' with q|q|q
    .exact absurd s.s (s'.n k s.l.1 q)
    .exact q
    .exact absurd s'.s (s.n k' s'.l.1 q)
   subst this;exact⟨rfl,rfl⟩
  |nu _ r=>exact absurd (r.y a (Int.le_refl _) r.l.2.1) hl
  |kw _ r=>exact absurd (r.y a (Int.le_refl _) r.l.2.1) hl
  |nm _ r=>exact absurd (r.y a (Int.le_refl _) r.l.2.1) hl
 |nu _ r d hn e=>
  cases B with
  |sg _ _ hl=>exact absurd (r.y a (Int.le_refl _) r.l.2.1) hl
  |nu _ r' d' hn' e'=>have q:=r.un r';subst q;subst e e';exact⟨rfl,rfl⟩
  |kw _ _ d'=>exact absurd d d'
  |nm _ _ d'=>exact absurd d d'
 |@kw _ k _ r d l e=>
  cases B with
  |sg _ _ hl=>exact absurd (r.y a (Int.le_refl _) r.l.2.1) hl
  |nu _ _ d'=>exact absurd d' d
  |@kw _ k' _ r' _ l' e'=>
   have q:=r.un r';subst q;have eq:=congrArg D (e.trans e'.symm);rw[Ja7 (by omega) (by omega),Ja7 (by omega) (by omega)]at eq;have:=Je9 ⟨k.toNat,by omega⟩ ⟨k'.toNat,by omega⟩ (by show 3<=k.toNat;omega) (by show k.toNat<18;omega) (by show 3<=k'.toNat;omega) (by show k'.toNat<18;omega) eq;have:k.toNat=k'.toNat:=this;have:k=k':=by omega
   subst this;exact⟨rfl,rfl⟩
  |nm _ r' _ e'=>have q:=r.un r';subst q;exact absurd e (e' k l.1 l.2)
 |nm _ r d e=>
  cases B with
  |sg _ _ hl=>exact absurd (r.y a (Int.le_refl _) r.l.2.1) hl
  |nu _ _ d'=>exact absurd d' d
  |@kw _ k' _ r' _ l' e'=>have q:=r.un r';subst q;exact absurd e' (e k' l'.1 l'.2)
  |nm _ r'=>have q:=r.un r';subst q;exact⟨rfl,rfl⟩
theorem Lx.back {x:ByteArray}:∀(ws:List Wd) {q e a:Int}{l:List WdS},(∀w ∈ ws,Gw w)->Adj ws->0<=q->q<=x.size->(D x).drop q.toNat=bz false ws->Lx x q l e a->e=0/\l.map wdO=ws ++[⟨0,0,ByteArray.empty⟩]
 |[],q,e,a,l,_,_,h0,h1,hd,h=>by
  have:x.size<=q:=by
   have:=congrArg List.length hd;rw[List.length_drop,jJZ]at this;have:x.size-q.toNat=0:=this;omega
  cases h with
  |fin=>exact⟨rfl,rfl⟩
  |bad h=>omega
  |more h=>omega
 |w ::r,q,e,a,l,hg,ha,h0,h1,hd,h=>by
  have A:At x q w r:=⟨⟨h0,h1⟩,hd,hg w (by simp),fun v hv=>hg v (List.mem_cons_of_mem _ hv),ha⟩
  have K:=A.wk;have lt:=K.lt
  cases h with
  |fin h=>omega
  |bad _ _ hn=>exact absurd K (hn _ _)
  |@more _ j j' _ _ w' l h hw hs t=>
   obtain⟨G,J⟩:=K.det hw;subst G J;have dr:=A.dr;have sl:=hs.l
   have fin:(D x).drop j'.toNat=bz false r->e=0/\(⟨w.k,q,w.n,w.s⟩ ::l).map wdO=w ::r ++[⟨0,0,ByteArray.empty⟩]:=fun hd'=>by
    obtain⟨M,O⟩:=Lx.back r (fun v hv=>hg v (List.mem_cons_of_mem _ hv)) (by cases r with|nil=>trivial|cons=>exact ha.2) (by omega) sl.2 hd' t;exact⟨M,by rw[List.map_cons,O];rfl⟩
   cases r with
   |nil=>
    have B:j'=q+wz w:=by
     have sz:=A.size;have:(bz (lb w) []).length=0:=rfl;omega
    exact fin (by rw[B,dr];rfl)
   |cons v r=>
    rw[bz]at dr
    have mk:∀p:Int,0<=p->p<=x.size->(D x).drop p.toNat=wtx v ++bz (lb v) r->At x p v r:=fun p p0 p1 pd=>⟨⟨p0,p1⟩,pd,hg v (by simp),fun y hy=>hg y (by simp[hy]),ha.2⟩
    cases hb :lb w && lb v with
    |true=>
     rw[hb]at dr;have dr:(D x).drop (q+wz w).toNat=32 ::(wtx v ++bz (lb v) r):=dr;have b:isC blB x (q+wz w):=(Ja1 dr).2 rfl
     have E:(D x).drop (q+wz w+1).toNat=wtx v ++bz (lb v) r:=by
      rw[show(q+(wz w:Int)+1).toNat=(q+wz w).toNat+1 by omega,<-List.drop_drop,dr];rfl
     have P:=Jct b;have R:=(mk _ (by omega) (by omega) E).rm;have s2:=hs.q b;have B:j'=q+wz w+1:=Decidable.byContradiction fun n=>(s2.2 n).elim R.2.1 R.1;exact fin (by rw[B,E];rfl)
    |false=>
     rw[hb]at dr;have dr:(D x).drop (q+wz w).toNat=wtx v ++bz (lb v) r:=dr;have R:=(mk _ (by omega) (by omega) dr).rm;have B:j'=q+wz w:=Decidable.byContradiction fun n=>(hs.p n).elim R.2.1 R.1;exact fin (by rw[B,dr];rfl)
end V
end Go.Proofs.YtnhbcdnmfafbiaaGreatDoor
