import Derived.Test.YtnhbcdnmfafbiaaGreatDoorM19
import Derived.Test.YtnhbcdnmfafbiaaGreatDoorM24
set_option linter.unusedVariables false
set_option linter.unusedSimpArgs false
set_option maxHeartbeats 20000000
set_option maxRecDepth 100000
namespace Go.Proofs.YtnhbcdnmfafbiaaGreatDoor
namespace V
open Go.Proofs
def dgB (n:Int):Bool:=decide (48<=n) && decide (n<=57)
def ltB (n:Int):Bool:=(decide (97<=n) && decide (n<=122)) || dgB n || decide (n=95)
def blB (n:Int):Bool:=decide (n=32) || decide (n=9) || decide (n=10) || decide (n=13)
def txF (k:Int):ByteArray:=if 0<=k/\k<35 then⟨⟨(txL[k.toNat]?).getD []⟩⟩ else⟨#[]⟩
def aU8:Pz Arg:=⟨Int,fun n=>.pl (.c (.i .u8 n)),fun x=>match x with
 | .pl (.c (.i .u8 n))=>some n
 |_=>none,fun b x e=>by split at e <;> cases e;rfl⟩
def pU8 (n:Int):Arg:=.pl (.c (.i .u8 n))
def aSs:Pz Arg:=⟨ByteArray,fun s=>.pl (.c (.s s)),fun x=>match x with
 | .pl (.c (.s s))=>some s
 |_=>none,fun b x e=>by split at e <;> cases e;rfl⟩
def pSs (s:ByteArray):Arg:=.pl (.c (.s s))
def rSs:Pz (List Arg):=⟨ByteArray,fun s=>[.pl (.c (.s s))],fun x=>match x with
 |[.pl (.c (.s s))]=>some s
 |_=>none,fun b x e=>by split at e <;> cases e;rfl⟩
theorem Jd7 (n:Int):Tot T1 (mkc rB b0 (fun b _=>b=dgB n) True) 72 [pU8 n]:=vF hy Jae Tryz.func72 (br (decide (48<=n)) (decide (n<=57)=dgB n) (false=dgB n)) (by kernel_rfl) ⟨fun h=>by unfold dgB;rw[h];rfl,fun h=>by unfold dgB;rw[h];rfl⟩
theorem Jh0 (n:Int):Tot T1 (mkc rB b0 (fun b _=>b=blB n) True) 67 [pU8 n]:=vF hy Jae Tryz.func67 (br (decide (n=32)) (true=blB n) (br (decide (n=9)) (true=blB n) (br (decide (n=10)) (true=blB n) (decide (n=13)=blB n)))) (by kernel_rfl) (by unfold blB;refine⟨fun h=>?_,fun h=>⟨fun h2=>?_,fun h2=>⟨fun h3=>?_,fun h3=>?_⟩⟩⟩ <;> simp[*])
def JcT:Cts:=ctp 72 (kA (aC aU8 aN) fun a=>mkc rB b0 (fun b _=>b=dgB a.1) True) ct0
theorem Jeq:Good T1 JcT:=by
 unfold JcT;refine Good.ad1 Jae ?_;rintro a -;exact Jd7 _
theorem JdH (n:Int):Tot T1 (mkc rB b0 (fun b _=>b=ltB n) True) 70 [pU8 n]:=vF hy Jeq Tryz.func70 (br (decide (97<=n)) (br (decide (n<=122)) (true=ltB n) (True/\∀(x:Bool × Unit),x.1=dgB n->br x.1 (true=ltB n) (decide (n=95)=ltB n))) (True/\∀(x:Bool × Unit),x.1=dgB n->br x.1 (true=ltB n) (decide (n=95)=ltB n))) (by kernel_rfl) (by
 have g:True/\∀(x:Bool × Unit),x.1=dgB n->(decide (97<=n) && decide (n<=122))=false->(x.1=true->true=ltB n)/\(x.1=false->decide (n=95)=ltB n):=⟨trivial,fun⟨x,_⟩ e hq=>by
  have e:x=dgB n:=e;subst e;unfold ltB;rw[hq]
  exact⟨fun h=>by dsimp only at h;rw[h];rfl,fun h=>by dsimp only at h;rw[h];rfl⟩⟩
 refine⟨fun h=>⟨fun h2=>?_,fun h2=>⟨trivial,fun x e=>g.2 x e (by rw[h,h2];rfl)⟩⟩,fun h=>⟨trivial,fun x e=>g.2 x e (by rw[h];rfl)⟩⟩;unfold ltB
 rw[h,h2];rfl)
def hGl:Hx:=⟨fun _=>eI,false,fun z=>cond (Nat.beq z 1) (some (eS fSt)) none,true,false⟩
theorem Jg6 (i:Nat) (h:i<txL.length):gts (gsC txL) i 1=some (fSt.f ⟨⟨(txL[i]?).getD []⟩⟩):=by
 have a:∀j:Fin 35,gts (gsC txL) j.val 1=some (fSt.f ⟨⟨(txL[j.val]?).getD []⟩⟩):=by
  intro j;have B:j.val<(gsC txL).length:=by show j.val<35;exact j.isLt
  have e:(gsC txL)[j.val]? =some (.s ⟨⟨(txL[j.val]?).getD []⟩⟩):=by
   unfold gsC;rw[List.getElem?_map,List.getElem?_eq_getElem (show j.val<txL.length from j.isLt)];rfl
  unfold gts gts;rw[e];simp only;rw[if_pos (by omega)];rfl
 exact a ⟨i,h⟩
theorem Jc7 (k:Int):Tot T1 (mkc rSs b0 (fun s _=>s=txF k) True) 88 [pI k]:=vF (⟨hGl,[],[],[]⟩) Jae Tryz.func88 (br (decide (k<0)) (true=true/\{data:=#[]}=txF k) (br (decide (k>=35)) ({data:=#[]}=txF k) ((0<=k/\k<↑35)/\(∃(y:ByteArray),gts (gsC txL) (0+k.toNat*1) 1=some (fSt.f y))/\∀(x:ByteArray),gts (gsC txL) (0+k.toNat*1) 1=some (fSt.f x)->x=txF k))) (by kernel_rfl) (by
 have z:¬(0<=k/\k<35)->(⟨#[]⟩:ByteArray)=txF k:=fun h=>by unfold txF;rw[if_neg h]
 refine⟨fun h=>⟨rfl,z fun q=>by have:=dt h;omega⟩,fun h=>⟨fun h2=>z fun q=>by have:=dt h2;omega,fun h2=>?_⟩⟩;have h:=df h;have h2:=df h2;have hk:k.toNat<txL.length:=by show k.toNat<35;omega
 have B:gts (gsC txL) (0+k.toNat*1) 1=some (fSt.f (txF k)):=by
  unfold txF;rw[if_pos ⟨by omega,by omega⟩,Nat.zero_add,Nat.mul_one];exact Jg6 _ hk
 exact⟨⟨by omega,by omega⟩,⟨_,B⟩,fun x e=>by rw[B]at e;cases e;rfl⟩)
structure StA (x:ByteArray) (a:Int) (t:ByteArray):Prop where
 lo:0<=a
 hi:a+t.size<=x.size
 e:x.extract a.toNat (a+t.size).toNat=t
structure JaD (x:ByteArray) (a:Int) (t:ByteArray) (b:Bool):Prop where
 e:b=true↔StA x a t
structure StP (x:ByteArray) (a:Int) (t:ByteArray):Prop where
 r: -1000000<=a/\a<=1000000
 z:t.size<=1000000
theorem Jfm {x:ByteArray}{a:Int}{t:ByteArray}(h:StP x a t):Tot T1 (mkc rB b0 (fun b _=>JaD x a t b) True) 69 [pSs x,pI a,pSs t]:=vF hy Jae Tryz.func69 (br (decide (0<=a)) (br (decide (wr (a+↑t.size)<=↑x.size)) (0<=a/\0<=wr (a+↑t.size)/\(a.toNat<=(wr (a+↑t.size)).toNat/\(wr (a+↑t.size)).toNat<=x.size)/\JaD x a t (decide (x.extract a.toNat (wr (a+↑t.size)).toNat=t))) (JaD x a t false)) (JaD x a t false)) (by kernel_rfl) (by
 have:=h.r;have:=h.z;have E:wr (a+t.size)=a+t.size:=by unfold wr;rw[IntKind.wrap_i64];omega
 rw[E]
 have no:¬StA x a t->JaD x a t false:=fun h=>⟨⟨fun e=>(by cases e),fun e=>absurd e h⟩⟩
 refine⟨fun h0=>⟨fun B=>?_,fun B=>no fun s=>df B s.hi⟩,fun h0=>no fun s=>df h0 s.lo⟩;have h0:=dt h0;have B:=dt B;refine⟨h0,by omega,⟨by omega,by omega⟩,⟨⟨fun e=>⟨h0,B,dt e⟩,fun s=>?_⟩⟩⟩
 exact decide_eq_true s.e)
def JcR:Cts:=ctp 69 (kA (aC aSs <|aC aI <|aC aSs aN) fun a=>mkc rB b0 (fun b _=>JaD a.1 a.2.1 a.2.2.1 b) (StP a.1 a.2.1 a.2.2.1)) <|ctp 88 (kA (aC aI aN) fun a=>mkc rSs b0 (fun s _=>s=txF a.1) True) <|ctp 70 (kA (aC aU8 aN) fun a=>mkc rB b0 (fun b _=>b=ltB a.1) True) <|ctp 67 (kA (aC aU8 aN) fun a=>mkc rB b0 (fun b _=>b=blB a.1) True) JcT
theorem Jep:Good T1 JcR:=by
 unfold JcR;refine Good.ad1 (Good.ad1 (Good.ad1 (Good.ad1 Jeq ?_) ?_) ?_) ?_
 .rintro a -;exact Jh0 _
 .rintro a -;exact JdH _
 .rintro a -;exact Jc7 _
 .rintro a h;exact Jfm h
def hLx:Hx:=⟨fun _=>eI,false,fun _=>none,false,false⟩
def oRm:ByteArray:=⟨#[40,42]⟩
structure ReI (x:ByteArray) (b:Int) (x':ByteArray) (b' o a:Int):Prop where
 e:x'=x/\b'=b
 l:0<=o/\o<=a
 m:b+2<=a/\a<=x.size
structure ReR (x:ByteArray) (b j:Int):Prop where
 lo:b<=j
 hi:j<=x.size
 n:¬StA x b oRm->j=b
structure ReP (x:ByteArray) (b:Int):Prop where
 l:0<=b/\b<=x.size
 z:x.size<=100000
def reT:Rl Av:=.cons 0 tS <| .cons 1 tI <| .cons 5 tI <| .cons 6 tI .nil
def reH (x:ByteArray) (b:Int):Hy:=⟨hLx,[],[],[(5,.iv reT .nil (fun q=>ReI x b q.1.1 q.1.2.1 q.1.2.2.1 q.1.2.2.2.1) fun q=>ixM x.size q.1.2.2.2.1)]⟩
theorem Jaw {n:Int}(h: -1000000<=n/\n<=1000000):wr n=n:=by unfold wr;rw[IntKind.wrap_i64];omega
theorem JfI {x:ByteArray}{b:Int}(h:ReP x b):Tot T1 (mkc rI b0 (fun j _=>ReR x b j) True) 68 [pSs x,pI b]:=vF (reH x b) Jep Tryz.func68 (StP x b {data:=#[(40:UInt8),(42:UInt8)]}/\∀(x_1:Bool × Unit),JaD x b {data:=#[(40:UInt8),(42:UInt8)]} x_1.1->br (!x_1.1) (ReR x b b) (ReI x b x b 1 (wr (b+2))/\∀(a:(ByteArray × Int × Int × Int × Unit) × Unit),ReI x b a.1.1 a.1.2.1 a.1.2.2.1 a.1.2.2.2.1->br (decide (a.1.2.2.2.1<↑(ByteArray.size a.1.1))) (br (decide (a.1.2.2.1 >0)) (StP a.1.1 a.1.2.2.2.1 {data:=#[(40:UInt8),(42:UInt8)]}/\∀(x_2:Bool × Unit),JaD a.1.1 a.1.2.2.2.1 {data:=#[(40:UInt8),(42:UInt8)]} x_2.1->br x_2.1 (ReI x b a.1.1 a.1.2.1 (wr (a.1.2.2.1+1)) (wr (a.1.2.2.2.1+2))/\ixM x.size (wr (a.1.2.2.2.1+2))<ixM x.size a.1.2.2.2.1) (StP a.1.1 a.1.2.2.2.1 {data:=#[(42:UInt8),(41:UInt8)]}/\∀(x_3:Bool × Unit),JaD a.1.1 a.1.2.2.2.1 {data:=#[(42:UInt8),(41:UInt8)]} x_3.1->br x_3.1 (ReI x b a.1.1 a.1.2.1 (wr (a.1.2.2.1-1)) (wr (a.1.2.2.2.1+2))/\ixM x.size (wr (a.1.2.2.2.1+2))<ixM x.size a.1.2.2.2.1) (ReI x b a.1.1 a.1.2.1 a.1.2.2.1 (wr (a.1.2.2.2.1+1))/\ixM x.size (wr (a.1.2.2.2.1+1))<ixM x.size a.1.2.2.2.1))) (br (decide (a.1.2.2.1 >0)) (ReR x b a.1.2.1) (ReR x b a.1.2.2.2.1))) (false=false/\br (decide (a.1.2.2.1 >0)) (ReR x b a.1.2.1) (ReR x b a.1.2.2.2.1)))) (by kernel_rfl) (by
 obtain⟨B,E⟩:=h;refine⟨⟨by omega,by show 2<=1000000;omega⟩,fun⟨s,_⟩ hs=>⟨fun h1=>?_,fun h1=>?_⟩⟩
 .dsimp only at hs h1 ⊢
  exact⟨by omega,by omega,fun _=>rfl⟩
 dsimp only at hs h1 ⊢
 have st:StA x b oRm:=hs.e.1 (by simpa using h1);have sh:b+2<=x.size:=st.hi;rw[Jaw (by omega)];refine⟨⟨⟨rfl,rfl⟩,by omega,by omega⟩,fun⟨⟨x',b',o,a,_⟩,_⟩ ⟨⟨e1,e2⟩,ho,ha⟩=>?_⟩
 dsimp only at e1 e2 ho ha ⊢
 subst e1 e2
 have fin:ReR x' b' a/\ReR x' b' b':=⟨⟨by omega,by omega,fun h=>absurd st h⟩,⟨by omega,by omega,fun _=>rfl⟩⟩
 refine⟨fun h2=>⟨fun h3=>⟨⟨by omega,by show 2<=1000000;omega⟩,fun⟨s2,_⟩ hs2=>⟨fun h4=>?_,fun h4=>⟨⟨by omega,by show 2<=1000000;omega⟩,fun⟨s3,_⟩ hs3=>⟨fun h5=>?_,fun h5=>?_⟩⟩⟩⟩,fun h3=>⟨fun _=>fin.2,fun _=>fin.1⟩⟩,fun h2=>⟨rfl,fun _=>fin.2,fun _=>fin.1⟩⟩
 .have:=(hs2.e.1 h4).hi
  have:a+2<=x'.size:=this;rw[Jaw (by omega),Jaw (by omega)];exact⟨⟨⟨rfl,rfl⟩,by omega,by omega⟩,by unfold ixM;omega⟩
 .have:=(hs3.e.1 h5).hi
  have:a+2<=x'.size:=this;have:=dt h3;rw[Jaw (by omega),Jaw (by omega)];exact⟨⟨⟨rfl,rfl⟩,by omega,by omega⟩,by unfold ixM;omega⟩
 .have:=dt h2
  rw[Jaw (by omega)]
  exact⟨⟨⟨rfl,rfl⟩,by omega,by omega⟩,by unfold ixM;omega⟩)
def JcS:Cts:=ctp 68 (kA (aC aSs <|aC aI aN) fun a=>mkc rI b0 (fun j _=>ReR a.1 a.2.1 j) (ReP a.1 a.2.1)) JcR
theorem Jbt:Good T1 JcS:=by
 unfold JcS;refine Good.ad1 Jep ?_;rintro a h;exact JfI h
def isC (p:Int->Bool) (x:ByteArray) (i:Int):Prop:=∃u:UInt8,x[i.toNat]? =some u/\p u.toNat=true
structure SkI (x:ByteArray) (b:Int) (x':ByteArray) (j:Int):Prop where
 e:x'=x
 l:b<=j/\j<=x.size
 p:j≠b->isC blB x b\/StA x b oRm
 q:j≠b->isC blB x b->b+1<=j/\(j≠b+1->isC blB x (b+1)\/StA x (b+1) oRm)
def skT:Rl Av:=.cons 0 tS <| .cons 1 tI .nil
def skH (x:ByteArray) (b:Int):Hy:=⟨hLx,[],[],[(1,.iv skT .nil (fun q=>SkI x b q.1.1 q.1.2.1) fun q=>ixM x.size q.1.2.1)]⟩
structure SkR (x:ByteArray) (b j:Int):Prop where
 l:b<=j/\j<=x.size
 p:j≠b->isC blB x b\/StA x b oRm
 q:isC blB x b->b+1<=j/\(j≠b+1->isC blB x (b+1)\/StA x (b+1) oRm)
theorem Jct {p:Int->Bool}{x:ByteArray}{i:Int}(h:isC p x i):i<x.size:=by
 obtain⟨u,h,_⟩:=h
 by_cases hi:i.toNat<x.size
 .omega
 .rw[getElem?_neg x i.toNat hi]at h;cases h
theorem JgD {x:ByteArray}{b:Int}(h:ReP x b):Tot T1 (mkc rI b0 (fun j _=>SkR x b j) True) 36 [pSs x,pI b]:=vF (skH x b) Jbt Tryz.func36 (SkI x b x b/\∀(a:(ByteArray × Int × Unit) × Unit),SkI x b a.1.1 a.1.2.1->br (decide (a.1.2.1<↑(ByteArray.size a.1.1))) (0<=a.1.2.1/\Int.toNat a.1.2.1<ByteArray.size a.1.1/\∀(u:UInt8),a.1.1[Int.toNat a.1.2.1]? =some u->True/\∀(x_1:Bool × Unit),x_1.1=blB ↑u.toNat->br (!x_1.1) (ReP a.1.1 a.1.2.1/\∀(x_2:Int × Unit),ReR a.1.1 a.1.2.1 x_2.1->br (decide (x_2.1<=a.1.2.1)) (SkR x b a.1.2.1) (SkI x b a.1.1 x_2.1/\ixM x.size x_2.1<ixM x.size a.1.2.1)) (br (decide (wr (a.1.2.1+1)<=a.1.2.1)) (SkR x b a.1.2.1) (SkI x b a.1.1 (wr (a.1.2.1+1))/\ixM x.size (wr (a.1.2.1+1))<ixM x.size a.1.2.1))) (SkR x b a.1.2.1)) (by kernel_rfl) (by
 obtain⟨M,G⟩:=h;refine⟨⟨rfl,by omega,fun h=>absurd rfl h,fun h=>absurd rfl h⟩,fun⟨⟨x',j,_⟩,_⟩ ⟨e,hj,ha,hb'⟩=>?_⟩
 dsimp only at e hj ha hb' ⊢
 subst e;refine⟨fun h1=>⟨by omega,by have:=dt h1;omega,fun u hu=>⟨trivial,fun⟨s,_⟩ hs=>?_⟩⟩,fun h1=>⟨hj,ha,fun hc=>hb' (fun e=>?_) hc⟩⟩
 .have h1:=dt h1
  dsimp only at hs ⊢
  have nx:∀j',j<j'->j'<=x'.size->(isC blB x' j\/StA x' j oRm)->(isC blB x' j->j'=j+1)->SkI x' b x' j':=fun j' l1 l2 l3 l4=>⟨rfl,by omega,fun _=>by
   by_cases e:j=b
   .rw[<-e];exact l3
   .exact ha e,fun _ hc=>by
   by_cases e:j=b
   .subst e;have:=l4 hc;exact⟨by omega,fun e=>by omega⟩
   .obtain⟨q1,q2⟩:=hb' e hc
    refine⟨by omega,fun _=>?_⟩
    by_cases E:j=b+1
    .rw[<-E];exact l3
    .exact q2 E⟩
  refine⟨fun h2=>⟨⟨by omega,G⟩,fun⟨k,_⟩ hk=>⟨fun B=>?_,fun B=>?_⟩⟩,fun h2=>?_⟩
  .dsimp only at hk B ⊢
   have B:=dt B
   have nb:¬isC blB x' j:=fun⟨u',e1,E⟩=>by
    rw[hu]at e1;cases e1;rw[hs,E]at h2;cases h2
   exact⟨hj,ha,fun hc=>hb' (fun e=>nb (by rw[e];exact hc)) hc⟩
  .dsimp only at hk B ⊢
   have B:=df B
   have nb:¬isC blB x' j:=fun⟨u',e1,E⟩=>by
    rw[hu]at e1;cases e1;rw[hs,E]at h2;cases h2
   have:=hk.hi;exact⟨nx k (by omega) (by omega) (.inr (Classical.byContradiction fun n=>by have:=hk.n n;omega)) (fun c=>absurd c nb),by unfold ixM;omega⟩
  .rw[Jaw (by omega)]
   have J:isC blB x' j:=⟨u,hu,by rw[<-hs];simpa using h2⟩
   exact⟨fun B=>by have:=dt B;omega,fun B=>⟨nx (j+1) (by omega) (by omega) (.inl J) (fun _=>rfl),by unfold ixM;omega⟩⟩
 .have:=Jct hc
  have:=df h1
  omega)
end V
end Go.Proofs.YtnhbcdnmfafbiaaGreatDoor
set_option maxRecDepth 100000
namespace Go.Proofs.YtnhbcdnmfafbiaaGreatDoor
namespace V
open Go.Proofs
def rWE:Pz (List Arg):=⟨WdS × Int × Int,fun x=>[.pl (.ag (fWd.f x.1)),pI x.2.1,pI x.2.2],fun l=>match l with
 |[.pl (.ag v),.pl (.c (.i .i64 e)),.pl (.c (.i .i64 j))]=>(match fWd.un v with
  |some w=>some (w,e,j)
  |none=>none)
 |_=>none,fun b x e=>by
  split at e
  .split at e
   .rename_i h;cases e;rw[fWd.ok _ _ h];rfl
   .cases e
  .cases e⟩
theorem Jfa (k:Int):(txF k).size<=5:=by
 have a:∀j:Fin 35,((txL[j.val]?).getD []).length<=5:=by decide
 unfold txF
 split
 .exact a ⟨k.toNat,by omega⟩
 .decide
structure SgI (x:ByteArray) (a:Int) (x':ByteArray) (a' k:Int):Prop where
 e:x'=x/\a'=a
 l:18<=k/\k<=35
 n:∀j,18<=j->j<k->¬StA x a (txF j)
structure Sgn (x:ByteArray) (a k:Int):Prop where
 l:18<=k/\k<=34
 s:StA x a (txF k)
 n:∀j,18<=j->j<k->¬StA x a (txF j)
structure SgR (x:ByteArray) (a:Int) (w:WdS) (e j:Int):Prop where
 y:e=0->Sgn x a w.k/\w=⟨w.k,a,0,ByteArray.empty⟩/\j=a+(txF w.k).size
 z:e≠0->∀k,¬Sgn x a k
def sgT:Rl Av:=.cons 0 tS <| .cons 1 tI <| .cons 4 (tA 4) <| .cons 7 tI .nil
def Jcd:Rl Rt:=.cons 4 (rX 1 fWd) .nil
def sgH (x:ByteArray) (a:Int):Hy:=⟨hPS,[],[],[(2,.iv sgT Jcd (fun q=>SgI x a q.1.1 q.1.2.1 q.1.2.2.2.1) fun q=>ixM 35 q.1.2.2.2.1)]⟩
theorem Jfq {x:ByteArray}{a:Int}(h:ReP x a):Tot T1 (mkc rWE b0 (fun r _=>SgR x a r.1 r.2.1 r.2.2) True) 71 [pSs x,pI a]:=vR (sgH x a) Jbt [] [false,false,false] Tryz.func71 (SgI x a x a 18/\∀(a_1:(ByteArray × Int × Unit × Int × Unit) × WdS × Unit),SgI x a a_1.1.1 a_1.1.2.1 a_1.1.2.2.2.1->br (decide (a_1.1.2.2.2.1<=34)) (True/\∀(x_1:ByteArray × Unit),x_1.1=txF a_1.1.2.2.2.1->StP a_1.1.1 a_1.1.2.1 x_1.1/\∀(x_2:Bool × Unit),JaD a_1.1.1 a_1.1.2.1 x_1.1 x_2.1->br x_2.1 (SgR x a {k:=a_1.1.2.2.2.1,a:=a_1.1.2.1,n:=0,s:={data:=#[]}} 0 (wr (a_1.1.2.1+↑(ByteArray.size x_1.1)))) (SgI x a a_1.1.1 a_1.1.2.1 (wr (a_1.1.2.2.2.1+1))/\ixM 35 (wr (a_1.1.2.2.2.1+1))<ixM 35 a_1.1.2.2.2.1)) (SgR x a {k:=0,a:=0,n:=0,s:={data:=#[]}} 2 0)) (by kernel_rfl) (by
 obtain⟨E,G⟩:=h;refine⟨⟨⟨rfl,rfl⟩,by omega,fun j _ _=>by omega⟩,fun⟨⟨x',a',_,k,_⟩,_⟩ ⟨⟨e1,e2⟩,hk,hn⟩=>?_⟩
 dsimp only at e1 e2 hk hn ⊢
 subst e1 e2;have J:=Jfa k;refine⟨fun h1=>⟨trivial,fun⟨t,_⟩ B=>?_⟩,fun h1=>⟨fun h=>(by cases h),fun _ k' ⟨l,s,_⟩=>?_⟩⟩
 .have h1:=dt h1
  have B:t=txF k:=B;subst B
  dsimp only
  refine⟨⟨by omega,by omega⟩,fun⟨b,_⟩ hb2=>⟨fun h2=>?_,fun h2=>?_⟩⟩
  .rw[Jaw (by omega)]
   exact⟨fun _=>⟨⟨by dsimp only;omega,hb2.e.1 h2,hn⟩,rfl,rfl⟩,fun h=>absurd rfl h⟩
  .rw[Jaw (by omega)]
   refine⟨⟨⟨rfl,rfl⟩,by omega,fun j j1 j2=>?_⟩,by unfold ixM;omega⟩
   by_cases e:j=k
   .subst e;intro s;have:=hb2.e.2 s;dsimp only at this h2;rw[this]at h2;cases h2
   .exact hn j j1 (by omega)
 .have h1:=df h1
  exact hn k' l.1 (by omega) s)
structure Jb0 (x:ByteArray) (a:Int) (x':ByteArray) (a' k:Int):Prop where
 e:x'=x/\a'=a
 l:3<=k/\k<=18
 n:∀j,3<=j->j<k->txF j≠x
structure NaR (x:ByteArray) (a:Int) (w:WdS):Prop where
 w:(w=⟨2,a,0,x⟩/\∀j,3<=j->j<=17->txF j≠x)\/(3<=w.k/\w.k<=17/\w=⟨w.k,a,0,ByteArray.empty⟩/\txF w.k=x)
def lnaT:Rl Av:=.cons 0 tS <| .cons 1 tI <| .cons 4 (tA 4) <| .cons 5 tI .nil
def lnaH (x:ByteArray) (a:Int):Hy:=⟨hPS,[],[],[(2,.iv lnaT Jcd (fun q=>Jb0 x a q.1.1 q.1.2.1 q.1.2.2.2.1) fun q=>ixM 18 q.1.2.2.2.1)]⟩
theorem JgF (x:ByteArray) (a:Int):Tot T1 (mkc (rS fWd) b0 (fun r _=>NaR x a r) True) 73 [pSs x,pI a]:=vF (lnaH x a) Jbt Tryz.func73 (Jb0 x a x a 3/\∀(a_1:(ByteArray × Int × Unit × Int × Unit) × WdS × Unit),Jb0 x a a_1.1.1 a_1.1.2.1 a_1.1.2.2.2.1->br (decide (a_1.1.2.2.2.1<=17)) (True/\∀(x_1:ByteArray × Unit),x_1.1=txF a_1.1.2.2.2.1->br (decide (x_1.1=a_1.1.1)) (NaR x a {k:=a_1.1.2.2.2.1,a:=a_1.1.2.1,n:=0,s:={data:=#[]}}) (Jb0 x a a_1.1.1 a_1.1.2.1 (wr (a_1.1.2.2.2.1+1))/\ixM 18 (wr (a_1.1.2.2.2.1+1))<ixM 18 a_1.1.2.2.2.1)) (NaR x a {k:=2,a:=a_1.1.2.1,n:=0,s:=a_1.1.1})) (by kernel_rfl) (by
 refine⟨⟨⟨rfl,rfl⟩,by omega,fun j _ _=>by omega⟩,fun⟨⟨x',a',_,k,_⟩,_⟩ ⟨⟨e1,e2⟩,hk,hn⟩=>?_⟩
 dsimp only at e1 e2 hk hn ⊢
 subst e1 e2;refine⟨fun B=>⟨trivial,fun⟨t,_⟩ E=>?_⟩,fun B=>⟨.inl ⟨rfl,fun j j1 j2=>hn j j1 (by have:=df B;omega)⟩⟩⟩;have B:=dt B;have E:t=txF k:=E;subst E
 dsimp only
 refine⟨fun h2=>⟨.inr ⟨by dsimp only;omega,by dsimp only;omega,rfl,dt h2⟩⟩,fun h2=>?_⟩;rw[Jaw (by omega)];refine⟨⟨⟨rfl,rfl⟩,by omega,fun j j1 j2=>?_⟩,by unfold ixM;omega⟩
 by_cases e:j=k
 .subst e;exact df h2
 .exact hn j j1 (by omega))
def nmF:Int->List UInt8->Int
 |a,[]=>a
 |a,c ::l=>if dgB c.toNat then(if a >(4611686018427387903-((c.toNat:Int)-48)) / 10 then -1 else nmF (a*10+((c.toNat:Int)-48)) l) else -1
def D (x:ByteArray):List UInt8:=x.data.toList
theorem jJZ (x:ByteArray):(D x).length=x.size:=rfl
theorem JaU (x:ByteArray) (i:Nat):x[i]? =(D x)[i]?:=by
 by_cases h:i<x.size
 .rw[getElem?_pos x i h,List.getElem?_eq_getElem (by rw[jJZ];exact h)];rfl
 .rw[getElem?_neg x i h,List.getElem?_eq_none (by rw[jJZ];omega)]
theorem D_at {x:ByteArray}{i:Nat}{u:UInt8}(h:x[i]? =some u):(D x).drop i=u ::(D x).drop (i+1):=by
 rw[JaU]at h;obtain⟨B,h2⟩:=List.getElem?_eq_some_iff.1 h;rw[List.drop_eq_getElem_cons B,h2]
structure JbZ (x x':ByteArray) (n i:Int):Prop where
 e:x'=x
 l:0<=i/\i<=x.size
 m:0<=n/\n<=4611686018427387903
 v:nmF 0 (D x)=nmF n ((D x).drop i.toNat)
structure JaT (x:ByteArray) (n:Int):Prop where
 e:n=nmF 0 (D x)
def lnbT:Rl Av:=.cons 0 tS <| .cons 3 tI <| .cons 4 tI .nil
def lnbH (x:ByteArray):Hy:=⟨hLx,[],[],[(3,.iv lnbT .nil (fun q=>JbZ x q.1.1 q.1.2.1 q.1.2.2.1) fun q=>ixM x.size q.1.2.2.1)]⟩
theorem JgE {x:ByteArray}(h:x.size<=100000):Tot T1 (mkc rI b0 (fun r _=>JaT x r) True) 74 [pSs x]:=vF (lnbH x) Jbt Tryz.func74 (JbZ x x 0 0/\∀(a:(ByteArray × Int × Int × Unit) × Unit),JbZ x a.1.1 a.1.2.1 a.1.2.2.1->br (decide (a.1.2.2.1<↑(ByteArray.size a.1.1))) (0<=a.1.2.2.1/\Int.toNat a.1.2.2.1<ByteArray.size a.1.1/\∀(u:UInt8),a.1.1[Int.toNat a.1.2.2.1]? =some u->True/\∀(x_1:Bool × Unit),x_1.1=dgB ↑u.toNat->br (!x_1.1) (JaT x ((-1))) (0<=a.1.2.2.1/\Int.toNat a.1.2.2.1<ByteArray.size a.1.1/\∀(u:UInt8),a.1.1[Int.toNat a.1.2.2.1]? =some u->(10:Int)≠0/\br (decide (a.1.2.1 >wr ((wr (4611686018427387903-(T1.ti 3).ik.wrap (IntKind.u8.wrap (↑u.toNat-48)))).tdiv 10))) (JaT x ((-1))) (JbZ x a.1.1 (wr (wr (a.1.2.1*10)+wr (IntKind.u8.wrap (↑u.toNat-48)))) (wr (a.1.2.2.1+1))/\ixM x.size (wr (a.1.2.2.1+1))<ixM x.size a.1.2.2.1))) (JaT x a.1.2.1)) (by kernel_rfl) (by
 refine⟨⟨rfl,by omega,by omega,rfl⟩,fun⟨⟨x',n,i,_⟩,_⟩ ⟨e,hl,hm,hv⟩=>?_⟩
 dsimp only at e hl hm hv ⊢
 subst e;refine⟨fun h1=>⟨by omega,by have:=dt h1;omega,fun u hu=>⟨trivial,fun⟨b,_⟩ hb=>?_⟩⟩,fun h1=>⟨?_⟩⟩
 .have h1:=dt h1
  have dr:=D_at hu;rw[dr,nmF]at hv
  dsimp only at hb ⊢
  subst hb;refine⟨fun h2=>⟨?_⟩,fun h2=>⟨by omega,by omega,fun u' hu'=>⟨by omega,?_⟩⟩⟩
  .have:dgB ↑u.toNat=false:=by simpa using h2
   rw[this]at hv;exact hv.symm
  .rw[hu]at hu'
   cases hu';have hd:dgB ↑u.toNat=true:=by simpa using h2
   rw[hd]at hv
   have Z:48<=(u.toNat:Int)/\(u.toNat:Int)<=57:=by
    unfold dgB at hd;rw[Bool.and_eq_true]at hd;exact⟨dt hd.1,dt hd.2⟩
   obtain⟨d,E⟩:∃d:Int,(u.toNat:Int)-48=d:=⟨_,rfl⟩
   rw[E]at hv ⊢;have P:IntKind.u8.wrap d=d:=by simp[IntKind.wrap,IntKind.bits,IntKind.signed];omega
   have B:(T1.ti 3).ik.wrap d=d:=by show IntKind.i64.wrap d=d;rw[IntKind.wrap_i64];omega
   have Y:wr d=d:=B;have G:wr (4611686018427387903-d)=4611686018427387903-d:=by unfold wr;rw[IntKind.wrap_i64];omega
   have J:(4611686018427387903-d).tdiv 10=(4611686018427387903-d) / 10:=Int.tdiv_eq_ediv_of_nonneg (by omega);have M:wr ((4611686018427387903-d) / 10)=(4611686018427387903-d) / 10:=by unfold wr;rw[IntKind.wrap_i64];omega
   rw[P,B,Y,G,J,M];simp only[if_true]at hv;refine⟨fun h3=>⟨?_⟩,fun h3=>?_⟩
   .rw[if_pos (dt h3)]at hv;exact hv.symm
   .have h3:=df h3
    rw[if_neg h3]at hv;have O:wr (n*10)=n*10:=by unfold wr;rw[IntKind.wrap_i64];omega
    have V:wr (n*10+d)=n*10+d:=by unfold wr;rw[IntKind.wrap_i64];omega
    rw[O,V,Jaw (by omega)];refine⟨⟨rfl,by omega,by omega,?_⟩,by unfold ixM;omega⟩;rw[show(i+1).toNat=i.toNat+1 by omega];exact hv
 .have h1:=df h1
  rw[List.drop_eq_nil_of_le (by rw[jJZ];omega)]at hv
  exact hv.symm)
end V
end Go.Proofs.YtnhbcdnmfafbiaaGreatDoor
set_option maxRecDepth 100000
namespace Go.Proofs.YtnhbcdnmfafbiaaGreatDoor
namespace V
open Go.Proofs
def ctLw:Cts:=ctp 71 (kA (aC aSs <|aC aI aN) fun a=>mkc rWE b0 (fun r _=>SgR a.1 a.2.1 r.1 r.2.1 r.2.2) (ReP a.1 a.2.1)) <|ctp 73 (kA (aC aSs <|aC aI aN) fun a=>mkc (rS fWd) b0 (fun r _=>NaR a.1 a.2.1 r) True) <|ctp 74 (kA (aC aSs aN) fun a=>mkc rI b0 (fun r _=>JaT a.1 r) (a.1.size<=100000)) <|ctp 72 (kA (aC aU8 aN) fun a=>mkc rB b0 (fun b _=>b=dgB a.1) True) JcS
theorem JhK:Good T1 ctLw:=by
 unfold ctLw;refine Good.ad1 (Good.ad1 (Good.ad1 (Good.ad1 Jbt ?_) ?_) ?_) ?_
 .rintro a -;exact Jd7 _
 .rintro a h;exact JgE h
 .rintro a h;exact JgF _ _
 .rintro a h;exact Jfq h
structure Run (x:ByteArray) (a j:Int):Prop where
 l:0<=a/\a<j/\j<=x.size
 y:∀i,a<=i->i<j->isC ltB x i
 n:¬isC ltB x j
inductive WkW (x:ByteArray) (a:Int):WdS->Int->Prop
 |sg {k:Int}(h0:0<=a) (hr:¬StA x a oRm) (hl:¬isC ltB x a) (s:Sgn x a k):WkW x a ⟨k,a,0,ByteArray.empty⟩ (a+(txF k).size)
 |nu {j n:Int}(hr:¬StA x a oRm) (r:Run x a j) (d:isC dgB x a) (hn:0<=n) (e:nmF 0 (D (x.extract a.toNat j.toNat))=n):WkW x a ⟨1,a,n,ByteArray.empty⟩ j
 |kw {j k:Int}(hr:¬StA x a oRm) (r:Run x a j) (d:¬isC dgB x a) (l:3<=k/\k<=17) (e:txF k=x.extract a.toNat j.toNat):WkW x a ⟨k,a,0,ByteArray.empty⟩ j
 |nm {j:Int}(hr:¬StA x a oRm) (r:Run x a j) (d:¬isC dgB x a) (e:∀k,3<=k->k<=17->txF k≠x.extract a.toNat j.toNat):WkW x a ⟨2,a,0,x.extract a.toNat j.toNat⟩ j
theorem Jc4 {k:Int}(h:18<=k/\k<=34):1<=(txF k).size:=by
 have a:∀j:Fin 35,18<=j.val->1<=((txL[j.val]?).getD []).length:=by decide
 unfold txF;rw[if_pos (by omega)];exact a ⟨k.toNat,by omega⟩ (by show 18<=k.toNat;omega)
theorem Run.un {x:ByteArray}{a j j':Int}(h:Run x a j) (B:Run x a j'):j=j':=by
 rcases Int.lt_trichotomy j j' with q|q|q
 .exact absurd (B.y j (by have:=h.l;omega) q) h.n
 .exact q
 .exact absurd (h.y j' (by have:=B.l;omega) q) B.n
structure LwR (x:ByteArray) (a:Int) (w:WdS) (e j:Int):Prop where
 y:e=0->WkW x a w j
 z:e≠0->∀w j,¬WkW x a w j
structure LwI (x:ByteArray) (a:Int) (x':ByteArray) (a' j:Int):Prop where
 e:x'=x/\a'=a
 l:a<=j/\j<=x.size
 y:∀i,a<=i->i<j->isC ltB x i
def lwT:Rl Av:=.cons 0 tS <| .cons 1 tI <| .cons 4 (tA 4) <| .cons 7 tI .nil
def lwH (x:ByteArray) (a:Int):Hy:=⟨hPS,[],[],[(6,.iv lwT Jcd (fun q=>LwI x a q.1.1 q.1.2.1 q.1.2.2.2.1) fun q=>ixM x.size q.1.2.2.2.1)]⟩
theorem JeO {x:ByteArray}{a:Int}(h:ReP x a):Tot T1 (mkc rWE b0 (fun r _=>LwR x a r.1 r.2.1 r.2.2) True) 37 [pSs x,pI a]:=vR (lwH x a) JhK [] [false,false,false] Tryz.func37 (br (decide (a<0)) (true=true/\LwR x a {k:=0,a:=0,n:=0,s:={data:=#[]}} 2 0) (br (decide (a>=↑x.size)) (true=true/\LwR x a {k:=0,a:=0,n:=0,s:={data:=#[]}} 2 0) (StP x a {data:=#[(40:UInt8),(42:UInt8)]}/\∀(x_1:Bool × Unit),JaD x a {data:=#[(40:UInt8),(42:UInt8)]} x_1.1->br x_1.1 (LwR x a {k:=0,a:=0,n:=0,s:={data:=#[]}} 2 0) (0<=a/\a.toNat<x.size/\∀(u:UInt8),x[a.toNat]? =some u->True/\∀(x_2:Bool × Unit),x_2.1=ltB ↑u.toNat->br (!x_2.1) (ReP x a/\∀(x_3:(WdS × Int × Int) × Unit),SgR x a x_3.1.1 x_3.1.2.1 x_3.1.2.2->LwR x a x_3.1.1 x_3.1.2.1 x_3.1.2.2) (LwI x a x a a/\∀(a_8:(ByteArray × Int × Unit × Int × Unit) × WdS × Unit),LwI x a a_8.1.1 a_8.1.2.1 a_8.1.2.2.2.1->br (decide (a_8.1.2.2.2.1<↑(ByteArray.size a_8.1.1))) (0<=a_8.1.2.2.2.1/\Int.toNat a_8.1.2.2.2.1<ByteArray.size a_8.1.1/\∀(u:UInt8),a_8.1.1[Int.toNat a_8.1.2.2.2.1]? =some u->True/\∀(x_3:Bool × Unit),x_3.1=ltB ↑u.toNat->br x_3.1 (LwI x a a_8.1.1 a_8.1.2.1 (wr (a_8.1.2.2.2.1+1))/\ixM x.size (wr (a_8.1.2.2.2.1+1))<ixM x.size a_8.1.2.2.2.1) (0<=a_8.1.2.1/\0<=a_8.1.2.2.2.1/\(Int.toNat a_8.1.2.1<=Int.toNat a_8.1.2.2.2.1/\Int.toNat a_8.1.2.2.2.1<=ByteArray.size a_8.1.1)/\0<=a_8.1.2.1/\Int.toNat a_8.1.2.1<ByteArray.size a_8.1.1/\∀(u:UInt8),a_8.1.1[Int.toNat a_8.1.2.1]? =some u->True/\∀(x_4:Bool × Unit),x_4.1=dgB ↑u.toNat->br (!x_4.1) (True/\∀(x_5:WdS × Unit),NaR (ByteArray.extract a_8.1.1 (Int.toNat a_8.1.2.1) (Int.toNat a_8.1.2.2.2.1)) a_8.1.2.1 x_5.1->LwR x a x_5.1 0 a_8.1.2.2.2.1) ((ByteArray.extract a_8.1.1 (Int.toNat a_8.1.2.1) (Int.toNat a_8.1.2.2.2.1)).size<=100000/\∀(x_5:Int × Unit),JaT (ByteArray.extract a_8.1.1 (Int.toNat a_8.1.2.1) (Int.toNat a_8.1.2.2.2.1)) x_5.1->br (decide (x_5.1<0)) (LwR x a {k:=0,a:=0,n:=0,s:={data:=#[]}} 3 0) (LwR x a {k:=1,a:=a_8.1.2.1,n:=x_5.1,s:={data:=#[]}} 0 a_8.1.2.2.2.1)))) (false=false/\0<=a_8.1.2.1/\0<=a_8.1.2.2.2.1/\(Int.toNat a_8.1.2.1<=Int.toNat a_8.1.2.2.2.1/\Int.toNat a_8.1.2.2.2.1<=ByteArray.size a_8.1.1)/\0<=a_8.1.2.1/\Int.toNat a_8.1.2.1<ByteArray.size a_8.1.1/\∀(u:UInt8),a_8.1.1[Int.toNat a_8.1.2.1]? =some u->True/\∀(x_3:Bool × Unit),x_3.1=dgB ↑u.toNat->br (!x_3.1) (True/\∀(x_4:WdS × Unit),NaR (ByteArray.extract a_8.1.1 (Int.toNat a_8.1.2.1) (Int.toNat a_8.1.2.2.2.1)) a_8.1.2.1 x_4.1->LwR x a x_4.1 0 a_8.1.2.2.2.1) ((ByteArray.extract a_8.1.1 (Int.toNat a_8.1.2.1) (Int.toNat a_8.1.2.2.2.1)).size<=100000/\∀(x_4:Int × Unit),JaT (ByteArray.extract a_8.1.1 (Int.toNat a_8.1.2.1) (Int.toNat a_8.1.2.2.2.1)) x_4.1->br (decide (x_4.1<0)) (LwR x a {k:=0,a:=0,n:=0,s:={data:=#[]}} 3 0) (LwR x a {k:=1,a:=a_8.1.2.1,n:=x_4.1,s:={data:=#[]}} 0 a_8.1.2.2.2.1)))))))) (by kernel_rfl) (by
 obtain⟨B,O⟩:=h
 have no:∀{w:WdS}{e j:Int},e≠0->(∀w j,¬WkW x a w j)->LwR x a w e j:=fun he hn=>⟨fun h=>absurd h he,fun _=>hn⟩
 refine⟨fun h0=>by have:=dt h0;omega,fun h0=>⟨fun E=>⟨rfl,no (by omega) fun w j hw=>?_⟩,fun E=>⟨⟨by omega,by show 2<=1000000;omega⟩,fun⟨r,_⟩ hr=>⟨fun h2=>no (by omega) fun w j hw=>?_,fun h2=>⟨by omega,by have:=df E;omega,fun u hu=>⟨trivial,fun⟨lt,_⟩ hlt=>⟨fun h3=>⟨⟨B,O⟩,fun⟨⟨w,e,j⟩,_⟩ hs=>?_⟩,fun h3=>?_⟩⟩⟩⟩⟩⟩⟩
 .have:=dt E
  cases hw with
  |sg _ _ _ s=>have:=s.s.hi;have:=Jc4 s.l;omega
  |nu _ r=>have:=r.l;omega
  |kw _ r=>have:=r.l;omega
  |nm _ r=>have:=r.l;omega
 .have s:StA x a oRm:=hr.e.1 h2
  cases hw <;> contradiction
 .have nr:¬StA x a oRm:=fun s=>by have:=hr.e.2 s;dsimp only at this h2;rw[this]at h2;cases h2
  have nl:¬isC ltB x a:=fun⟨u',e1,e2⟩=>by
   rw[hu]at e1;cases e1
   dsimp only at hlt h3
   rw[hlt,e2]at h3;cases h3
  dsimp only at hs ⊢
  refine⟨fun e0=>?_,fun e0 w j hw=>?_⟩
  .obtain⟨q1,q2,q3⟩:=hs.y e0
   rw[q2,q3];exact .sg B.1 nr nl q1
  .cases hw with
   |sg _ _ _ s=>exact hs.z e0 _ s
   |nu _ r=>exact nl (r.y a (Int.le_refl _) r.l.2.1)
   |kw _ r=>exact nl (r.y a (Int.le_refl _) r.l.2.1)
   |nm _ r=>exact nl (r.y a (Int.le_refl _) r.l.2.1)
 have E:=df E;have nr:¬StA x a oRm:=fun s=>by have:=hr.e.2 s;dsimp only at this h2;rw[this]at h2;cases h2
 have P:ltB ↑u.toNat=true:=by rw[<-hlt];simpa using h3
 have G:∀{u':UInt8}{b:Bool},x[a.toNat]? =some u'->b=dgB ↑u'.toNat->(b=true↔isC dgB x a):=fun {u' b} e1 e2=>⟨fun h=>⟨u',e1,by rw[<-e2];exact h⟩,fun⟨v,e3,e4⟩=>by rw[e1]at e3;cases e3;rw[e2];exact e4⟩
 have na:∀{j:Int}{b:Bool}{w:WdS},Run x a j->(b=true↔isC dgB x a)->(!b)=true->NaR (x.extract a.toNat j.toNat) a w->LwR x a w 0 j:=fun {j b w} r d B ⟨hw⟩=>⟨fun _=>by
  have nd:¬isC dgB x a:=fun q=>by rw[d.2 q]at B;cases B
  rcases hw with⟨rfl,q⟩|⟨q1,q2,q3,q4⟩
  .exact .nm nr r nd q
  .rw[q3];exact .kw nr r nd ⟨q1,q2⟩ q4,fun h=>absurd rfl h⟩
 have nb:∀{j:Int}{b:Bool}{n:Int},Run x a j->(b=true↔isC dgB x a)->(!b)=false->JaT (x.extract a.toNat j.toNat) n->(decide (n<0)=true->LwR x a ⟨0,0,0,ByteArray.empty⟩ 3 0)/\(decide (n<0)=false->LwR x a ⟨1,a,n,ByteArray.empty⟩ 0 j):=fun {j b n} r d B ⟨hn⟩=>by
  have J:isC dgB x a:=d.1 (by simpa using B);refine⟨fun h=>no (by omega) fun w j' hw=>?_,fun h=>⟨fun _=>.nu nr r J (by have:=df h;omega) hn.symm,fun h=>absurd rfl h⟩⟩;have h:=dt h
  cases hw with
  |sg _ _ hl _=>exact hl (r.y a (Int.le_refl _) r.l.2.1)
  |nu _ r' _ h0 e=>rw[<-r.un r']at e;omega
  |kw _ _ d=>exact d J
  |nm _ _ d=>exact d J
 have sz:∀j:Int,(x.extract a.toNat j.toNat).size<=100000:=fun j=>by rw[ByteArray.size_extract];omega
 refine⟨⟨⟨rfl,rfl⟩,by omega,fun i _ _=>by omega⟩,fun⟨⟨x',a',_,j,_⟩,_⟩ ⟨⟨e1,e2⟩,hl,hy⟩=>?_⟩
 dsimp only at e1 e2 hl hy ⊢
 subst e1 e2
 have M:(¬isC ltB x' j)->Run x' a' j:=fun n=>⟨⟨B.1,by
  rcases Int.lt_or_le a' j with q|q
  .exact q
  .have:j=a':=by omega
   rw[this]at n
   exact absurd ⟨u,hu,P⟩ n,by omega⟩,hy,n⟩
 refine⟨fun h4=>⟨by omega,by have:=dt h4;omega,fun v hv=>⟨trivial,fun⟨lt2,_⟩ hlt2=>⟨fun h5=>?_,fun h5=>⟨by omega,by omega,⟨by omega,by omega⟩,by omega,by omega,fun u' hu'=>⟨trivial,fun⟨b,_⟩ hb2=>?_⟩⟩⟩⟩⟩,fun h4=>⟨rfl,by omega,by omega,⟨by omega,by omega⟩,by omega,by omega,fun u' hu'=>⟨trivial,fun⟨b,_⟩ hb2=>?_⟩⟩⟩
 .have h4:=dt h4
  rw[Jaw (by omega)];refine⟨⟨⟨rfl,rfl⟩,by omega,fun i i1 i2=>?_⟩,by unfold ixM;omega⟩
  by_cases e:i=j
  .subst e;exact⟨v,hv,by rw[<-hlt2];exact h5⟩
  .exact hy i i1 (by omega)
 .have r:=M fun⟨v',e1,e2⟩=>by
   rw[hv]at e1;cases e1
   dsimp only at hlt2 h5
   rw[hlt2,e2]at h5;cases h5
  have d:=G hu' hb2;exact⟨fun q=>⟨trivial,fun w hw=>na r d q hw⟩,fun q=>⟨sz j,fun n hn=>nb r d q hn⟩⟩
 .have r:=M fun q=>by have:=Jct q;have:=df h4;omega
  have d:=G hu' hb2
  exact⟨fun q=>⟨trivial,fun w hw=>na r d q hw⟩,fun q=>⟨sz j,fun n hn=>nb r d q hn⟩⟩)
end V
end Go.Proofs.YtnhbcdnmfafbiaaGreatDoor
set_option maxRecDepth 100000
namespace Go.Proofs.YtnhbcdnmfafbiaaGreatDoor
namespace V
open Go.Proofs
inductive Lx (x:ByteArray):Int->List WdS->Int->Int->Prop
 |fin {i:Int}(h:x.size<=i):Lx x i [⟨0,x.size,0,ByteArray.empty⟩] 0 0
 |bad {i e:Int}(h:i<x.size) (he:e≠0) (hn:∀w j,¬WkW x i w j):Lx x i [] e i
 |more {i j j' e a:Int}{w:WdS}{l:List WdS}(h:i<x.size) (hw:WkW x i w j) (hs:SkR x j j') (t:Lx x j' l e a):Lx x i (w ::l) e a
theorem WkW.lt {x:ByteArray}{a j:Int}{w:WdS}(h:WkW x a w j):a<j/\j<=x.size/\0<=a:=by
 cases h with
 |sg h0 _ _ s=>have:=s.s.hi;have:=Jc4 s.l;omega
 |nu _ r=>have:=r.l;omega
 |kw _ r=>have:=r.l;omega
 |nm _ r=>have:=r.l;omega
def fWs (l:List WdS):List (List C):=l.map fun w:WdS=>fWd.f w
theorem Jd3 (a b:List WdS):fWs (a ++b)=fWs a ++fWs b:=List.map_append
structure SpI (x x':ByteArray) (i:Int) (L:List (List C)):Prop where
 e:x'=x
 l:0<=i/\i<=x.size
 n:(L.length:Int)<=i
 t:∃(j0:Int) (l0:List WdS),SkR x 0 j0/\L=fWs l0/\∀(l:List WdS) (e a:Int),Lx x i l e a->Lx x j0 (l0 ++l) e a
structure SpR (x:ByteArray) (L:Option (List (List C))) (e a:Int):Prop where
 b:400<x.size->e≠0/\a=0
 s:x.size<=400->∃j0 l,SkR x 0 j0/\Lx x j0 l e a/\(e=0->L=some (fWs l))
def fNl:Option (List (List C))->Av
 |none=>.nl
 |some l=>.c (.r false 4 l)
def rLE:Pz (List Arg):=⟨Option (List (List C)) × Int × Int,fun x=>[.pl (fNl x.1),pI x.2.1,pI x.2.2],fun l=>match l with
 |[.pl (.c (.r false 4 l)),.pl (.c (.i .i64 e)),.pl (.c (.i .i64 a))]=>some (some l,e,a)
 |[.pl .nl,.pl (.c (.i .i64 e)),.pl (.c (.i .i64 a))]=>some (none,e,a)
 |_=>none,fun b x e=>by split at e <;> cases e <;> rfl⟩
def ctLp:Cts:=ctp 37 (kA (aC aSs <|aC aI aN) fun a=>mkc rWE b0 (fun r _=>LwR a.1 a.2.1 r.1 r.2.1 r.2.2) (ReP a.1 a.2.1)) <|ctp 36 (kA (aC aSs <|aC aI aN) fun a=>mkc rI b0 (fun j _=>SkR a.1 a.2.1 j) (ReP a.1 a.2.1)) ct0
theorem JhL:Good T1 ctLp:=by
 unfold ctLp;refine Good.ad1 (Good.ad1 Jae ?_) ?_
 .rintro a h;exact JgD h
 .rintro a h;exact JeO h
def spT:Rl Av:=.cons 0 tS <| .cons 5 (tL 5) <| .cons 6 tI .nil
def spRt:Rl Rt:=.cons 5 (rX 2 (fO 4)) .nil
def spH (x:ByteArray):Hy:=⟨hPS,[],[(12,[(5,0)])],[(5,.iv spT spRt (fun q=>SpI x q.1.1 q.1.2.2.1 q.2.1) fun q=>ixM x.size q.1.2.2.1)]⟩
theorem Jfo (x:ByteArray):Tot T1 (mkc rLE b0 (fun r _=>SpR x r.1 r.2.1 r.2.2) True) 22 [pSs x]:=vR (spH x) JhL [] [false,false,false] Tryz.func22 (br (decide ((x.size:Int) >400)) (SpR x none 1 0) (ReP x 0/\∀(x_1:Int × Unit),SkR x 0 x_1.1->SpI x x x_1.1 []/\∀(a:(ByteArray × Unit × Int × Unit) × List (List C) × Unit),SpI x a.1.1 a.1.2.2.1 a.2.1->br (decide (a.1.2.2.1<↑(ByteArray.size a.1.1))) (ReP a.1.1 a.1.2.2.1/\∀(x_2:(WdS × Int × Int) × Unit),LwR a.1.1 a.1.2.2.1 x_2.1.1 x_2.1.2.1 x_2.1.2.2->br (decide (x_2.1.2.1≠0)) (SpR x none x_2.1.2.1 a.1.2.2.1) (List.length a.2.1+1<=4000000000/\ReP a.1.1 x_2.1.2.2/\∀(x_3:Int × Unit),SkR a.1.1 x_2.1.2.2 x_3.1->SpI x a.1.1 x_3.1 (a.2.1 ++(List.replicate 1 [iz IntKind.i64,iz IntKind.i64,iz IntKind.i64,se]).set 0 [I x_2.1.1.k,I x_2.1.1.a,I x_2.1.1.n,C.s x_2.1.1.s])/\ixM x.size x_3.1<ixM x.size a.1.2.2.1)) (List.length a.2.1+1<=4000000000/\pln (a.2.1 ++(List.replicate 1 [iz IntKind.i64,iz IntKind.i64,iz IntKind.i64,se]).set 0 (ovl (ovl [iz IntKind.i64,iz IntKind.i64,iz IntKind.i64,se] 0 [I 0]) 1 [I ↑(ByteArray.size a.1.1)]))/\SpR x (some (a.2.1 ++(List.replicate 1 [iz IntKind.i64,iz IntKind.i64,iz IntKind.i64,se]).set 0 (ovl (ovl [iz IntKind.i64,iz IntKind.i64,iz IntKind.i64,se] 0 [I 0]) 1 [I ↑(ByteArray.size a.1.1)]))) 0 0))) (by kernel_rfl) (by
 refine⟨fun h=>⟨fun _=>⟨by omega,rfl⟩,fun q=>by have:=dt h;omega⟩,fun h=>?_⟩;have h:=df h;refine⟨⟨by omega,by omega⟩,fun⟨j0,_⟩ hs=>⟨⟨rfl,⟨hs.l.1,hs.l.2⟩,hs.l.1,j0,[],hs,rfl,fun l e a t=>t⟩,fun⟨⟨x',_,i,_⟩,L,_⟩ ⟨e1,hl,hn,j0,l0,hs,e2,ht⟩=>?_⟩⟩
 dsimp only at e1 hl hn e2 ht ⊢
 subst e1;refine⟨fun E=>⟨⟨hl,by omega⟩,fun⟨⟨w,e,j⟩,_⟩ B=>⟨fun h2=>?_,fun h2=>?_⟩⟩,fun E=>⟨by omega,?_⟩⟩
 .dsimp only at B h2 ⊢
  exact⟨fun q=>by omega,fun _=>⟨j0,_,hs,ht _ _ _ (.bad (dt E) (dt h2) (B.z (dt h2))),fun q=>absurd q (dt h2)⟩⟩
 .dsimp only at B h2 ⊢
  have B:=B.y (Decidable.not_not.1 (df h2));have lt:=B.lt;have E:=dt E;refine⟨by omega,⟨by omega,by omega⟩,fun⟨j',_⟩ hs'=>?_⟩;have q:=hs'.l
  dsimp only at q hs' ⊢
  refine⟨⟨rfl,by omega,by rw[List.length_append];show((L.length+1:Nat):Int)<=j';omega,j0,l0 ++[w],hs,?_,fun l e a t=>?_⟩,by unfold ixM;omega⟩
  .rw[e2,Jd3];rfl
  .rw[List.append_assoc];exact ht _ _ _ (.more E B hs' t)
 .have eL:L ++(List.replicate 1 [iz IntKind.i64,iz IntKind.i64,iz IntKind.i64,se]).set 0 (ovl (ovl [iz IntKind.i64,iz IntKind.i64,iz IntKind.i64,se] 0 [I 0]) 1 [I ↑(ByteArray.size x')])=fWs (l0 ++[⟨0,x'.size,0,ByteArray.empty⟩]):=by
   rw[e2,Jd3];rfl
  rw[eL];refine⟨List.all_eq_true.2 fun e he=>?_,fun q=>by omega,fun _=>⟨j0,_,hs,ht _ _ _ (.fin (by have:=df E;omega)),fun _=>rfl⟩⟩;obtain⟨y,_,rfl⟩:=List.mem_map.1 he
  rfl)
end V
end Go.Proofs.YtnhbcdnmfafbiaaGreatDoor
set_option maxRecDepth 100000
namespace Go.Proofs.YtnhbcdnmfafbiaaGreatDoor
namespace V
open Go.Proofs
structure WrS where
 (ps o:List (List C))
def fWr:Pz (List C):=⟨WrS,fun w=>[.r false 6 w.ps,.r true 1 w.o],fun l=>match l with
 |[.r false 6 ps,.r true 1 o]=>some ⟨ps,o⟩
 |_=>none,fun b x e=>by split at e <;> cases e;rfl⟩
def pWr (w:WrS):Arg:=.bp (fWr.f w)
def bWr:Pz (List (List C)):=bS fWr
def fU8:Pz (List C):=⟨Int,fun n=>[.i .u8 n],fun v=>match v with
 |[.i .u8 n]=>some n
 |_=>none,fun b x e=>by split at e <;> cases e;rfl⟩
def oC (b:List UInt8):List (List C):=b.map fun u=>[.i .u8 (u.toNat:Int)]
def dcB (o:List (List C)):List UInt8:=o.map fun e=>match e with
 |[.i .u8 n]=>UInt8.ofNat n.toNat
 |_=>0
theorem Jea (b:List UInt8):dcB (oC b)=b:=by
 unfold dcB oC;rw[List.map_map]
 conv=>rhs;rw[<-List.map_id b]
 refine List.map_congr_left fun u _=>?_;show UInt8.ofNat ((u.toNat:Int).toNat)=id u;rw[Int.toNat_natCast];simp
theorem Jdw (a b:List UInt8):oC (a ++b)=oC a ++oC b:=List.map_append
def sep (b t:List UInt8):List UInt8:=match b.getLast?,t.head? with
 |some u,some v=>if ltB u.toNat && ltB v.toNat then[32] else[]
 |_,_=>[]
def wb (b t:List UInt8):List UInt8:=if t.isEmpty then b else b ++(sep b t ++t)
theorem Jck (b:List UInt8):(oC b).length=b.length:=List.length_map ..
theorem JeC (t:ByteArray):jNw t=oC (D t):=rfl
structure WrP (w:WrS) (n:Nat):Prop where
 o:w.o=oC (dcB w.o)
 n:w.o.length+n<=100000000
structure WrR (w:WrS) (t:List UInt8) (w':WrS):Prop where
 p:w'.ps=w.ps
 o:w'.o=oC (wb (dcB w.o) t)
def hWt:Hx:=⟨fun z=>eS fU8,false,fun _=>none,false,false⟩
def ctWl:Cts:=ctp 70 (kA (aC aU8 aN) fun a=>mkc rB b0 (fun b _=>b=ltB a.1) True) ct0
theorem Jhq:Good T1 ctWl:=by
 unfold ctWl;refine Good.ad1 Jae ?_;rintro a -;exact JdH _
theorem JeM {w:WrS}{t:ByteArray}(h:WrP w (t.size+1)):Tot T1 (mkc r0 bWr (fun _ w'=>WrR w (D t) w') True) 89 [pWr w,pSs t]:=vN (⟨hWt,[],[],[]⟩) Jhq Tryz.func89 (br (decide (t={data:=#[]})) (WrR w (D t) w) (br (decide (↑w.o.length >(0:Int))) ((0:Int)<=0/\0<t.size/\∀(u:UInt8),t[0]? =some u->True/\∀(x:Bool × Unit),x.1=ltB ↑u.toNat->br x.1 (0<=wr (↑w.o.length-1)/\(wr (↑w.o.length-1)).toNat<w.o.length/\(∃(y:Int),w.o[(wr (↑w.o.length-1)).toNat]? =some (fU8.f y))/\∀(x:Int),w.o[(wr (↑w.o.length-1)).toNat]? =some (fU8.f x)->True/\∀(x_1:Bool × Unit),x_1.1=ltB x->br x_1.1 (w.o.length+1<=4000000000/\(w.o ++(List.replicate 1 [iz IntKind.u8]).set 0 [.i .u8 32]).length+(jNw t).length<=4000000000/\WrR w (D t) {ps:=w.ps,o:=w.o ++(List.replicate 1 [iz IntKind.u8]).set 0 [.i .u8 32] ++jNw t}) (w.o.length+(jNw t).length<=4000000000/\WrR w (D t) {ps:=w.ps,o:=w.o ++jNw t})) (w.o.length+(jNw t).length<=4000000000/\WrR w (D t) {ps:=w.ps,o:=w.o ++jNw t})) (false=false/\w.o.length+(jNw t).length<=4000000000/\WrR w (D t) {ps:=w.ps,o:=w.o ++jNw t}))) (by kernel_rfl) (by
 obtain⟨E,hn⟩:=h
 obtain⟨b,J⟩:∃b,dcB w.o=b:=⟨_,rfl⟩
 rw[J]at E;have bl:(jNw t).length=t.size:=by rw[JeC,Jck,jJZ]
 have lw:w.o.length=b.length:=by rw[E,Jck]
 have V:(decide (t={data:=#[]})=true)->WrR w (D t) w:=fun h=>⟨rfl,by rw[J,dt h];exact E⟩
 refine⟨V,fun h0=>?_⟩;have P:D t≠[]:=fun e=>df h0 (by cases t with|mk d=>unfold D at e;simp only at e;rw[Array.toList_eq_nil_iff.1 e]);have te:(D t).isEmpty=false:=by cases h :D t with|nil=>exact absurd h P|cons=>rfl
 have tz:0<t.size:=by rw[<-jJZ];exact List.length_pos_iff.2 P
 have R:∀s,sep b (D t)=s->WrR w (D t) ⟨w.ps,w.o ++(oC s ++jNw t)⟩:=fun s hs=>⟨rfl,by
  unfold wb
  rw[te,J,hs,JeC,E,<-Jdw,<-Jdw];rfl⟩
 have G:sep b (D t)=[]->WrR w (D t) ⟨w.ps,w.o ++jNw t⟩:=fun h=>R [] h;refine⟨fun h1=>⟨Int.le_refl _,tz,fun u hu=>⟨trivial,fun⟨l,_⟩ hl=>?_⟩⟩,fun h1=>⟨rfl,by omega,G ?_⟩⟩
 .have h1:=dt h1
  have O:(D t).head? =some u:=by rw[JaU]at hu;rw[List.head?_eq_getElem?];exact hu
  dsimp only at hl ⊢
  subst hl;refine⟨fun h2=>?_,fun h2=>⟨by omega,G ?_⟩⟩
  .have ew:wr ((w.o.length:Int)-1)=w.o.length-1:=by unfold wr;rw[IntKind.wrap_i64];omega
   have hi:b.length-1<b.length:=by omega
   have M:w.o[((w.o.length:Int)-1).toNat]? =some (fU8.f (b[b.length-1].toNat:Int)):=by
    rw[show((w.o.length:Int)-1).toNat=b.length-1 by omega,E];unfold oC;rw[List.getElem?_map,List.getElem?_eq_getElem hi];rfl
   have Z:b.getLast? =some b[b.length-1]:=by rw[List.getLast?_eq_getElem?,List.getElem?_eq_getElem hi]
   rw[ew];refine⟨by omega,by omega,⟨_,M⟩,fun n hn2=>⟨trivial,fun⟨l2,_⟩ hl2=>?_⟩⟩;rw[M]at hn2
   have Y:(b[b.length-1].toNat:Int)=n:=by
    have:=Option.some.inj hn2;simp only[fU8,List.cons.injEq,C.i.injEq,true_and,and_true]at this;exact this
   dsimp only at hl2 ⊢
   subst hl2;have B:sep b (D t)=if ltB n && ltB u.toNat then[32] else[]:=by unfold sep;rw[Z,O,<-Y]
   rw[h2,Bool.and_true]at B;refine⟨fun h3=>⟨by omega,by rw[List.length_append,bl];show w.o.length+1+t.size<=_;omega,?_⟩,fun h3=>⟨by omega,G ?_⟩⟩
   .rw[h3]at B
    have:=R [32] B;rw[<-List.append_assoc]at this;exact this
   .rw[h3]at B;exact B
  .unfold sep
   rw[O]
   cases b.getLast? with
   |none=>rfl
   |some v=>simp only;rw[h2,Bool.and_false];rfl
 .have h1:=df h1
  have:b=[]:=List.length_eq_zero_iff.1 (by omega)
  rw[this];rfl)
end V
end Go.Proofs.YtnhbcdnmfafbiaaGreatDoor
