import Derived.Test.YtnhbcdnmfafbiaaGreatDoorM17
set_option linter.unusedVariables false
set_option linter.unusedSimpArgs false
set_option maxHeartbeats 20000000
set_option maxRecDepth 100000
namespace Go.Proofs.YtnhbcdnmfafbiaaGreatDoor
namespace V
open Go.Proofs
structure Va where
 (b:Bool)
 (n:Int)
def fV:Pz (List C):=⟨Va,fun v=>[.b v.b,I v.n],fun l=>match l with
 |[.b b,.i .i64 n]=>some ⟨b,n⟩
 |_=>none,fun b x e=>by split at e <;> cases e;rfl⟩
def pV (v:Va):Arg:=.pl (.ag (fV.f v))
structure Bk where
 (u:Bool)
 (f:Int)
 (l:List (List C))
 (h:Int)
 (r:Bool)
def fB:Pz (List C):=⟨Bk,fun b=>[.b b.u,I b.f,.r true 2 b.l,I b.h,.b b.r],fun l=>match l with
 |[.b u,.i .i64 f,.r true 2 l,.i .i64 h,.b r]=>some ⟨u,f,l,h,r⟩
 |_=>none,fun b x e=>by split at e <;> cases e;rfl⟩
structure vIn (v:Va):Prop where
 n:inI v.n
structure jNF (b:Bk):Prop where
 v:Rw fV vIn b.l
 n:b.l.length<=4000000000
structure Hp where
 (ha us gc:Int)
 (bl fr:List (List C))
def fH:Pz (List C):=⟨Hp,fun h=>[I h.ha,I h.us,I h.gc,.r true 5 h.bl,.r true 1 h.fr],fun l=>match l with
 |[.i .i64 ha,.i .i64 us,.i .i64 gc,.r true 5 bl,.r true 1 fr]=>some ⟨ha,us,gc,bl,fr⟩
 |_=>none,fun b x e=>by split at e <;> cases e;rfl⟩
def bH:Pz (List (List C)):=bS fH
def pH (h:Hp):Arg:=.bp (fH.f h)
def qH (h:Hp):Arg:=.br (fH.f h)
def jKN (l:List C):Bool:=match l with
 | .b true ::_=>true
 |_=>false
def jKk (l:List C):Bool:=match l with
 |[_,_,_,_,.b false]=>true
 |_=>false
structure jJJ (h:Hp) (n s:Nat):Prop where
 b:Rw fB jNF h.bl
 f:Rw fI (fun i:Int=>0<=i/\i<h.bl.length) h.fr
 n:h.bl.length<=n
 c:h.fr.length+h.bl.countP jKN+s<=h.bl.length
def hR:Hx:=⟨fun k=>cond (Nat.beq k 3005) (eS fB) (cond (Nat.beq k 26005) (eS fB) (cond (Nat.beq k 2002) (eS fV) (cond (Nat.beq k 1002) (eS fV) (cond (Nat.beq k 5) (eS fL) (cond (Nat.beq k 4) (eS fCF) eI))))),true,fun _=>none,false,false⟩
structure jKM (n:Int) (v:Va):Prop where
 e:v=⟨false,n⟩
theorem jWQ (n:Int):Tot T (mkc (rS fV) b0 (fun v _=>jKM n v) True) 152 [pI n]:=vF (⟨hR,[],[],[]⟩) jJV Tryz.func152 (jKM n {b:=false,n:=n}) (by kernel_rfl) ⟨rfl⟩
theorem jUU (b:Bool):Tot T (mkc rI b0 (fun n _=>inI n) True) 193 [pB b]:=vF (⟨hR,[],[],[]⟩) jJV Tryz.func193 (br b (inI 1) (inI 0)) (by kernel_rfl) ⟨fun _=>⟨by omega,by omega⟩,fun _=>⟨by omega,by omega⟩⟩
theorem jUA (n:Int):Tot T (mkc rI b0 (fun n _=>inI n) True) 121 [pI n]:=vF (⟨hR,[],[],[]⟩) jJV Tryz.func121 (¬(1:Int)<0/\¬(1:Int)<0/\inI ((wr (n*2 ^ 1)).fdiv (2 ^ 1))) (by kernel_rfl) (by
 refine⟨by omega,by omega,?_⟩;show inI ((wr (n*2 ^ 1)).fdiv 2);rw[Int.fdiv_eq_ediv_of_nonneg _ (by omega)];unfold wr;rw[IntKind.wrap_i64]
 constructor <;> omega)
structure jLz (h:Hp) (v:Va) (t:Bool):Prop where
 y:t=true->v.b=true/\0<=v.n/\v.n<h.bl.length
 z:t=false->¬(v.b=true/\0<=v.n/\v.n<h.bl.length)
theorem jYm (h:Hp) (v:Va):Tot T (mkc rB b0 (fun t _=>jLz h v t) True) 199 [qH h,pV v]:=vF (⟨hR,[],[],[]⟩) jJV Tryz.func199 (br v.b (v.b=true/\v.b=true/\v.b=true/\br (decide (v.n>=0)) (decide (v.n>=0)=true/\decide (v.n>=0)=true/\decide (v.n>=0)=true/\decide (v.n>=0)=true/\decide (v.n>=0)=true/\decide (v.n>=0)=true/\decide (v.n>=0)=true/\decide (v.n>=0)=true/\jLz h v (decide (v.n<↑h.bl.length))) (decide (v.n>=0)=false/\decide (v.n>=0)=false/\decide (v.n>=0)=false/\decide (v.n>=0)=false/\decide (v.n>=0)=false/\decide (v.n>=0)=false/\decide (v.n>=0)=false/\decide (v.n>=0)=false/\jLz h v false)) (v.b=false/\v.b=false/\v.b=false/\false=false/\false=false/\false=false/\false=false/\false=false/\false=false/\false=false/\false=false/\false=false/\jLz h v false)) (by kernel_rfl) (by
 refine⟨fun h1=>⟨h1,h1,h1,fun h2=>?_,fun h2=>?_⟩,fun h1=>?_⟩
 .exact⟨h2,h2,h2,h2,h2,h2,h2,h2,⟨fun h3=>⟨h1,dt h2,dt h3⟩,fun h3 h4=>df h3 h4.2.2⟩⟩
 .exact⟨h2,h2,h2,h2,h2,h2,h2,h2,⟨fun h3=>(by cases h3),fun _ h4=>df h2 h4.2.1⟩⟩
 .exact⟨h1,h1,h1,rfl,rfl,rfl,rfl,rfl,rfl,rfl,rfl,rfl,⟨fun h3=>(by cases h3),fun _ h4=>(by rw[h1]at h4;cases h4.1)⟩⟩)
def aB:Pz Arg:=⟨Bool,pB,fun x=>match x with
 | .pl (.c (.b n))=>some n
 |_=>none,fun b x e=>by split at e <;> cases e;rfl⟩
def jQL:Cts:=ctp 152 (kA (aC aI aN) fun a=>mkc (rS fV) b0 (fun v _=>jKM a.1 v) True) <|ctp 193 (kA (aC aB aN) fun _=>mkc rI b0 (fun n _=>inI n) True) <|ctp 121 (kA (aC aI aN) fun _=>mkc rI b0 (fun n _=>inI n) True) <|ctp 199 (kA (aC (aQ fH) <|aC (aG fV) aN) fun a=>mkc rB b0 (fun t _=>jLz a.1 a.2.1 t) True) ct0
theorem jNq:Good T jQL:=by
 unfold jQL;refine Good.add (Good.add (Good.add (Good.add jJV ?_) ?_) ?_) ?_
 .rintro a -;exact jYm _ _
 .rintro a -;exact jUA _
 .rintro a -;exact jUU _
 .rintro a -;exact jWQ _
theorem jYP {x y:Va}(e:fV.f x=fV.f y):x=y:=by
 obtain⟨a,b⟩:=x;obtain⟨B,b'⟩:=y;simp only[fV,I,List.cons.injEq,C.i.injEq,C.b.injEq,true_and,and_true]at e;obtain⟨rfl,rfl⟩:=e;rfl
theorem Rw.va {l:List (List C)}(h:Rw fV vIn l) {j:Nat}{x:Va}(B:l[j]? =some (fV.f x)):vIn x:=by
 obtain⟨y,E,hy⟩:=h.of B;rw[jYP E];exact hy
theorem jKY (b:Bool):vIn ⟨b,0⟩:=⟨⟨by dsimp only;omega,by dsimp only;omega⟩⟩
theorem jNv {α:Type}(p:α->Bool):∀{l:List α}{j:Nat}{a b:α},l[j]? =some a->(l.set j b).countP p+(if p a then 1 else 0)=l.countP p+(if p b then 1 else 0)
 |[],j,a,b,h=>by simp at h
 |x ::l,0,a,b,h=>by
  simp at h;subst h;simp only[List.set_cons_zero,List.countP_cons];omega
 |x ::l,j+1,a,b,h=>by
  have ih:=jNv p (l:=l) (j:=j) (a:=a) (b:=b) (by simpa using h);simp only[List.set_cons_succ,List.countP_cons];omega
theorem jOn {x y:Bk}(e:fB.f x=fB.f y):x=y:=by
 obtain⟨a,b,c,d,p⟩:=x;obtain⟨B,b',c',d',p'⟩:=y;simp only[fB,I,List.cons.injEq,C.i.injEq,C.b.injEq,C.r.injEq,true_and,and_true]at e;obtain⟨rfl,rfl,rfl,rfl,rfl⟩:=e;rfl
theorem jJJ.blk {h:Hp}{n s:Nat}(B:jJJ h n s) {j:Nat}{x:Bk}(E:h.bl[j]? =some (fB.f x)):jNF x:=by
 obtain⟨y,G,hy⟩:=B.b.of E;rw[jOn G];exact hy
theorem jNH (x:Bk):jKN (fB.f x)=x.u:=by
 obtain⟨a,b,c,d,p⟩:=x;cases a <;> rfl
theorem jSr (x:Bk):jKk (fB.f x)= !x.r:=by
 obtain⟨a,b,c,d,p⟩:=x;cases p <;> rfl
theorem jJJ.set {h:Hp}{n s:Nat}(E:jJJ h n s) {j:Nat}{x b:Bk}(J:h.bl[j]? =some (fB.f x)) (G:jNF b) (M:b.u=true->x.u=true):jJJ {h with bl:=h.bl.set j (fB.f b)} n s:=by
 have B:=jNv jKN (b:=fB.f b) J;rw[jNH,jNH]at B;refine⟨fun q hq=>?_,by simpa using E.f,by simpa using E.n,?_⟩
 .rcases List.mem_or_eq_of_mem_set hq with q'|q'
  .exact E.b q q'
  .exact⟨b,q',G⟩
 .have:=E.c
  show h.fr.length+(h.bl.set j (fB.f b)).countP jKN+s<=(h.bl.set j (fB.f b)).length;rw[List.length_set];cases hb' :b.u
  .rw[hb']at B;simp at B;omega
  .rw[hb',M hb']at B;simp at B;omega
structure jKE (h:Hp) (v:Va) (n:Int):Prop where
 y:(n= -1/\¬(v.b=true/\0<=v.n/\v.n<h.bl.length))\/(v.b=true/\0<=v.n/\v.n<h.bl.length)/\∃b:Bk,h.bl[v.n.toNat]? =some (fB.f b)/\n=b.l.length
theorem jVj {h:Hp}{n s:Nat}(B:jJJ h n s) (v:Va):Tot T (mkc rI b0 (fun k _=>jKE h v k) True) 196 [qH h,pV v]:=vF (⟨hR,[],[],[]⟩) jNq Tryz.func196 (True/\∀(x:Bool × Unit),jLz h v x.1->br (!x.1) (jKE h v ((-1))) (0<=v.n/\v.n.toNat<h.bl.length/\(∃(y:Bk),h.bl[v.n.toNat]? =some (fB.f y))/\∀(x:Bk),h.bl[v.n.toNat]? =some (fB.f x)->(∃(y:Bk),h.bl[v.n.toNat]? =some (fB.f y))/\∀(x:Bk),h.bl[v.n.toNat]? =some (fB.f x)->jKE h v ↑x.l.length)) (by kernel_rfl) (by
 refine⟨trivial,fun⟨t,_⟩ ht=>⟨fun h1=>?_,fun h1=>?_⟩⟩ <;> dsimp only at ht h1 <;> simp at h1 <;> subst h1
 .exact⟨.inl ⟨rfl,ht.z rfl⟩⟩
 .obtain⟨q1,q2,q3⟩:=ht.y rfl
  exact⟨q2,by omega,B.b.at (by omega),fun _ _=>⟨B.b.at (by omega),fun x hx=>⟨.inr ⟨⟨q1,q2,q3⟩,x,hx,rfl⟩⟩⟩⟩)
theorem jYy {h:Hp}{n s:Nat}(B:jJJ h n s) (v:Va):Tot T (mkc rI b0 (fun k _=>True) True) 159 [qH h,pV v]:=vF (⟨hR,[],[],[]⟩) jNq Tryz.func159 (True/\∀(x:Bool × Unit),jLz h v x.1->br (!x.1) True (0<=v.n/\v.n.toNat<h.bl.length/\(∃(y:Bk),h.bl[v.n.toNat]? =some (fB.f y))/\∀(x:Bk),h.bl[v.n.toNat]? =some (fB.f x)->True)) (by kernel_rfl) (by
 refine⟨trivial,fun⟨t,_⟩ ht=>⟨fun h1=>trivial,fun h1=>?_⟩⟩
 dsimp only at ht h1;simp at h1;subst h1
 obtain⟨q1,q2,q3⟩:=ht.y rfl
 exact⟨q2,by omega,B.b.at (by omega),fun _ _=>trivial⟩)
structure HpR (k:Nat) (h h':Hp):Prop where
 r:∀n s,jJJ h n s->jJJ h' (n+k) s
 gc:True
theorem jYi {h:Hp}{n s:Nat}(B:jJJ h n s) (v:Va) (E:Int):Tot T (mkc r0 bH (fun _ h'=>HpR 0 h h') True) 192 [pH h,pV v,pI E]:=vN (⟨hR,[],[],[]⟩) jNq Tryz.func192 (True/\∀(x:Bool × Unit),jLz h v x.1->br x.1 (0<=v.n/\v.n.toNat<h.bl.length/\(∃(y:Bk),h.bl[v.n.toNat]? =some (fB.f y))/\∀(x:Bk),h.bl[v.n.toNat]? =some (fB.f x)->0<=v.n/\v.n.toNat<h.bl.length/\(∃(y:Bk),h.bl[v.n.toNat]? =some (fB.f y))/\∀(x_1:Bk),h.bl[v.n.toNat]? =some (fB.f x_1)->HpR 0 h {ha:=h.ha,us:=h.us,gc:=h.gc,bl:=h.bl.set v.n.toNat (ovl (fB.f x_1) 3 [I (wr (x.h+E))]),fr:=h.fr}) (HpR 0 h h)) (by kernel_rfl) (by
 have z:HpR 0 h h:=⟨fun n s h=>h,trivial⟩
 refine⟨trivial,fun⟨t,_⟩ ht=>⟨fun h1=>?_,fun h1=>z⟩⟩
 dsimp only at ht h1;subst h1
 obtain⟨q1,q2,q3⟩:=ht.y rfl
 exact⟨q2,by omega,B.b.at (by omega),fun x0 _=>⟨q2,by omega,B.b.at (by omega),fun x hx=>⟨fun n s B=>B.set (b:={x with h:=wr (x0.h+E)}) hx ⟨(B.blk hx).v,(B.blk hx).n⟩ id,trivial⟩⟩⟩)
theorem jV7 (o a b:Int):Tot T (mkc rI b0 (fun _ _=>True) True) 153 [pI o,pI a,pI b]:=vF (⟨hR,[],[],[]⟩) jNq Tryz.func153 (br (decide (o=7)) True (br (decide (o=8)) True (br (decide (o=9)) True (br (decide (o=15)) True (br (decide (o=16)) (True/\∀(x:Int × Unit),inI x.1->True) (br (decide (o=12)) (True/\∀(x:Int × Unit),inI x.1->True) (br (decide (o=13)) (True/\∀(x:Int × Unit),inI x.1->True) (br (decide (o=14)) (True/\∀(x:Int × Unit),inI x.1->True) (br (decide (b=0)) True (br (decide (o=10)) (b≠0/\True) (b≠0/\True))))))))))) (by kernel_rfl) (by
 repeat' first|trivial|(intro h;first|exact⟨df ‹_›,trivial⟩|skip)|refine⟨?_,?_⟩)
end V
end Go.Proofs.YtnhbcdnmfafbiaaGreatDoor
set_option maxRecDepth 100000
namespace Go.Proofs.YtnhbcdnmfafbiaaGreatDoor
namespace V
open Go.Proofs
def jQK:Cts:=ctp 196 (kA (aC (aQ fH) <|aC (aG fV) aN) fun a=>mkc rI b0 (fun k _=>jKE a.1 a.2.1 k) (∃n s,jJJ a.1 n s)) <|ctp 159 (kA (aC (aQ fH) <|aC (aG fV) aN) fun a=>mkc rI b0 (fun _ _=>True) (∃n s,jJJ a.1 n s)) <|ctp 192 (kA (aC (aP fH) <|aC (aG fV) <|aC aI aN) fun a=>mkc r0 bH (fun _ h'=>HpR 0 a.1 h') (∃n s,jJJ a.1 n s)) <|ctp 153 (kA (aC aI <|aC aI <|aC aI aN) fun _=>mkc rI b0 (fun _ _=>True) True) jQL
theorem jML:Good T jQK:=by
 unfold jQK;refine Good.add (Good.add (Good.add (Good.add jNq ?_) ?_) ?_) ?_
 .rintro a -;exact jV7 _ _ _
 .rintro a ⟨n,s,h⟩;exact jYi h _ _
 .rintro a ⟨n,s,h⟩;exact jYy h _
 .rintro a ⟨n,s,h⟩;exact jVj h _
def bk0:Bk:=⟨false,0,[],0,false⟩
theorem jKX {x:Int}(B: -1000000000000<=x) (h2:x<=1000000000000):wr x=x:=by unfold wr;rw[IntKind.wrap_i64];omega
theorem jKE.at {h:Hp}{v:Va}{k:Int}(hs:jKE h v k) {a:Int}(h0:0<=a) (B:a<k):v.b=true/\0<=v.n/\v.n.toNat<h.bl.length/\∀x:Bk,h.bl[v.n.toNat]? =some (fB.f x)->a.toNat<x.l.length:=by
 rcases hs.y with⟨q,_⟩|⟨⟨q1,q2,q3⟩,b,E,e⟩
 .omega
 .refine⟨q1,q2,by omega,fun x hx=>?_⟩
  rw[E]at hx;have:=jOn (Option.some.inj hx);subst this;omega
theorem jYn {h:Hp}{n s:Nat}(B:jJJ h n s) (v:Va) (a:Int):Tot T (mkc (rS fV) b0 (fun v _=>vIn v) True) 197 [qH h,pV v,pI a]:=vF (⟨hR,[],[],[]⟩) jML Tryz.func197 (br (decide (a<0)) (true=true/\vIn {b:=false,n:=0}) ((∃(y:Nat),∃(y_1:Nat),jJJ h y y_1)/\∀(x:Int × Unit),jKE h v x.1->br (decide (a>=x.1)) (vIn {b:=false,n:=0}) (0<=v.n/\v.n.toNat<h.bl.length/\(∃(y:Bk),h.bl[v.n.toNat]? =some (fB.f y))/\∀(x:Bk),h.bl[v.n.toNat]? =some (fB.f x)->0<=a/\(∃(y:Bk),h.bl[v.n.toNat]? =some (fB.f y))/\∀(x:Bk),h.bl[v.n.toNat]? =some (fB.f x)->a.toNat<x.l.length/\(∃(y:Bk),h.bl[v.n.toNat]? =some (fB.f y))/\∀(x:Bk),h.bl[v.n.toNat]? =some (fB.f x)->(∃(y:Va),x.l[a.toNat]? =some (fV.f y))/\∀(x_1:Va),x.l[a.toNat]? =some (fV.f x_1)->vIn x_1))) (by kernel_rfl) (by
 refine⟨fun _=>⟨rfl,jKY _⟩,fun h0=>⟨⟨_,_,B⟩,fun⟨k,_⟩ hs=>⟨fun _=>jKY _,fun h1=>?_⟩⟩⟩;have a0:0<=a:=by have:=df h0;omega
 have E:a<k:=by have:=df h1;dsimp only at this;omega
 obtain⟨q1,q2,q3,q4⟩:=hs.at a0 E;have at':=B.b.at (j:=v.n.toNat) (by omega)
 exact⟨q2,q3,at',fun _ _=>⟨a0,at',fun x hx=>⟨q4 x hx,at',fun x hx=>⟨(B.blk hx).v.at (q4 x hx),fun y hy=>(B.blk hx).v.va hy⟩⟩⟩⟩)
theorem jVx {h:Hp}{n s:Nat}(B:jJJ h n s) (v:Va) (a:Int) (t:Va) (E:vIn t):Tot T (mkc r0 bH (fun _ h'=>HpR 0 h h') True) 198 [pH h,pV v,pI a,pV t]:=vN (⟨hR,[],[],[]⟩) jML Tryz.func198 (br (decide (a>=0)) ((∃(y:Nat),∃(y_1:Nat),jJJ h y y_1)/\∀(x:Int × Unit),jKE h v x.1->br (decide (a<x.1)) (0<=v.n/\v.n.toNat<h.bl.length/\(∃(y:Bk),h.bl[v.n.toNat]? =some (fB.f y))/\∀(x:Bk),h.bl[v.n.toNat]? =some (fB.f x)->0<=a/\(∃(y:Bk),h.bl[v.n.toNat]? =some (fB.f y))/\∀(x:Bk),h.bl[v.n.toNat]? =some (fB.f x)->a.toNat<x.l.length/\(∃(y:Bk),h.bl[v.n.toNat]? =some (fB.f y))/\∀(x:Bk),h.bl[v.n.toNat]? =some (fB.f x)->(∃(y:Va),x.l[a.toNat]? =some (fV.f y))/\∀(x_1:Va),x.l[a.toNat]? =some (fV.f x_1)->HpR 0 h {ha:=h.ha,us:=h.us,gc:=h.gc,bl:=h.bl.set v.n.toNat ((fB.f x).set 2 (.r true 2 (x.l.set a.toNat (ovl (fV.f x_1) 0 [.b t.b,I t.n])))),fr:=h.fr}) (HpR 0 h h)) (false=false/\HpR 0 h h)) (by kernel_rfl) (by
 have z:HpR 0 h h:=⟨fun n s h=>h,trivial⟩
 refine⟨fun h0=>⟨⟨_,_,B⟩,fun⟨k,_⟩ hs=>⟨fun h1=>?_,fun _=>z⟩⟩,fun _=>⟨rfl,z⟩⟩;have a0:0<=a:=by have:=dt h0;omega
 have G:a<k:=by have:=dt h1;dsimp only at this;omega
 obtain⟨q1,q2,q3,q4⟩:=hs.at a0 G;have at':=B.b.at (j:=v.n.toNat) (by omega);refine⟨q2,q3,at',fun _ _=>⟨a0,at',fun x hx=>⟨q4 x hx,at',fun x hx=>⟨(B.blk hx).v.at (q4 x hx),fun y hy=>⟨fun n s B=>?_,trivial⟩⟩⟩⟩⟩;refine B.set (b:={x with l:=x.l.set a.toNat (fV.f t)}) hx ⟨fun q hq=>?_,by simpa using(B.blk hx).n⟩ id;rcases List.mem_or_eq_of_mem_set hq with q'|q'
 .exact(B.blk hx).v q q'
 .exact⟨t,q',E⟩)
def rO (z:Nat):Pz (List Arg):=⟨List (List C),fun l=>[.ow [.r true z l] true],fun l=>match l with
 |[.ow [.r true z' l] true]=>if z'=z then some l else none
 |_=>none,fun b x e=>by
  split at e
  .split at e
   .rename_i h;cases e;rw[h]
   .cases e
  .cases e⟩
def aO (z:Nat):Pz Arg:=⟨List (List C),fun l=>.ow [.r true z l] true,fun x=>match x with
 | .ow [.r true z' l] true=>if z'=z then some l else none
 |_=>none,fun b x e=>by
  split at e
  .split at e
   .rename_i h;cases e;rw[h]
   .cases e
  .cases e⟩
def oR (l:List (List C)):Arg:=.ow [.r true 1 l] true
structure RcR (h:Hp) (t:List (List C)) (h':Hp) (t':List (List C)):Prop where
 r:∀n s,jJJ h n s->jJJ h' n s
 w:Rw fI (fun _=>True) t->Rw fI (fun _=>True) t'
 l:h'.bl.length=h.bl.length
 m:h'.bl.countP jKk+t'.length=h.bl.countP jKk+t.length
theorem jWa {h:Hp}{n s:Nat}(B:jJJ h n s) (t:List (List C)) (E:t.length<=100000000) (v:Va):Tot T (mkc (rO 1) bH (fun t' h'=>RcR h t h' t') True) 222 [pH h,oR t,pV v]:=vR (⟨hR,[],[],[]⟩) jML [] [true] Tryz.func222 (True/\∀(x:Bool × Unit),jLz h v x.1->br (!x.1) ((!x.1)=true/\(!x.1)=true/\(!x.1)=true/\(!x.1)=true/\(!x.1)=true/\(!x.1)=true/\(!x.1)=true/\(!x.1)=true/\(!x.1)=true/\true=true/\RcR h t h t) ((!x.1)=false/\(!x.1)=false/\(!x.1)=false/\(!x.1)=false/\(!x.1)=false/\(!x.1)=false/\0<=v.n/\v.n.toNat<h.bl.length/\(!x.1)=false/\(!x.1)=false/\(∃(y:Bk),h.bl[v.n.toNat]? =some (fB.f y))/\∀(x_1:Bk),h.bl[v.n.toNat]? =some (fB.f x_1)->(!x.1)=false/\br x_1.r (RcR h t h t) (0<=v.n/\v.n.toNat<h.bl.length/\(∃(y:Bk),h.bl[v.n.toNat]? =some (fB.f y))/\∀(x:Bk),h.bl[v.n.toNat]? =some (fB.f x)->t.length+1<=4000000000/\RcR h t {ha:=h.ha,us:=h.us,gc:=h.gc,bl:=h.bl.set v.n.toNat (ovl (fB.f x) 4 [.b true]),fr:=h.fr} (t ++(List.replicate 1 [iz IntKind.i64]).set 0 [I v.n])))) (by kernel_rfl) (by
 have z:RcR h t h t:=⟨fun n s h=>h,fun h=>h,rfl,rfl⟩
 refine⟨trivial,fun⟨b,_⟩ hs=>⟨fun h1=>?_,fun h1=>?_⟩⟩
 .exact⟨h1,h1,h1,h1,h1,h1,h1,h1,h1,rfl,z⟩
 .dsimp only at h1 hs
  have h2:b=true:=by simpa using h1
  obtain⟨q1,q2,q3⟩:=hs.y h2;have at':=B.b.at (j:=v.n.toNat) (by omega);refine⟨h1,h1,h1,h1,h1,h1,q2,by omega,h1,h1,at',fun x hx=>⟨h1,fun _=>z,fun hr=>⟨q2,by omega,at',fun y hy=>⟨by omega,fun n s B=>?_,fun hw=>?_,by simp,?_⟩⟩⟩⟩
  .exact B.set (b:={y with r:=true}) hy ⟨(B.blk hy).v,(B.blk hy).n⟩ id
  .exact hw.app (Rw.one (S:=fI) trivial)
  .have hc:=jNv jKk (b:=fB.f {y with r:=true}) hy
   have e:x=y:=jOn (Option.some.inj (hx.symm.trans hy));subst e;rw[jSr,jSr,hr]at hc;simp at hc;show(h.bl.set v.n.toNat (fB.f {x with r:=true})).countP jKk+(t ++[[I v.n]]).length=_;rw[List.length_append,List.length_singleton]
   omega)
structure PlR (h h':Hp) (k:Int):Prop where
 r:∀n s,jJJ h n s->jJJ h' (n+1) (s+1)
 k:0<=k/\k<h'.bl.length
theorem jWx {h:Hp}{n s:Nat}(B:jJJ h n s) (hn:n<=100000000):Tot T (mkc rI bH (fun k h'=>PlR h h' k) True) 195 [pH h]:=vF (⟨hR,[],[],[]⟩) jML Tryz.func195 (br (decide (wr (↑h.fr.length-1)<0)) (h.bl.length+1<=4000000000/\PlR h {ha:=h.ha,us:=h.us,gc:=h.gc,bl:=h.bl ++(List.replicate 1 [bf,iz IntKind.i64,ro 2,iz IntKind.i64,bf]).set 0 [bf,iz IntKind.i64,ro 2,iz IntKind.i64,bf],fr:=h.fr} (wr (↑(h.bl ++(List.replicate 1 [bf,iz IntKind.i64,ro 2,iz IntKind.i64,bf]).set 0 [bf,iz IntKind.i64,ro 2,iz IntKind.i64,bf]).length-1))) (0<=wr (↑h.fr.length-1)/\(wr (↑h.fr.length-1)).toNat<h.fr.length/\(∃(y:Int),h.fr[(wr (↑h.fr.length-1)).toNat]? =some [I y])/\∀(x:Int),h.fr[(wr (↑h.fr.length-1)).toNat]? =some [I x]->0<=wr (↑h.fr.length-1)/\(0<=(wr (↑h.fr.length-1)).toNat/\(wr (↑h.fr.length-1)).toNat<=h.fr.length/\0<h.fr.length)/\PlR h {ha:=h.ha,us:=h.us,gc:=h.gc,bl:=h.bl,fr:=List.take (wr (↑h.fr.length-1)).toNat h.fr} x)) (by kernel_rfl) (by
 have G:=B.n;have J:=B.c;have E:wr ((h.fr.length:Int)-1)=h.fr.length-1:=jKX (by omega) (by omega);rw[E];have hl:(h.bl ++[fB.f ⟨false,0,[],0,false⟩]).length=h.bl.length+1:=by simp
 refine⟨fun h1=>⟨by omega,fun n s B=>?_,?_⟩,fun h1=>?_⟩
 .have:=B.n
  have:=B.c;refine⟨B.b.app (Rw.one (S:=fB) (x:=bk0) ⟨Rw.nil,by simp[bk0]⟩),fun q hq=>?_,by show(h.bl ++[fB.f ⟨false,0,[],0,false⟩]).length<=_;omega,?_⟩
  .obtain⟨x,e,h2⟩:=B.f q hq
   exact⟨x,e,h2.1,Int.lt_of_lt_of_le h2.2 (by show(h.bl.length:Int)<=((h.bl ++[fB.f ⟨false,0,[],0,false⟩]).length:Int);omega)⟩
  .show h.fr.length+(h.bl ++[fB.f ⟨false,0,[],0,false⟩]).countP jKN+(s+1)<=(h.bl ++[fB.f ⟨false,0,[],0,false⟩]).length
   rw[hl,List.countP_append];have:List.countP jKN [fB.f ⟨false,0,[],0,false⟩]=0:=rfl;omega
 .show 0<=wr (((h.bl ++[fB.f ⟨false,0,[],0,false⟩]).length:Int)-1)/\wr (((h.bl ++[fB.f ⟨false,0,[],0,false⟩]).length:Int)-1)<((h.bl ++[fB.f ⟨false,0,[],0,false⟩]).length:Int)
  rw[hl,jKX (by omega) (by omega)];omega
 .have h1:=df h1
  refine⟨by omega,by omega,B.f.at (by omega),fun x hx=>⟨by omega,⟨by omega,by omega,by omega⟩,fun n s B=>?_,?_⟩⟩
  .have:=B.n
   have:=B.c;refine⟨B.b,fun q hq=>B.f q (List.mem_of_mem_take hq),by dsimp only;omega,?_⟩;show(List.take _ h.fr).length+h.bl.countP jKN+(s+1)<=h.bl.length;rw[List.length_take];omega
  .exact B.f.int hx)
structure SwI (h h':Hp) (i:Int):Prop where
 q1:∀n s,jJJ h n s->jJJ h' n s
 q2:h'.bl.length=h.bl.length
 q3:Ix h.bl.length i
def swT:Rl Av:=.cons 0 (tA 0) <| .cons 2 tI .nil
def swR:Rl Rt:=.cons 0 (rX 0 fH) .nil
def swH (h:Hp):Hy:=⟨hR,[],[],[(1,.iv swT swR (fun a=>SwI h a.2.1 a.1.2.1) fun a=>ixM h.bl.length a.1.2.1)]⟩
theorem jU5 {h:Hp}{n s:Nat}(G:jJJ h n s) (hn:n<=100000000):Tot T (mkc r0 bH (fun _ h'=>HpR 0 h h') True) 224 [pH h]:=vN (swH h) jML Tryz.func224 (SwI h h 0/\∀(a:(Unit × Int × Unit) × Hp × Unit),SwI h a.2.1 a.1.2.1->br (decide (a.1.2.1<↑a.2.1.bl.length)) (0<=a.1.2.1/\Int.toNat a.1.2.1<a.2.1.bl.length/\(∃(y:Bk),a.2.1.bl[Int.toNat a.1.2.1]? =some (fB.f y))/\∀(x:Bk),a.2.1.bl[Int.toNat a.1.2.1]? =some (fB.f x)->br x.u (0<=a.1.2.1/\Int.toNat a.1.2.1<a.2.1.bl.length/\(∃(y:Bk),a.2.1.bl[Int.toNat a.1.2.1]? =some (fB.f y))/\∀(x:Bk),a.2.1.bl[Int.toNat a.1.2.1]? =some (fB.f x)->br (!x.r) (0<=a.1.2.1/\Int.toNat a.1.2.1<a.2.1.bl.length/\(∃(y:Bk),a.2.1.bl[Int.toNat a.1.2.1]? =some (fB.f y))/\∀(x:Bk),a.2.1.bl[Int.toNat a.1.2.1]? =some (fB.f x)->(∃(y:Bk),a.2.1.bl[Int.toNat a.1.2.1]? =some (fB.f y))/\∀(x:Bk),a.2.1.bl[Int.toNat a.1.2.1]? =some (fB.f x)->0<=a.1.2.1/\Int.toNat a.1.2.1<a.2.1.bl.length/\(∃(y:Bk),a.2.1.bl[Int.toNat a.1.2.1]? =some (fB.f y))/\∀(x_1:Bk),a.2.1.bl[Int.toNat a.1.2.1]? =some (fB.f x_1)->a.2.1.fr.length+1<=4000000000/\0<=a.1.2.1/\Int.toNat a.1.2.1<(a.2.1.bl.set (Int.toNat a.1.2.1) (ovl (fB.f x_1) 0 [bf,iz IntKind.i64,ro 2,iz IntKind.i64,bf])).length/\(∃(y:Bk),(a.2.1.bl.set (Int.toNat a.1.2.1) (ovl (fB.f x_1) 0 [bf,iz IntKind.i64,ro 2,iz IntKind.i64,bf]))[Int.toNat a.1.2.1]? =some (fB.f y))/\∀(x_2:Bk),(a.2.1.bl.set (Int.toNat a.1.2.1) (ovl (fB.f x_1) 0 [bf,iz IntKind.i64,ro 2,iz IntKind.i64,bf]))[Int.toNat a.1.2.1]? =some (fB.f x_2)->SwI h {ha:=a.2.1.ha,us:=wr (a.2.1.us-wr (↑x.l.length+1)),gc:=a.2.1.gc,bl:=(a.2.1.bl.set (Int.toNat a.1.2.1) (ovl (fB.f x_1) 0 [bf,iz IntKind.i64,ro 2,iz IntKind.i64,bf])).set (Int.toNat a.1.2.1) (ovl (fB.f x_2) 4 [.b false]),fr:=a.2.1.fr ++(List.replicate 1 [iz IntKind.i64]).set 0 [I a.1.2.1]} (wr (a.1.2.1+1))/\ixM h.bl.length (wr (a.1.2.1+1))<ixM h.bl.length a.1.2.1) (0<=a.1.2.1/\Int.toNat a.1.2.1<a.2.1.bl.length/\(∃(y:Bk),a.2.1.bl[Int.toNat a.1.2.1]? =some (fB.f y))/\∀(x:Bk),a.2.1.bl[Int.toNat a.1.2.1]? =some (fB.f x)->SwI h {ha:=a.2.1.ha,us:=a.2.1.us,gc:=a.2.1.gc,bl:=a.2.1.bl.set (Int.toNat a.1.2.1) (ovl (fB.f x) 4 [.b false]),fr:=a.2.1.fr} (wr (a.1.2.1+1))/\ixM h.bl.length (wr (a.1.2.1+1))<ixM h.bl.length a.1.2.1)) (false=false/\0<=a.1.2.1/\Int.toNat a.1.2.1<a.2.1.bl.length/\(∃(y:Bk),a.2.1.bl[Int.toNat a.1.2.1]? =some (fB.f y))/\∀(x:Bk),a.2.1.bl[Int.toNat a.1.2.1]? =some (fB.f x)->SwI h {ha:=a.2.1.ha,us:=a.2.1.us,gc:=a.2.1.gc,bl:=a.2.1.bl.set (Int.toNat a.1.2.1) (ovl (fB.f x) 4 [.b false]),fr:=a.2.1.fr} (wr (a.1.2.1+1))/\ixM h.bl.length (wr (a.1.2.1+1))<ixM h.bl.length a.1.2.1)) (HpR 0 h a.2.1)) (by kernel_rfl) (by
 have P:=G.n;refine⟨⟨fun n s h=>h,rfl,by omega,by omega⟩,fun⟨⟨_,i,_⟩,h',_⟩ ⟨q1,q2,q3⟩=>?_⟩
 dsimp only at q1 q2 q3 ⊢
 refine⟨fun hb=>?_,fun _=>⟨q1,trivial⟩⟩;have O:=dt hb;have lo:=q3.lo;have nx:=q3.nx (by omega) (decide_eq_true (by omega));have E:=q1 n s G;have at':=E.b.at (j:=i.toNat) (by omega);have B:i.toNat<h'.bl.length:=by omega
 have st:∀x:Bk,h'.bl[i.toNat]? =some (fB.f x)->SwI h {h' with bl:=h'.bl.set i.toNat (fB.f {x with r:=false})} (wr (i+1))/\ixM h.bl.length (wr (i+1))<ixM h.bl.length i:=fun x hx=>⟨⟨fun n s hn=>(q1 n s hn).set (b:={x with r:=false}) hx ⟨((q1 n s hn).blk hx).v,((q1 n s hn).blk hx).n⟩ id,by simpa using q2,nx.1⟩,nx.2⟩
 refine⟨lo,B,at',fun x hx=>⟨fun hu=>⟨lo,B,at',fun x' hx'=>⟨fun hr=>⟨lo,B,at',fun x1 h1=>⟨at',fun x2 h2=>⟨lo,B,at',fun x3 h3=>?_⟩⟩⟩,fun _=>⟨lo,B,at',fun x hx=>st x hx⟩⟩⟩,fun _=>⟨rfl,lo,B,at',fun x hx=>st x hx⟩⟩⟩;have Y:=E.c;have V:=E.n;have e0:(h'.bl.set i.toNat (fB.f bk0))[i.toNat]? =some (fB.f bk0):=by rw[List.getElem?_set_self B]
 refine⟨by omega,lo,by rw[List.length_set];omega,⟨bk0,e0⟩,fun y hy=>⟨⟨fun n s hn=>?_,?_,nx.1⟩,nx.2⟩⟩
 .have hy:some (fB.f bk0)=some (fB.f y):=e0.symm.trans hy
  have hy:=jOn (Option.some.inj hy);subst hy;have k:=q1 n s hn;have J:=jNv jKN (b:=fB.f bk0) hx;rw[jNH,jNH,hu]at J;have Z:=k.c;have M:=k.set (b:=bk0) hx ⟨Rw.nil,by simp[bk0]⟩ (fun h=>by cases h);refine⟨?_,?_,?_,?_⟩
  .show Rw fB jNF ((h'.bl.set i.toNat (fB.f bk0)).set i.toNat (fB.f bk0))
   rw[List.set_set];exact M.b
  .show Rw fI (fun j:Int=>0<=j/\j<((h'.bl.set i.toNat (fB.f bk0)).set i.toNat (fB.f bk0)).length) (h'.fr ++[[I i]])
   rw[List.length_set,List.length_set];exact k.f.app (Rw.one (S:=fI) ⟨lo,by omega⟩)
  .show((h'.bl.set i.toNat (fB.f bk0)).set i.toNat (fB.f bk0)).length<=n
   rw[List.length_set,List.length_set];exact k.n
  .show(h'.fr ++[[I i]]).length+((h'.bl.set i.toNat (fB.f bk0)).set i.toNat (fB.f bk0)).countP jKN+s<=((h'.bl.set i.toNat (fB.f bk0)).set i.toNat (fB.f bk0)).length
   rw[List.set_set,List.length_set,List.length_append,List.length_singleton];simp[bk0]at J;show h'.fr.length+1+(h'.bl.set i.toNat (fB.f ⟨false,0,[],0,false⟩)).countP jKN+s<=_;omega
 .show((h'.bl.set i.toNat (fB.f bk0)).set i.toNat _).length=_
  rw[List.length_set,List.length_set];exact q2)
def jQJ:Cts:=ctp 197 (kA (aC (aQ fH) <|aC (aG fV) <|aC aI aN) fun a=>mkc (rS fV) b0 (fun v _=>vIn v) (∃n s,jJJ a.1 n s)) <|ctp 198 (kA (aC (aP fH) <|aC (aG fV) <|aC aI <|aC (aG fV) aN) fun a=>mkc r0 bH (fun _ h'=>HpR 0 a.1 h') ((∃n s,jJJ a.1 n s)/\vIn a.2.2.2.1)) <|ctp 222 (kA (aC (aP fH) <|aC (aO 1) <|aC (aG fV) aN) fun a=>mkc (rO 1) bH (fun t' h'=>RcR a.1 a.2.1 h' t') ((∃n s,jJJ a.1 n s)/\a.2.1.length<=100000000)) <|ctp 195 (kA (aC (aP fH) aN) fun a=>mkc rI bH (fun k h'=>PlR a.1 h' k) (∃n s,jJJ a.1 n s/\n<=100000000)) <|ctp 224 (kA (aC (aP fH) aN) fun a=>mkc r0 bH (fun _ h'=>HpR 0 a.1 h') (∃n s,jJJ a.1 n s/\n<=100000000)) jQK
theorem jTY:Good T jQJ:=by
 unfold jQJ;refine Good.add (Good.add (Good.add (Good.add (Good.add jML ?_) ?_) ?_) ?_) ?_
 .rintro a ⟨n,s,h,hn⟩;exact jU5 h hn
 .rintro a ⟨n,s,h,hn⟩;exact jWx h hn
 .rintro a ⟨⟨n,s,h⟩,hn⟩;exact jWa h _ hn _
 .rintro a ⟨⟨n,s,h⟩,hv⟩;exact jVx h _ _ _ hv
 .rintro a ⟨n,s,h⟩;exact jYn h _ _
theorem RcR.refl (h:Hp) (t:List (List C)):RcR h t h t:=⟨fun _ _ h=>h,fun h=>h,rfl,rfl⟩
theorem RcR.trans {h B h2:Hp}{t E t2:List (List C)}(a:RcR h t B E) (b:RcR B E h2 t2):RcR h t h2 t2:=⟨fun n s h=>b.r n s (a.r n s h),fun h=>b.w (a.w h),b.l.trans a.l,b.m.trans a.m⟩
structure RfI (h:Hp) (t:List (List C)) (h':Hp) (t':List (List C)) (i:Int):Prop where
 q1:RcR h t h' t'
 q2:Ix 4000000000 i
def rfT:Rl Av:=.cons 0 (tA 0) <| .cons 1 (tL 1) <| .cons 7 (tA 7) <| .cons 8 tI .nil
def rfR:Rl Rt:=.cons 0 (rX 0 fH) <| .cons 1 (rX 2 (fO 1)) <| .cons 7 (rX 1 fV) .nil
def rfH (h:Hp) (t:List (List C)):Hy:=⟨hR,[],[],[(3,.iv rfT rfR (fun a=>RfI h t a.2.1 a.2.2.1 a.1.2.2.2.1) fun a=>ixM 4000000000 a.1.2.2.2.1)]⟩
theorem jWb {h:Hp}{n s:Nat}(G:jJJ h n s) (t:List (List C)) (O:h.bl.countP jKk+t.length<=100000000) (k:Int):Tot T (mkc (rO 1) bH (fun t' h'=>RcR h t h' t') True) 223 [pH h,oR t,pI k]:=vR (rfH h t) jTY [] [true] Tryz.func223 (RfI h t h t 0/\∀(a:(Unit × Unit × Unit × Int × Unit) × Hp × List (List C) × Va × Unit),RfI h t a.2.1 a.2.2.1 a.1.2.2.2.1->(∃(y:Nat),∃(y_1:Nat),jJJ a.2.1 y y_1)/\∀(x:Int × Unit),jKE a.2.1 a.2.2.2.1 x.1->br (decide (a.1.2.2.2.1<x.1)) ((∃(y:Nat),∃(y_1:Nat),jJJ a.2.1 y y_1)/\∀(x:Va × Unit),vIn x.1->((∃(y:Nat),∃(y_1:Nat),jJJ a.2.1 y y_1)/\List.length a.2.2.1<=100000000)/\∀(x:List (List C) × Hp),RcR a.2.1 a.2.2.1 x.2 x.1->RfI h t x.2 x.1 (wr (a.1.2.2.2.1+1))/\ixM 4000000000 (wr (a.1.2.2.2.1+1))<ixM 4000000000 a.1.2.2.2.1) (RcR h t a.2.1 a.2.2.1)) (by kernel_rfl) (by
 refine⟨⟨RcR.refl h t,by omega,by omega⟩,fun⟨⟨_,_,_,i,_⟩,h',t',v,_⟩ ⟨q1,q2⟩=>?_⟩
 dsimp only at q1 q2 ⊢
 have B:=q1.r n s G;have hm:=q1.m;refine⟨⟨_,_,B⟩,fun⟨k,_⟩ hs=>⟨fun hb=>?_,fun _=>q1⟩⟩;have E:=dt hb;have lo:=q2.lo;have hi:=q2.hi
 have hk:k<=4000000000:=by
  rcases hs.y with⟨q,_⟩|⟨_,b,J,M⟩
  .dsimp only at q;omega
  .have:=(B.blk J).n;dsimp only at M;omega
 dsimp only at E
 have nx:=q2.nx (by omega) (decide_eq_true (by omega))
 exact⟨⟨_,_,B⟩,fun _ _=>⟨⟨⟨_,_,B⟩,by omega⟩,fun⟨t2,h2⟩ hr=>⟨⟨q1.trans hr,nx.1⟩,nx.2⟩⟩⟩)
def jQI:Cts:=ctp 223 (kA (aC (aP fH) <|aC (aO 1) <|aC aI aN) fun a=>mkc (rO 1) bH (fun t' h'=>RcR a.1 a.2.1 h' t') ((∃n s,jJJ a.1 n s)/\a.1.bl.countP jKk+a.2.1.length<=100000000)) jQJ
theorem jTX:Good T jQI:=by
 unfold jQI;refine Good.add jTY ?_;rintro a ⟨⟨n,s,h⟩,hn⟩;exact jWb h _ hn _
structure jNE (h:Hp) (h':Hp) (t':List (List C)) (i:Int):Prop where
 q1:∃g,RcR {h with gc:=g} [] h' t'
 q2:Ix h.bl.length i
structure jOI (h:Hp) (h':Hp) (t':List (List C)):Prop where
 q1:∀n s,jJJ h n s->jJJ h' n s
 q2:h'.bl.countP jKk+t'.length<=h.bl.length
 q3:Rw fI (fun _=>True) t'
def co1T:Rl Av:=.cons 0 (tA 0) <| .cons 4 (tL 4) <| .cons 5 tI .nil
def co2T:Rl Av:=.cons 0 (tA 0) <| .cons 4 (tL 4) .nil
def co1R:Rl Rt:=.cons 0 (rX 0 fH) <| .cons 4 (rX 2 (fO 1)) .nil
def colH (h:Hp):Hy:=⟨hR,[],[],[(4,.iv co1T co1R (fun a=>jNE h a.2.1 a.2.2.1 a.1.2.2.1) fun a=>ixM h.bl.length a.1.2.2.1),(8,.iv co2T co1R (fun a=>jOI h a.2.1 a.2.2.1) fun a=>a.2.1.bl.countP jKk+a.2.2.1.length)]⟩
theorem jZk {h:Hp}{n s:Nat}(B:jJJ h n s) (hn:n<=10000000) (v:Va):Tot T (mkc r0 bH (fun _ h'=>HpR 0 h h') True) 194 [pH h,pV v]:=vN (colH h) jTX Tryz.func194 (((∃(y:Nat),∃(y_1:Nat),jJJ {ha:=h.ha,us:=h.us,gc:=wr (h.gc+1),bl:=h.bl,fr:=h.fr} y y_1)/\0<=100000000)/\∀(x:List (List C) × Hp),RcR {ha:=h.ha,us:=h.us,gc:=wr (h.gc+1),bl:=h.bl,fr:=h.fr} [] x.2 x.1->jNE h x.2 x.1 0/\∀(a:(Unit × Unit × Int × Unit) × Hp × List (List C) × Unit),jNE h a.2.1 a.2.2.1 a.1.2.2.1->br (decide (a.1.2.2.1<↑a.2.1.bl.length)) (0<=a.1.2.2.1/\Int.toNat a.1.2.2.1<a.2.1.bl.length/\(∃(y:Bk),a.2.1.bl[Int.toNat a.1.2.2.1]? =some (fB.f y))/\∀(x:Bk),a.2.1.bl[Int.toNat a.1.2.2.1]? =some (fB.f x)->br (decide (x.h >0)) (((∃(y:Nat),∃(y_1:Nat),jJJ a.2.1 y y_1)/\List.length a.2.2.1<=100000000)/\∀(x:List (List C) × Hp),RcR a.2.1 a.2.2.1 x.2 x.1->jNE h x.2 x.1 (wr (a.1.2.2.1+1))/\ixM h.bl.length (wr (a.1.2.2.1+1))<ixM h.bl.length a.1.2.2.1) (jNE h a.2.1 a.2.2.1 (wr (a.1.2.2.1+1))/\ixM h.bl.length (wr (a.1.2.2.1+1))<ixM h.bl.length a.1.2.2.1)) (jOI h a.2.1 a.2.2.1/\∀(a:(Unit × Unit × Unit) × Hp × List (List C) × Unit),jOI h a.2.1 a.2.2.1->br (decide (↑(List.length a.2.2.1) >(0:Int))) (0<=wr (↑(List.length a.2.2.1)-1)/\(wr (↑(List.length a.2.2.1)-1)).toNat<List.length a.2.2.1/\(∃(y:Int),a.2.2.1[(wr (↑(List.length a.2.2.1)-1)).toNat]? =some [I y])/\∀(x:Int),a.2.2.1[(wr (↑(List.length a.2.2.1)-1)).toNat]? =some [I x]->0<=wr (↑(List.length a.2.2.1)-1)/\(0<=(wr (↑(List.length a.2.2.1)-1)).toNat/\(wr (↑(List.length a.2.2.1)-1)).toNat<=List.length a.2.2.1/\0<List.length a.2.2.1)/\((∃(y:Nat),∃(y_1:Nat),jJJ a.2.1 y y_1)/\List.countP jKk a.2.1.bl+(List.take (wr (↑(List.length a.2.2.1)-1)).toNat a.2.2.1).length<=100000000)/\∀(x:List (List C) × Hp),RcR a.2.1 (List.take (wr (↑(List.length a.2.2.1)-1)).toNat a.2.2.1) x.2 x.1->jOI h x.2 x.1/\List.countP jKk x.2.bl+List.length x.1<List.countP jKk a.2.1.bl+List.length a.2.2.1) ((∃(y:Nat),∃(y_1:Nat),jJJ a.2.1 y y_1/\y<=100000000)/\∀(x:Unit × Hp),HpR 0 a.2.1 x.2->HpR 0 h x.2))) (by kernel_rfl) (by
 have M:=B.n;have cl:∀{l:List (List C)},l.countP jKk<=l.length:=fun {l}=>List.countP_le_length;refine⟨⟨⟨n,s,B.b,B.f,B.n,B.c⟩,by omega⟩,fun⟨t1,h1⟩ r1=>⟨⟨⟨_,r1⟩,by omega,by omega⟩,fun⟨⟨_,_,i,_⟩,h2,t2,_⟩ ⟨⟨g,q1⟩,q2⟩=>?_⟩⟩
 dsimp only at q1 q2 ⊢
 have E:=q1.r n s ⟨B.b,B.f,B.n,B.c⟩;have O:h2.bl.length=h.bl.length:=q1.l;have P:h2.bl.countP jKk+t2.length=h.bl.countP jKk+0:=q1.m;have c0:h.bl.countP jKk<=h.bl.length:=cl;refine⟨fun hb=>?_,fun _=>⟨⟨fun n s h=>q1.r n s ⟨h.b,h.f,h.n,h.c⟩,by omega,q1.w Rw.nil⟩,fun⟨_,h3,t3,_⟩ ⟨p1,p2,p3⟩=>?_⟩⟩
 .have J:=dt hb
  have lo:=q2.lo;have nx:=q2.nx (by omega) (decide_eq_true (by omega));exact⟨lo,by omega,E.b.at (by omega),fun x hx=>⟨fun _=>⟨⟨⟨_,_,E⟩,by omega⟩,fun⟨t3,h3⟩ r3=>⟨⟨⟨g,q1.trans r3⟩,nx.1⟩,nx.2⟩⟩,fun _=>⟨⟨⟨g,q1⟩,nx.1⟩,nx.2⟩⟩⟩
 .dsimp only at p1 p2 p3 ⊢
  have G:=p1 n s B;refine⟨fun hb=>?_,fun _=>⟨⟨n,s,G,by omega⟩,fun⟨_,h4⟩ r4=>⟨fun n s h=>r4.r n s (p1 n s h),trivial⟩⟩⟩;have J:=dt hb;rw[jKX (x:=(List.length t3:Int)-1) (by omega) (by omega)];have tk:(List.take ((List.length t3:Int)-1).toNat t3).length=List.length t3-1:=by rw[List.length_take];omega
  refine⟨by omega,by omega,p3.at (by omega),fun x hx=>⟨by omega,⟨by omega,by omega,by omega⟩,⟨⟨_,_,G⟩,by omega⟩,fun⟨t4,h4⟩ r4=>?_⟩⟩;have V:h4.bl.countP jKk+List.length t4=h3.bl.countP jKk+(List.take ((List.length t3:Int)-1).toNat t3).length:=r4.m
  dsimp only
  exact⟨⟨fun n s h=>r4.r n s (p1 n s h),by omega,r4.w fun q hq=>p3 q (List.mem_of_mem_take hq)⟩,by omega⟩)
def rVB:Pz (List Arg):=⟨Va × Bool,fun a=>[pV a.1,pB a.2],fun l=>match l with
 |[.pl (.ag l),.pl (.c (.b b))]=>match fV.un l with
  |some v=>some (v,b)
  |none=>none
 |_=>none,fun b x e=>by
  split at e
  .split at e
   .rename_i h;cases e;rw[fV.ok _ _ h];rfl
   .cases e
  .cases e⟩
def jQH:Cts:=ctp 194 (kA (aC (aP fH) <|aC (aG fV) aN) fun a=>mkc r0 bH (fun _ h'=>HpR 0 a.1 h') (∃n s,jJJ a.1 n s/\n<=10000000)) jQI
theorem jTW:Good T jQH:=by
 unfold jQH;refine Good.add jTX ?_;rintro a ⟨n,s,h,hn⟩;exact jZk h hn _
end V
end Go.Proofs.YtnhbcdnmfafbiaaGreatDoor
