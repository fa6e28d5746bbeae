import Derived.Test.YtnhbcdnmfafbiaaGreatDoorM15
set_option linter.unusedVariables false
set_option linter.unusedSimpArgs false
set_option maxHeartbeats 20000000
set_option maxRecDepth 100000
namespace Go.Proofs.YtnhbcdnmfafbiaaGreatDoor
namespace V
open Go.Proofs
structure LnS where
 (o r x y:Int)
 (p:C)
def fL:Pz (List C):=⟨LnS,fun l=>[I l.o,I l.r,I l.x,I l.y,l.p],fun l=>match l with
 |[.i .i64 o,.i .i64 r,.i .i64 x,.i .i64 y,p]=>some ⟨o,r,x,y,p⟩
 |_=>none,fun b x e=>by split at e <;> cases e;rfl⟩
def lnC (l:LnS):List C:=fL.f l
def pop (o:Int):Bool:=o == 10 || o == 11 || o == 23 || o == 24 || o == 25 || o == 27 || o == 28
structure jKy (l:LnS):Prop where
 o:sm l.o
 r:sm l.r
 x:sm l.x
 y:sm l.y
 p:l.p=I 0\/l.p= .ui/\pop l.o=true
structure GS where
 (i:Int)
 (p f:List (List C))
 (b:Int)
def fG:Pz (List C):=⟨GS,fun g=>[I g.i,.r false 1 g.p,.r false 1 g.f,I g.b],fun l=>match l with
 |[.i .i64 i,.r false 1 p,.r false 1 f,.i .i64 b]=>some ⟨i,p,f,b⟩
 |_=>none,fun b x e=>by split at e <;> cases e;rfl⟩
def grC (g:GS):List C:=fG.f g
structure GOk (g:GS):Prop where
 i:inI g.i
 p:Nr g.p
 f:Nr g.f
 b:inI g.b
structure Em where
 (ns fs F K L:List (List C))
 (fc:List C)
def fE:Pz (List C):=⟨Em,fun e=>[.r false 13 e.ns,.r true 4 e.fs,.r true 4 e.F,.r true 1 e.K,.r true 5 e.L,.bx e.fc],fun l=>match l with
 |[.r false 13 ns,.r true 4 fs,.r true 4 F,.r true 1 K,.r true 5 L,.bx fc]=>some ⟨ns,fs,F,K,L,fc⟩
 |_=>none,fun b x e=>by split at e <;> cases e;rfl⟩
structure EmB (e:Em) (bb qq:Nat):Prop where
 ns:Ns e.ns
 fr:jJL e.fc (6000-qq)
 q:qq<=6000
 b:e.L.length+bb<=150000000
 L:Rw fL jKy e.L
 K:Rw fI inI e.K
 k:e.K.length+bb<=150000000
 fs:Rw fG GOk e.fs
 f:e.fs.length+bb<=150000001
def bE:Pz (List (List C)):=bS fE
def pE (e:Em):Arg:=.bp (fE.f e)
def qE (e:Em):Arg:=.br (fE.f e)
structure jJP (e:Em) (ls:List LnS) (e':Em):Prop where
 e:e'={e with L:=e.L ++ls.map lnC}
def jOy (e:Em) (l:LnS):Ct:=mkc r0 bE (fun _ e'=>jJP e [l] e') (e.L.length+1<=4000000000)
theorem jXn (e:Em) (o r x y:Int) (h:e.L.length+1<=4000000000):Tot T (jOy e ⟨o,r,x,y,I 0⟩) 93 [pE e,.pl (.ag (fL.f ⟨o,r,x,y,I 0⟩))]:=vN hy jJV Tryz.func93 (e.L.length+1<=4000000000/\jJP e [{o:=o,r:=r,x:=x,y:=y,p:=I 0}] {ns:=e.ns,fs:=e.fs,F:=e.F,K:=e.K,L:=e.L ++(List.replicate 1 [iz IntKind.i64,iz IntKind.i64,iz IntKind.i64,iz IntKind.i64,iz IntKind.i64]).set 0 [I o,I r,I x,I y,I 0],fc:=e.fc}) (by kernel_rfl) ⟨h,⟨rfl⟩⟩
theorem jXm (e:Em) (o r x y:Int) (h:e.L.length+1<=4000000000):Tot T (jOy e ⟨o,r,x,y,.ui⟩) 93 [pE e,.pl (.ag (fL.f ⟨o,r,x,y,.ui⟩))]:=vN hy jJV Tryz.func93 (e.L.length+1<=4000000000/\jJP e [{o:=o,r:=r,x:=x,y:=y,p:=.ui}] {ns:=e.ns,fs:=e.fs,F:=e.F,K:=e.K,L:=e.L ++(List.replicate 1 [iz IntKind.i64,iz IntKind.i64,iz IntKind.i64,iz IntKind.i64,iz IntKind.i64]).set 0 [I o,I r,I x,I y,.ui],fc:=e.fc}) (by kernel_rfl) ⟨h,⟨rfl⟩⟩
def isP:C->Bool
 | .ui=>true
 | .i .i64 (.ofNat 0)=>true
 |_=>false
theorem jTe {c:C}(h:isP c=true):c=I 0\/c= .ui:=by
 unfold isP at h
 split at h
 .exact .inr rfl
 .exact .inl rfl
 .cases h
theorem jXl (e:Em) (l:LnS) (hp:isP l.p=true) (h:e.L.length+1<=4000000000):Tot T (jOy e l) 93 [pE e,.pl (.ag (fL.f l))]:=by
 obtain⟨o,r,x,y,p⟩:=l;rcases jTe hp with e|e
 .dsimp only at e;subst e;exact jXn _ _ _ _ _ h
 .dsimp only at e;subst e;exact jXm _ _ _ _ _ h
def aN:Pz (List Arg):=r0
def aC (p:Pz Arg) (q:Pz (List Arg)):Pz (List Arg):=⟨p.α × q.α,fun a=>p.f a.1 ::q.f a.2,fun l=>match l with
 |x ::l=>match p.un x with
  |some a=>match q.un l with
   |some b=>some (a,b)
   |none=>none
  |none=>none
 |[]=>none,fun b x e=>by
  split at e
  .split at e
   .rename_i h1
    split at e
    .rename_i h2;cases e;rw[p.ok _ _ h1,q.ok _ _ h2]
    .cases e
   .cases e
  .cases e⟩
def aI:Pz Arg:=⟨Int,pI,fun x=>match x with
 | .pl (.c (.i .i64 n))=>some n
 |_=>none,fun b x e=>by split at e <;> cases e;rfl⟩
def aR (z:Nat):Pz Arg:=⟨List (List C),fun l=>.pl (.c (.r false z l)),fun x=>match x with
 | .pl (.c (.r false z' l))=>if z'=z then some l else none
 |_=>none,fun b x e=>by
  split at e
  .split at e
   .rename_i h;cases e;rw[h]
   .cases e
  .cases e⟩
def aG (S:Pz (List C)):Pz Arg:=⟨S.α,fun a=>.pl (.ag (S.f a)),fun x=>match x with
 | .pl (.ag l)=>S.un l
 |_=>none,fun b x e=>by
  split at e
  .rw[S.ok _ _ e]
  .cases e⟩
def aP (S:Pz (List C)):Pz Arg:=⟨S.α,fun a=>.bp (S.f a),fun x=>match x with
 | .bp l=>S.un l
 |_=>none,fun b x e=>by
  split at e
  .rw[S.ok _ _ e]
  .cases e⟩
def aQ (S:Pz (List C)):Pz Arg:=⟨S.α,fun a=>.br (S.f a),fun x=>match x with
 | .br l=>S.un l
 |_=>none,fun b x e=>by
  split at e
  .rw[S.ok _ _ e]
  .cases e⟩
def kA (A:Pz (List Arg)) (c:A.α->Ct) (xs:List Arg):Option Ct:=match A.un xs with
 |some a=>some (c a)
 |none=>none
theorem jP1 {A:Pz (List Arg)}{c:A.α->Ct}{f:Nat}(h:∀a,(c a).pr->Tot T (c a) f (A.f a)) (xs:List Arg) (k:Ct) (hk:kA A c xs=some k) (hp:k.pr):Tot T k f xs:=by
 unfold kA at hk
 split at hk
 .rename_i a ha
  cases hk;rw[A.ok _ _ ha];exact h a hp
 .cases hk
theorem Good.add {ct:Cts}(h:Good T ct) {f:Nat}{A:Pz (List Arg)}{c:A.α->Ct}(B:∀a,(c a).pr->Tot T (c a) f (A.f a)):Good T (ctp f (kA A c) ct):=jKu h (jP1 B)
def ctF:Cts:=ctp 92 (kA (aC (aP jJK) aN) fun a=>jT0 a.1 (∃m:Nat,m<6000/\jJL a.1 m)) <|ctp 94 (kA (aC (aP jJK) <|aC aI <|aC aI <|aC aI aN) fun a=>mkc r0 jQZ (fun _ fc'=>∀m,jJL a.1 m->jJL fc' m) ((∃m,jJL a.1 m)/\sm a.2.2.1/\sm a.2.2.2.1)) <|ctp 221 (kA (aC (aQ jJK) <|aC aI aN) fun a=>mkc (rS fHm) b0 (fun x _=>jMf x) (∃m,jJL a.1 m)) <|ctp 220 (kA (aC (aQ jJK) <|aC (aG fS) <|aC aI aN) fun a=>mkc rB b0 (fun _ _=>True) (∃m,jJL a.1 m)) <|ctp 45 (kA aN fun _=>mkc rBx b0 (fun fc _=>jJL fc 0) True) ctS
theorem jZe:Good T ctF:=by
 unfold ctF;refine Good.add (Good.add (Good.add (Good.add (Good.add jTR ?_) ?_) ?_) ?_) ?_
 .rintro a -;exact jWT
 .rintro a ⟨m,h⟩;exact jV9 h _ _
 .rintro a ⟨m,h⟩;exact jYh h _
 .rintro a ⟨⟨m,h⟩,h1,h2⟩;exact jVu h _ h1 h2
 .rintro a ⟨m,hm,h⟩;exact jdV h hm
def aL:Pz Arg:=⟨{l:LnS // isP l.p=true},fun a=>.pl (.ag (fL.f a.1)),fun x=>match x with
 | .pl (.ag l)=>match fL.un l with
   |some l=>if h:isP l.p=true then some ⟨l,h⟩ else none
   |none=>none
 |_=>none,fun b x e=>by
  split at e
  .split at e
   .rename_i h
    split at e
    .cases e;rw[fL.ok _ _ h]
    .cases e
   .cases e
  .cases e⟩
def ctL:Cts:=ctp 93 (kA (aC (aP fE) <|aC aL aN) fun a=>jOy a.1 a.2.1.1) ctF
theorem jLL:Good T ctL:=Good.add jZe fun a h=>jXl _ _ a.2.1.2 h
theorem jX4 (e:Em) (o a:Int) (h:e.L.length+1<=4000000000):Tot T (mkc rI bE (fun k e'=>jJP e [⟨o,a,0,0,I 0⟩] e') True) 138 [pE e,pI o,pI a]:=vF hy jLL Tryz.func138 (e.L.length+1<=4000000000/\∀(x:Unit × Em),jJP e [{o:=o,r:=a,x:=0,y:=0,p:=I 0}] x.2->jJP e [{o:=o,r:=a,x:=0,y:=0,p:=I 0}] x.2) (by kernel_rfl) ⟨h,fun _ hl=>hl⟩
def hE:Hx:=⟨fun z=>cond (Nat.beq z 13) (eS fN) (cond (Nat.beq z 5) (eS fL) eI),false,fun n=>cond (Nat.beq n 1) (some eI) (cond (Nat.beq n 802) (some (eS jJK)) none),false,false⟩
theorem jYR {x y:LnS}(e:fL.f x=fL.f y):x=y:=by
 obtain⟨a,b,c,d,p⟩:=x;obtain⟨B,b',c',d',p'⟩:=y;simp only[fL,I,List.cons.injEq,C.i.injEq,true_and,and_true]at e;obtain⟨rfl,rfl,rfl,rfl,rfl⟩:=e;rfl
structure jLi (e:Em) (e':Em):Prop where
 r:∀b q,EmB e b q->EmB e' b q
 f:e'.fs=e.fs/\e'.F=e.F/\e'.ns=e.ns
theorem jZZ (e:Em) (j:Int) {b q:Nat}(h:EmB e b q):Tot T (mkc r0 bE (fun _ e'=>jLi e e') True) 140 [pE e,pI j]:=vN (⟨hE,[],[],[]⟩) jLL Tryz.func140 (br (decide (j>=0)) (br (decide (j<↑e.L.length)) (0<=j/\j.toNat<e.L.length/\(∃(y:LnS),e.L[j.toNat]? =some (fL.f y))/\∀(x:LnS),e.L[j.toNat]? =some (fL.f x)->jLi e {ns:=e.ns,fs:=e.fs,F:=e.F,K:=e.K,L:=e.L.set j.toNat (ovl (fL.f x) 2 [I ↑e.L.length]),fc:=e.fc}) (jLi e e)) (false=false/\jLi e e)) (by kernel_rfl) (by
 have z:jLi e e:=⟨fun b q h=>h,rfl,rfl,rfl⟩
 refine⟨fun B=>⟨fun h2=>?_,fun _=>z⟩,fun _=>⟨rfl,z⟩⟩;have B:=dt B;have h2:=dt h2;refine⟨by omega,by omega,h.L.at (by omega),fun x hx=>⟨fun b q h=>?_,rfl,rfl,rfl⟩⟩;have G:=h.b
 have hl:jKy ⟨x.o,x.r,e.L.length,x.y,x.p⟩:=by
  obtain⟨y,E,hy⟩:=h.L.of hx;have:x=y:=jYR E;subst this;exact⟨hy.o,hy.r,⟨by dsimp only;omega,by dsimp only;omega⟩,hy.y,hy.p⟩
 refine⟨h.ns,h.fr,h.q,by simpa using h.b,fun q hq=>?_,h.K,h.k,h.fs,h.f⟩;rcases List.mem_or_eq_of_mem_set hq with q'|q'
 .exact h.L q q'
 .exact⟨⟨x.o,x.r,e.L.length,x.y,x.p⟩,q'.trans rfl,hl⟩)
def plk (k:Int):Bool:=decide (k=1\/k=2\/k=3\/k=6\/k=5)
noncomputable def jMZ (ns:List (List C)) (n:Int):Bool:=plk (jm ns n).k
structure jKx (ns:List (List C)) (n:Int) (b:Bool):Prop where
 e:jMZ ns n=b
theorem jYa (e:Em) (n:Int) (h:Ns e.ns):Tot T (mkc rB b0 (fun b _=>jKx e.ns n b) True) 185 [qE e,pI n]:=vF (⟨hE,[],[],[]⟩) jLL Tryz.func185 (Ns e.ns/\∀(x:N × Unit),NdX e.ns n x.1->br (decide (x.1.k=1)) (true=true/\jKx e.ns n true) (br (decide (x.1.k=2)) (true=true/\jKx e.ns n true) (br (decide (x.1.k=3)) (true=true/\jKx e.ns n true) (br (decide (x.1.k=6)) (true=true/\jKx e.ns n true) (br (decide (x.1.k=5)) (jKx e.ns n true) (jKx e.ns n false)))))) (by kernel_rfl) (by
 refine⟨h,fun⟨x,_⟩ ⟨ex,_⟩=>?_⟩
 dsimp only at ex ⊢
 have y:plk x.k=true->jKx e.ns n true:=fun h=>⟨by unfold jMZ;rw[ex,h]⟩
 refine⟨fun h=>⟨rfl,y (by unfold plk;simp at h ⊢;omega)⟩,fun h1=>⟨fun h=>⟨rfl,y (by unfold plk;simp at h ⊢;omega)⟩,fun h2=>⟨fun h=>⟨rfl,y (by unfold plk;simp at h ⊢;omega)⟩,fun h3=>⟨fun h=>⟨rfl,y (by unfold plk;simp at h ⊢;omega)⟩,fun h4=>⟨fun h=>y (by unfold plk;simp at h ⊢;omega),fun h5=>⟨?_⟩⟩⟩⟩⟩⟩;unfold jMZ plk;rw[ex];simp at h1 h2 h3 h4 h5 ⊢
 omega)
theorem jYD (e:Em) (n:Int) (h:Ns e.ns):Tot T (mkc (rS fS) b0 (fun _ _=>True) True) 137 [qE e,pI n]:=vF (⟨hE,[],[],[]⟩) jLL Tryz.func137 (Ns e.ns/\∀(x:N × Unit),NdX e.ns n x.1->True) (by kernel_rfl) ⟨h,fun _ _=>trivial⟩
end V
end Go.Proofs.YtnhbcdnmfafbiaaGreatDoor
set_option maxRecDepth 100000
namespace Go.Proofs.YtnhbcdnmfafbiaaGreatDoor
namespace V
open Go.Proofs
noncomputable def jJN (f:Nat->Nat):Nat->Nat
 |0=>0
 |j+1=>jJN f j+f j
noncomputable def wtF (ns:List (List C)):Nat->Int->Nat
 |0,_=>1
 |f+1,n=>if n<0 then 1 else 4+(jm ns n).b.length+(jm ns n).s.length+if(jm ns n).k=12 then 0 else jJN (fun i=>wtF ns f (jnF ns n i)) (jm ns n).s.length
noncomputable def wt (ns:List (List C)) (n:Int):Nat:=wtF ns (n+1).toNat n
noncomputable def fwF (ns:List (List C)):Nat->Int->Nat
 |0,_=>0
 |f+1,n=>if n<0 then 0 else if(jm ns n).k=12 then 1+(jm ns n).b.length+wt ns (jnF ns n 0)+fwF ns f (jnF ns n 0) else jJN (fun i=>fwF ns f (jnF ns n i)) (jm ns n).s.length
noncomputable def fwt (ns:List (List C)) (n:Int):Nat:=fwF ns (n+1).toNat n
noncomputable def pot (ns:List (List C)) (g:GS):Nat:=1+g.p.length+wt ns g.b+fwt ns g.b
structure EmP (k w jj rr:Nat) (e e':Em):Prop where
 r:∀b q,EmB e (b+k) (q+rr)->EmB e' b (q+rr-jj)
 j:jj<=rr
 ns:e'.ns=e.ns
 F:e'.F=e.F
 g:∃g:List GS,e'.fs=e.fs ++g.map grC/\(g.map (pot e.ns)).sum<=w
theorem EmB.up {e:Em}{b b' q q':Nat}(h:EmB e b q) (B:b'<=b) (E:q'<=q):EmB e b' q':={h with b:=by have:=h.b;omega,fr:=h.fr.up (by omega),q:=by have:=h.q;omega,k:=by have:=h.k;omega,f:=by have:=h.f;omega}
theorem EmP.refl (k w r:Nat) (e:Em):EmP k w 0 r e e:=⟨fun b q h=>h.up (by omega) (by omega),by omega,rfl,rfl,[],by simp,by simp⟩
theorem EmP.trans {k w j r k' w' j' r':Nat}{e E G:Em}(h:EmP k w j r e E) (B:EmP k' w' j' r' E G):EmP (k+k') (w+w') (j+j') (r+r') e G:=by
 obtain⟨g,P,V⟩:=h.g;obtain⟨O,J,M⟩:=B.g;have Y:=h.j;have Z:=B.j;refine⟨fun b q hb=>?_,by omega,B.ns.trans h.ns,B.F.trans h.F,g ++O,by rw[J,P];simp,?_⟩
 .have:=h.r (b+k') (q+r') (hb.up (by omega) (by omega))
  have:=B.r b (q+r-j) (this.up (by omega) (by omega));exact this.up (by omega) (by omega)
 .rw[h.ns]at M
  rw[List.map_append,List.sum_append];omega
theorem EmP.up {k w j r k' w' j' r':Nat}{e B:Em}(h:EmP k w j r e B) (hk:k<=k') (M:w<=w') (G:j<=j') (J:r+j'<=r'+j):EmP k' w' j' r' e B:=by
 obtain⟨g,E,O⟩:=h.g;have:=h.j;refine⟨fun b q hb=>?_,by omega,h.ns,h.F,g,E,by omega⟩;have:=h.r b (q+r'-r) (hb.up (by omega) (by omega));exact this.up (by omega) (by omega)
theorem jJP.p {e E:Em}{B:List LnS}(h:jJP e B E) (hl:∀l ∈ B,jKy l):EmP B.length 0 0 0 e E:=by
 obtain⟨rfl⟩:=h;refine⟨fun b q h=>?_,by omega,rfl,rfl,[],by simp,by simp⟩;have:=h.b;have J:(e.L ++B.map lnC).length=e.L.length+B.length:=by rw[List.length_append,List.length_map]
 refine⟨h.ns,h.fr,h.q,by dsimp only;omega,h.L.app fun q hq=>?_,h.K,by have:=h.k;dsimp only;omega,h.fs,by have:=h.f;dsimp only;omega⟩;obtain⟨l,G,h2⟩:=List.mem_map.1 hq;exact⟨l,h2.symm,hl l G⟩
theorem jTl:∀(n:Nat) (cs:List C) (o:Nat),o+n=cs.length->gts cs o n=some (cs.drop o)
 |0,cs,o,h=>by
  rw[show gts cs o 0=if o<=cs.length then some [] else none from rfl,if_pos (by omega),List.drop_eq_nil_of_le (by omega)]
 |n+1,cs,o,h=>by
  have hl:o<cs.length:=by omega
  simp only[gts,List.getElem?_eq_getElem hl,jTl n cs (o+1) (by omega)];rw[<-List.drop_eq_getElem_cons hl]
theorem jJL.all {fc:List C}{m:Nat}(h:jJL fc m):gts fc 0 802=some (jJK.f fc):=jTl 802 fc 0 (by rw[h.n])
theorem jJL.is {fc y:List C}{m:Nat}(h:jJL fc m) (hy:gts fc 0 802=some (jJK.f y)):y=fc:=Option.some.inj (hy.symm.trans h.all)
theorem jM2 {fc B:List C}(h:fc.length=802) (E:B.length=802):ovl fc 0 B=B:=by
 rw[jLo B fc 0 (by omega)];simp[h,E]
theorem EmP.fcl {e E:Em}{fc:List C}{B:List LnS}{j:Nat}(h:jJP {e with fc:=fc} B E) (hl:∀l ∈ B,jKy l) (hf:∀q,q+j<=6000->jJL e.fc (6000-(q+j))->jJL fc (6000-q)):EmP B.length 0 j j e E:=by
 obtain⟨rfl⟩:=h;refine⟨fun b q h=>?_,Nat.le_refl _,rfl,rfl,[],by simp,by simp⟩;have:=h.b;have G:=h.q;have M:(e.L ++B.map lnC).length=e.L.length+B.length:=by rw[List.length_append,List.length_map]
 refine⟨h.ns,by rw[Nat.add_sub_cancel];exact hf q G h.fr,by omega,by dsimp only;omega,h.L.app fun q G=>?_,h.K,by have:=h.k;dsimp only;omega,h.fs,by have:=h.f;dsimp only;omega⟩;obtain⟨l,J,h2⟩:=List.mem_map.1 G;exact⟨l,h2.symm,hl l J⟩
theorem jJH {n:Int}(B: -4000000000<=n) (h2:n<=4000000000):sm n:=⟨B,h2⟩
theorem one {p:LnS->Prop}{l:LnS}(h:p l):∀x ∈ [l],p x:=fun x hx=>by rw[List.mem_singleton.1 hx];exact h
structure NuI (e e':Em) (n r n' r' i:Int):Prop where
 q1:e'=e
 q2:n'=n
 q3:r'=r
 q4:Ix e.K.length i
def nuT:Rl Av:=.cons 0 (tA 0) <| .cons 1 tI <| .cons 2 tI <| .cons 6 tI .nil
def nuR:Rl Rt:=.cons 0 (rX 0 fE) .nil
def nuH (e:Em) (n r:Int):Hy:=⟨hE,[],[],[(1,.iv nuT nuR (fun a=>NuI e a.2.1 n r a.1.2.1 a.1.2.2.1 a.1.2.2.2.1) fun a=>ixM e.K.length a.1.2.2.2.1)]⟩
def cEm (k w j r:Nat) (e:Em) (p:Prop):Ct:=mkc r0 bE (fun _ e'=>EmP k w j r e e') p
theorem jWP {e:Em}{n r:Int}(h:EmB e 1 0) (hn:inI n) (B:sm r):Tot T (cEm 1 0 0 0 e True) 145 [pE e,pI n,pI r]:=vN (nuH e n r) jLL Tryz.func145 (NuI e e n r n r 0/\∀(a:(Unit × Int × Int × Int × Unit) × Em × Unit),NuI e a.2.1 n r a.1.2.1 a.1.2.2.1 a.1.2.2.2.1->br (decide (a.1.2.2.2.1<↑a.2.1.K.length)) (0<=a.1.2.2.2.1/\Int.toNat a.1.2.2.2.1<a.2.1.K.length/\(∃(y:Int),a.2.1.K[Int.toNat a.1.2.2.2.1]? =some [I y])/\∀(x:Int),a.2.1.K[Int.toNat a.1.2.2.2.1]? =some [I x]->br (decide (x≠a.1.2.1)) (NuI e a.2.1 n r a.1.2.1 a.1.2.2.1 (wr (a.1.2.2.2.1+1))/\ixM e.K.length (wr (a.1.2.2.2.1+1))<ixM e.K.length a.1.2.2.2.1) (br (decide (a.1.2.2.2.1=↑a.2.1.K.length)) (a.2.1.K.length+1<=4000000000/\a.2.1.L.length+1<=4000000000/\∀(x:Unit × Em),jJP {ns:=a.2.1.ns,fs:=a.2.1.fs,F:=a.2.1.F,K:=a.2.1.K ++(List.replicate 1 [iz IntKind.i64]).set 0 [I a.1.2.1],L:=a.2.1.L,fc:=a.2.1.fc} [{o:=1,r:=a.1.2.2.1,x:=a.1.2.2.2.1,y:=0,p:=I 0}] x.2->EmP 1 0 0 0 e x.2) (a.2.1.L.length+1<=4000000000/\∀(x:Unit × Em),jJP a.2.1 [{o:=1,r:=a.1.2.2.1,x:=a.1.2.2.2.1,y:=0,p:=I 0}] x.2->EmP 1 0 0 0 e x.2))) (false=false/\br (decide (a.1.2.2.2.1=↑a.2.1.K.length)) (a.2.1.K.length+1<=4000000000/\a.2.1.L.length+1<=4000000000/\∀(x:Unit × Em),jJP {ns:=a.2.1.ns,fs:=a.2.1.fs,F:=a.2.1.F,K:=a.2.1.K ++(List.replicate 1 [iz IntKind.i64]).set 0 [I a.1.2.1],L:=a.2.1.L,fc:=a.2.1.fc} [{o:=1,r:=a.1.2.2.1,x:=a.1.2.2.2.1,y:=0,p:=I 0}] x.2->EmP 1 0 0 0 e x.2) (a.2.1.L.length+1<=4000000000/\∀(x:Unit × Em),jJP a.2.1 [{o:=1,r:=a.1.2.2.1,x:=a.1.2.2.2.1,y:=0,p:=I 0}] x.2->EmP 1 0 0 0 e x.2))) (by kernel_rfl) (by
 have J:=h.b;have hk:=h.k;have z:sm 0:=jJH (by omega) (by omega);refine⟨⟨rfl,rfl,rfl,by omega,by omega⟩,fun⟨⟨_,n',r',i,_⟩,e',_⟩ ⟨q1,q2,q3,q4⟩=>?_⟩
 dsimp only at q1 q2 q3 q4 ⊢
 subst q1 q2 q3;have lo:=q4.lo;have hi:=q4.hi
 have E:∀{K:List (List C)}{x:Unit × Em},(K=e'.K\/K=e'.K ++[[I n']])->jJP {e' with K:=K} [⟨1,r',i,0,I 0⟩] x.2->EmP 1 0 0 0 e' x.2:=fun {K x} hK hl=>by
  obtain⟨_,x⟩:=x;obtain⟨hl⟩:=hl
  dsimp only at hl ⊢
  subst hl;have G:(e'.L ++[⟨1,r',i,0,I 0⟩].map lnC).length=e'.L.length+1:=by simp
  have kl:K.length<=e'.K.length+1:=by rcases hK with h|h <;> subst h <;> simp
  refine⟨fun b q h=>?_,by omega,rfl,rfl,[],by simp,by simp⟩;have:=h.b;have:=h.k;refine⟨h.ns,h.fr,h.q,by dsimp only;omega,h.L.app fun q hq=>?_,?_,by dsimp only;omega,h.fs,by have:=h.f;dsimp only;omega⟩
  .exact⟨⟨1,r',i,0,I 0⟩,List.mem_singleton.1 hq,⟨jJH (by simp) (by simp),B,jJH (by dsimp only;omega) (by dsimp only;omega),z,.inl rfl⟩⟩
  .rcases hK with q|q <;> subst q
   .exact h.K
   .exact h.K.app fun q hq=>⟨n',List.mem_singleton.1 hq,hn⟩
 have go:(decide (i=e'.K.length)=true->e'.K.length+1<=4000000000/\e'.L.length+1<=4000000000/\∀x:Unit × Em,jJP {e' with K:=e'.K ++[[I n']]} [⟨1,r',i,0,I 0⟩] x.2->EmP 1 0 0 0 e' x.2)/\(decide (i=e'.K.length)=false->e'.L.length+1<=4000000000/\∀x:Unit × Em,jJP e' [⟨1,r',i,0,I 0⟩] x.2->EmP 1 0 0 0 e' x.2):=⟨fun _=>⟨by omega,by omega,fun x hl=>E (.inr rfl) hl⟩,fun _=>⟨by omega,fun x hl=>E (.inl rfl) hl⟩⟩
 refine⟨fun h1=>⟨lo,q4.lt h1,h.K.at (q4.lt h1),fun x hx=>⟨fun _=>⟨⟨rfl,rfl,rfl,(q4.nx (by omega) h1).1⟩,(q4.nx (by omega) h1).2⟩,fun _=>go⟩⟩,fun h1=>⟨rfl,go⟩⟩)
theorem jXg {e:Em}{n r:Int}(h:EmB e 2 0) (B:sm r) (s:S7):Tot T (cEm 2 0 0 0 e True) 188 [pE e,pI n,pI r,pS s]:=vN (⟨hE,[],[],[]⟩) jLL Tryz.func188 ((∃(y:List C),gts e.fc 0 802=some (jJK.f y))/\∀(x:List C),gts e.fc 0 802=some (jJK.f x)->(∃(y:Nat),jJL (jJK.f x) y)/\∀(x:jNB × Unit),jMf x.1->(∃(y:List C),gts e.fc 0 802=some (jJK.f y))/\∀(x_1:List C),gts e.fc 0 802=some (jJK.f x_1)->(∃(y:Nat),jJL (jJK.f x_1) y)/\∀(x_2:Bool × Unit),True->br x_2.1 (e.L.length+1<=4000000000/\∀(x_3:Unit × Em),jJP e [{o:=3,r:=r,x:=x.1.a,y:=0,p:=I 0}] x_3.2->br (decide (x.1.b≠(-1))) (x_3.2.L.length+1<=4000000000/\∀(x_4:Unit × Em),jJP x_3.2 [{o:=22,r:=r,x:=r,y:=x.1.b,p:=I 0}] x_4.2->EmP 2 0 0 0 e x_4.2) (EmP 2 0 0 0 e x_3.2)) (e.L.length+1<=4000000000/\∀(x_3:Unit × Em),jJP e [{o:=4,r:=r,x:=x.1.a,y:=0,p:=I 0}] x_3.2->br (decide (x.1.b≠(-1))) (x_3.2.L.length+1<=4000000000/\∀(x_4:Unit × Em),jJP x_3.2 [{o:=22,r:=r,x:=r,y:=x.1.b,p:=I 0}] x_4.2->EmP 2 0 0 0 e x_4.2) (EmP 2 0 0 0 e x_3.2))) (by kernel_rfl) (by
 have G:=h.b;have z:sm 0:=jJH (by omega) (by omega);refine⟨⟨_,h.fr.all⟩,fun x hx=>?_⟩;have e0:=h.fr.is hx;subst e0;refine⟨⟨_,h.fr⟩,fun⟨q,_⟩ hq=>⟨⟨_,h.fr.all⟩,fun x hx=>?_⟩⟩;have e0:=h.fr.is hx;subst e0
 have go:∀o,sm o->e.L.length+1<=4000000000/\∀x:Unit × Em,jJP e [⟨o,r,q.a,0,I 0⟩] x.2->(decide (q.b≠(-1))=true->x.2.L.length+1<=4000000000/\∀y:Unit × Em,jJP x.2 [⟨22,r,r,q.b,I 0⟩] y.2->EmP 2 0 0 0 e y.2)/\(decide (q.b≠(-1))=false->EmP 2 0 0 0 e x.2):=fun o ho=>by
  refine⟨by omega,fun⟨_,e1⟩ hl=>?_⟩;have E:=hl.p (one ⟨ho,B,hq.a,z,.inl rfl⟩);have b1:=(E.r 1 0 h).b
  dsimp only at b1
  refine⟨fun _=>⟨by dsimp only;omega,fun⟨_,e2⟩ hl2=>E.trans (hl2.p (one ⟨jJH (by simp) (by simp),B,B,hq.b,.inl rfl⟩))⟩,fun _=>E.up (by simp) (by omega) (by omega) (by omega)⟩
 exact⟨⟨_,h.fr⟩,fun _ _=>⟨fun _=>go 3 (jJH (by omega) (by omega)),fun _=>go 4 (jJH (by omega) (by omega))⟩⟩)
theorem jXU {e:Em}{n r:Int}(h:EmB e 1 1) (hn:inI n) (B:sm r) (s:S7):Tot T (cEm 1 0 1 1 e True) 49 [pE e,pI n,pI r,pS s]:=vN (⟨hE,[],[],[]⟩) jLL Tryz.func49 (inI n/\∀(x:Bool × Unit),True->br (!x.1) (EmP 1 0 1 1 e e) ((∃(y:List C),gts e.fc 0 802=some (jJK.f y))/\∀(x:List C),gts e.fc 0 802=some (jJK.f x)->(∃(y:Nat),y<6000/\jJL (jJK.f x) y)/\∀(x_1:Int × List C),jMc (jJK.f x) x_1.1 x_1.2->0+(jJK.f x_1.2).length<=e.fc.length/\(∃(y:List C),gts (ovl e.fc 0 (jJK.f x_1.2)) 0 802=some (jJK.f y))/\∀(x:List C),gts (ovl e.fc 0 (jJK.f x_1.2)) 0 802=some (jJK.f x)->((∃(y:Nat),jJL (jJK.f x) y)/\sm x_1.1/\sm ((-1)))/\∀(x_2:Unit × List C),(∀(m:Nat),jJL (jJK.f x) m->jJL x_2.2 m)->0+(jJK.f x_2.2).length<=(ovl e.fc 0 (jJK.f x_1.2)).length/\e.L.length+1<=4000000000/\∀(x:Unit × Em),jJP {ns:=e.ns,fs:=e.fs,F:=e.F,K:=e.K,L:=e.L,fc:=ovl (ovl e.fc 0 (jJK.f x_1.2)) 0 (jJK.f x_2.2)} [{o:=5,r:=r,x:=x_1.1,y:=0,p:=I 0}] x.2->EmP 1 0 1 1 e x.2)) (by kernel_rfl) (by
 have J:=h.b;refine⟨hn,fun b _=>⟨fun _=>(EmP.refl 1 0 0 e).up (by omega) (by omega) (by omega) (by omega),fun _=>⟨⟨_,h.fr.all⟩,fun x hx=>?_⟩⟩⟩;have e0:=h.fr.is hx;subst e0;refine⟨⟨6000-1,by omega,h.fr⟩,fun⟨k,f1⟩ ht=>?_⟩;have t:=ht.r (6000-1) (by omega) h.fr
 dsimp only at t ht ⊢
 have n1:f1.length=802:=t.2.n;have E:ovl e.fc 0 (jJK.f f1)=f1:=jM2 h.fr.n n1;rw[E];refine⟨by show 0+f1.length<=_;rw[n1,h.fr.n];omega,⟨_,t.2.all⟩,fun x hx=>?_⟩;have e0:=t.2.is hx;subst e0;have sk:sm k:=jJH (by omega) (by omega);refine⟨⟨⟨_,t.2⟩,sk,jJH (by omega) (by omega)⟩,fun⟨_,f2⟩ h2=>?_⟩
 dsimp only at h2 ⊢
 have n2:f2.length=802:=(h2 _ t.2).n;have G:ovl x 0 (jJK.f f2)=f2:=jM2 n1 n2;rw[G];refine⟨by show 0+f2.length<=_;rw[n1,n2];omega,by omega,fun⟨_,e'⟩ hl=>?_⟩
 exact EmP.fcl hl (one ⟨jJH (by simp) (by simp),B,sk,jJH (by simp) (by simp),.inl rfl⟩) fun q hq hf=>by
  have:=h2 _ (ht.r (6000-(q+1)) (by omega) hf).2
  rwa [show 6000-(q+1)+1=6000-q by omega]at this)
end V
end Go.Proofs.YtnhbcdnmfafbiaaGreatDoor
set_option maxRecDepth 100000
namespace Go.Proofs.YtnhbcdnmfafbiaaGreatDoor
namespace V
open Go.Proofs
def cS0 (p:Prop):Ct:=mkc (rS fS) b0 (fun _ _=>True) p
noncomputable def ctM:Cts:=ctp 138 (kA (aC (aP fE) <|aC aI <|aC aI aN) fun a=>mkc rI bE (fun k e'=>jJP a.1 [⟨a.2.1,a.2.2.1,0,0,I 0⟩] e') (a.1.L.length+1<=4000000000)) <|ctp 140 (kA (aC (aP fE) <|aC aI aN) fun a=>mkc r0 bE (fun _ e'=>jLi a.1 e') (EmB a.1 0 0)) <|ctp 185 (kA (aC (aQ fE) <|aC aI aN) fun a=>mkc rB b0 (fun b _=>jKx a.1.ns a.2.1 b) (Ns a.1.ns)) <|ctp 137 (kA (aC (aQ fE) <|aC aI aN) fun a=>cS0 (Ns a.1.ns)) <|ctp 145 (kA (aC (aP fE) <|aC aI <|aC aI aN) fun a=>cEm 1 0 0 0 a.1 (EmB a.1 1 0/\inI a.2.1/\sm a.2.2.1)) <|ctp 188 (kA (aC (aP fE) <|aC aI <|aC aI <|aC (aG fS) aN) fun a=>cEm 2 0 0 0 a.1 (EmB a.1 2 0/\sm a.2.2.1)) <|ctp 49 (kA (aC (aP fE) <|aC aI <|aC aI <|aC (aG fS) aN) fun a=>cEm 1 0 1 1 a.1 (EmB a.1 1 1/\inI a.2.1/\sm a.2.2.1)) <|ctp 107 (kA (aC (aG fS) <|aC (aR 1) aN) fun a=>cS0 (Nr a.2.1)) ctL
theorem jLK:Good T ctM:=by
 unfold ctM;refine Good.add (Good.add (Good.add (Good.add (Good.add (Good.add (Good.add (Good.add jLL ?_) ?_) ?_) ?_) ?_) ?_) ?_) ?_
 .rintro a h;exact jRl _ _ h.r (Nat.le_trans h.n (by omega))
 .rintro a ⟨h1,h2,h3⟩;exact jXU h1 h2 h3 _
 .rintro a ⟨h1,h2⟩;exact jXg h1 h2 _
 .rintro a ⟨h1,h2,h3⟩;exact jWP h1 h2 h3
 .rintro a h;exact jYD _ _ h
 .rintro a h;exact jYa _ _ h
 .rintro a h;exact jZZ _ _ h
 .rintro a h;exact jX4 _ _ _ h
theorem EmP.fc {k w j r:Nat}{e B:Em}(h:EmP k w j r e B) {f:List C}(hf:∀m,jJL B.fc m->jJL f m):EmP k w j r e {B with fc:=f}:=⟨fun b q hb=>{h.r b q hb with fr:=hf _ (h.r b q hb).fr},h.j,h.ns,h.F,h.g⟩
structure KcI (e:Em) (g:GS) (e':Em) (g':GS) (s i:Int):Prop where
 q1:EmP 1 0 1 1 e e'
 q2:g'=g
 q3:sm s
 q4:Ix g.f.length i
def kcT:Rl Av:=.cons 0 (tA 0) <| .cons 3 (tA 3) <| .cons 4 tI <| .cons 5 tI .nil
def kcR:Rl Rt:=.cons 0 (rX 0 fE) <| .cons 3 (rX 1 fG) .nil
def kcH (e:Em) (g:GS):Hy:=⟨hE,[],[],[(5,.iv kcT kcR (fun a=>KcI e g a.2.1 a.2.2.1 a.1.2.2.1 a.1.2.2.2.1) fun a=>ixM g.f.length a.1.2.2.2.1)]⟩
theorem jXV {e:Em}{g:GS}(h:EmB e 1 1) (J:GOk g):Tot T (cEm 1 0 1 1 e True) 48 [pE e,.pl (.ag (fG.f g))]:=vN (kcH e g) jLK Tryz.func48 ((∃(y:List C),gts e.fc 0 802=some (jJK.f y))/\∀(x:List C),gts e.fc 0 802=some (jJK.f x)->(∃(y:Nat),y<6000/\jJL (jJK.f x) y)/\∀(x_1:Int × List C),jMc (jJK.f x) x_1.1 x_1.2->0+(jJK.f x_1.2).length<=e.fc.length/\e.L.length+1<=4000000000/\∀(x:Unit × Em),jJP {ns:=e.ns,fs:=e.fs,F:=e.F,K:=e.K,L:=e.L,fc:=ovl e.fc 0 (jJK.f x_1.2)} [{o:=5,r:=7,x:=x_1.1,y:=0,p:=I 0}] x.2->(∃(y:List C),gts x.2.fc 0 802=some (jJK.f y))/\∀(x_2:List C),gts x.2.fc 0 802=some (jJK.f x_2)->((∃(y:Nat),jJL (jJK.f x_2) y)/\sm x_1.1/\sm ((-1)))/\∀(x_3:Unit × List C),(∀(m:Nat),jJL (jJK.f x_2) m->jJL x_3.2 m)->0+(jJK.f x_3.2).length<=x.2.fc.length/\KcI e g {ns:=x.2.ns,fs:=x.2.fs,F:=x.2.F,K:=x.2.K,L:=x.2.L,fc:=ovl x.2.fc 0 (jJK.f x_3.2)} g x_1.1 0/\∀(a:(Unit × Unit × Int × Int × Unit) × Em × GS × Unit),KcI e g a.2.1 a.2.2.1 a.1.2.2.1 a.1.2.2.2.1->br (decide (a.1.2.2.2.1<↑a.2.2.1.f.length)) (0<=a.1.2.2.2.1/\(∃(y:Int),a.2.2.1.f[Int.toNat a.1.2.2.2.1]? =some [I y])/\∀(x:Int),a.2.2.1.f[Int.toNat a.1.2.2.2.1]? =some [I x]->(∃(y:List C),gts a.2.1.fc 0 802=some (jJK.f y))/\∀(x:List C),gts a.2.1.fc 0 802=some (jJK.f x)->((∃(y:Nat),jJL (jJK.f x) y)/\sm a.1.2.2.1/\sm a.1.2.2.2.1)/\∀(x_4:Unit × List C),(∀(m:Nat),jJL (jJK.f x) m->jJL x_4.2 m)->0+(jJK.f x_4.2).length<=a.2.1.fc.length/\KcI e g {ns:=a.2.1.ns,fs:=a.2.1.fs,F:=a.2.1.F,K:=a.2.1.K,L:=a.2.1.L,fc:=ovl a.2.1.fc 0 (jJK.f x_4.2)} a.2.2.1 a.1.2.2.1 (wr (a.1.2.2.2.1+1))/\ixM g.f.length (wr (a.1.2.2.2.1+1))<ixM g.f.length a.1.2.2.2.1) (EmP 1 0 1 1 e a.2.1)) (by kernel_rfl) (by
 have G:=h.b;refine⟨⟨_,h.fr.all⟩,fun x hx=>?_⟩;have e0:=h.fr.is hx;subst e0;refine⟨⟨6000-1,by omega,h.fr⟩,fun⟨k,f1⟩ ht=>?_⟩;have t:=ht.r (6000-1) (by omega) h.fr
 dsimp only at t ht ⊢
 have n1:f1.length=802:=t.2.n;have E:ovl e.fc 0 (jJK.f f1)=f1:=jM2 h.fr.n n1;rw[E];have sk:sm k:=jJH (by omega) (by omega);refine⟨by show 0+f1.length<=_;rw[n1,h.fr.n];omega,by omega,fun⟨_,e'⟩ hl=>?_⟩
 have M:EmP 1 0 1 1 e e':=EmP.fcl hl (one ⟨jJH (by simp) (by simp),jJH (by simp) (by simp),sk,jJH (by simp) (by simp),.inl rfl⟩) fun q hq hf=>by
  have:=(ht.r (6000-(q+1)) (by omega) hf).2
  rwa [show 6000-(q+1)+1=6000-q by omega]at this
 have st:∀{e':Em}{i:Int}{f:List C},EmP 1 0 1 1 e e'->(∀m,jJL e'.fc m->jJL f m)->0+(jJK.f f).length<=e'.fc.length/\EmP 1 0 1 1 e {e' with fc:=ovl e'.fc 0 (jJK.f f)}:=fun {e' i f} p hf=>by
  have b1:=(p.r 0 0 h).fr;have n1:f.length=802:=(hf _ b1).n;have E:ovl e'.fc 0 (jJK.f f)=f:=jM2 b1.n n1;rw[E];exact⟨by show 0+f.length<=_;rw[n1,b1.n];omega,p.fc hf⟩
 have b1:=(M.r 0 0 h).fr
 dsimp only
 refine⟨⟨_,b1.all⟩,fun x hx=>?_⟩;have e0:=b1.is hx;subst e0;refine⟨⟨⟨_,b1⟩,sk,jJH (by omega) (by omega)⟩,fun⟨_,f2⟩ h2=>?_⟩;have B:=st (i:=0) M h2;refine⟨B.1,⟨B.2,rfl,sk,by omega,by omega⟩,fun⟨⟨_,_,s,i,_⟩,e2,g',_⟩ ⟨q1,q2,q3,q4⟩=>?_⟩
 dsimp only at q1 q2 q3 q4 ⊢
 subst q2;have gn:=J.f.n;refine⟨fun G=>?_,fun _=>q1⟩;have nx:=q4.nx (by omega) G;have b2:=(q1.r 0 0 h).fr;have lo:=q4.lo;have hi:=q4.hi;refine⟨lo,J.f.r.at (q4.lt G),fun x hx=>⟨⟨_,b2.all⟩,fun x hx=>?_⟩⟩;have e0:=b2.is hx;subst e0;refine⟨⟨⟨_,b2⟩,q3,jJH (by omega) (by omega)⟩,fun⟨_,f2⟩ h2=>?_⟩;have B:=st (i:=0) q1 h2
 exact⟨B.1,⟨B.2,rfl,q3,nx.1⟩,nx.2⟩)
structure DrI (e e':Em) (i:Int):Prop where
 q1:EmP i.toNat 0 0 0 e e'
 q2:Ix 6000 i
def drT:Rl Av:=.cons 0 (tA 0) <| .cons 4 (tA 4) <| .cons 5 (tA 5) <| .cons 6 tI .nil
def drR:Rl Rt:=.cons 0 (rX 0 fE) <| .cons 4 (rX 1 fS) <| .cons 5 (rX 1 fS) .nil
def drH (e:Em):Hy:=⟨hE,[],[],[(2,.iv drT drR (fun a=>DrI e a.2.1 a.1.2.2.2.1) fun a=>ixM 6000 a.1.2.2.2.1)]⟩
theorem jY2 {e:Em}(h:EmB e 6000 0) (s t:S7):Tot T (cEm 6000 0 0 0 e True) 182 [pE e,pS s,pS t]:=vN (drH e) jLK Tryz.func182 (DrI e e 0/\∀(a:(Unit × Unit × Unit × Int × Unit) × Em × S7 × S7 × Unit),DrI e a.2.1 a.1.2.2.2.1->(∃(y:Int),gts a.2.1.fc 800 1=some [I y])/\∀(x:Int),gts a.2.1.fc 800 1=some [I x]->br (decide (a.1.2.2.2.1<x)) ((∃(y:List C),gts a.2.1.fc 0 802=some (jJK.f y))/\∀(x:List C),gts a.2.1.fc 0 802=some (jJK.f x)->(∃(y:Nat),jJL (jJK.f x) y)/\∀(x:Bool × Unit),True->br x.1 (x.1=true/\x.1=true/\x.1=true/\x.1=true/\x.1=true/\x.1=true/\(∃(y:List C),gts a.2.1.fc 0 802=some (jJK.f y))/\∀(x_1:List C),gts a.2.1.fc 0 802=some (jJK.f x_1)->(∃(y:Nat),jJL (jJK.f x_1) y)/\∀(x_2:Bool × Unit),True->x.1=true/\x.1=true/\br (!x_2.1) (a.2.1.L.length+1<=4000000000/\∀(x:Unit × Em),jJP a.2.1 [{o:=6,r:=0,x:=a.1.2.2.2.1,y:=0,p:=I 0}] x.2->DrI e x.2 (wr (a.1.2.2.2.1+1))/\ixM 6000 (wr (a.1.2.2.2.1+1))<ixM 6000 a.1.2.2.2.1) (DrI e a.2.1 (wr (a.1.2.2.2.1+1))/\ixM 6000 (wr (a.1.2.2.2.1+1))<ixM 6000 a.1.2.2.2.1)) (x.1=false/\x.1=false/\x.1=false/\x.1=false/\x.1=false/\x.1=false/\x.1=false/\x.1=false/\false=false/\DrI e a.2.1 (wr (a.1.2.2.2.1+1))/\ixM 6000 (wr (a.1.2.2.2.1+1))<ixM 6000 a.1.2.2.2.1)) (EmP 6000 0 0 0 e a.2.1)) (by kernel_rfl) (by
 refine⟨⟨EmP.refl 0 0 0 e,by omega,by omega⟩,fun⟨⟨_,_,_,i,_⟩,e',s1,s2,_⟩ ⟨q1,q2⟩=>?_⟩
 dsimp only at q1 q2 ⊢
 have lo:=q2.lo;have hi:=q2.hi;have b0:=q1.r (6000-i.toNat) 0 (h.up (by omega) (by omega));have b1:=b0.fr;have bl:=b0.b;refine⟨b1.ask (by omega),fun x hx=>⟨fun B=>?_,fun _=>q1.up (by omega) (by omega) (by omega) (by omega)⟩⟩;have hx:=b1.t x (jMG hx);have B:=dt B;have E:wr (i+1)=i+1:=by unfold wr;rw[IntKind.wrap_i64];omega
 have nx:∀{e2:Em},EmP 1 0 0 0 e' e2->DrI e e2 (wr (i+1))/\ixM 6000 (wr (i+1))<ixM 6000 i:=fun p=>by
  rw[E];refine⟨⟨(q1.trans p).up (by omega) (by omega) (by omega) (by omega),by omega,by omega⟩,by unfold ixM;omega⟩
 have n0:=nx (EmP.refl 1 0 0 e');refine⟨⟨_,b1.all⟩,fun x hx=>?_⟩;have e0:=b1.is hx;subst e0;refine⟨⟨_,b1⟩,fun⟨b,_⟩ _=>⟨fun B=>?_,fun B=>?_⟩⟩
 .dsimp only at B ⊢
  subst B;refine⟨rfl,rfl,rfl,rfl,rfl,rfl,⟨_,b1.all⟩,fun x hx=>?_⟩;have e0:=b1.is hx;subst e0;refine⟨⟨_,b1⟩,fun _ _=>⟨rfl,rfl,fun _=>⟨by omega,fun⟨_,e2⟩ hl=>nx (hl.p (one ⟨jJH (by simp) (by simp),jJH (by simp) (by simp),jJH (by dsimp only;omega) (by dsimp only;omega),jJH (by simp) (by simp),.inl rfl⟩))⟩,fun _=>n0⟩⟩
 .dsimp only at B ⊢
  subst B
  exact⟨rfl,rfl,rfl,rfl,rfl,rfl,rfl,rfl,rfl,n0⟩)
structure PlI (e:Em) (n r:Int) (e':Em) (r':Int) (l:List (List C)) (m i:Int):Prop where
 q1:EmP (2*i.toNat) 0 0 0 e e'
 q2:r'=r
 q3:l=(jm e.ns n).b
 q4:m=l.length
 q5:Ix l.length i
def plT:Rl Av:=.cons 0 (tA 0) <| .cons 2 tI <| .cons 7 (tA 7) <| .cons 37 (tR 1) <| .cons 38 tI <| .cons 39 tI .nil
def plRt:Rl Rt:=.cons 0 (rX 0 fE) <| .cons 7 (rX 1 fS) .nil
noncomputable def plH (e:Em) (n r:Int):Hy:=⟨hE,[],[],[(10,.iv plT plRt (fun a=>PlI e n r a.2.1 a.1.2.1 a.1.2.2.2.1 a.1.2.2.2.2.1 a.1.2.2.2.2.2.1) fun a=>ixM (jm e.ns n).b.length a.1.2.2.2.2.2.1)]⟩
theorem jWw {e:Em}(n:Int) {r:Int}(h:EmB e (2*(jm e.ns n).b.length+1) 0) (B:sm r) (s:S7):Tot T (cEm (2*(jm e.ns n).b.length+1) 0 0 0 e True) 146 [pE e,pI n,pI r,pS s]:=vN (plH e n r) jLK Tryz.func146 (Ns e.ns/\∀(x:N × Unit),NdX e.ns n x.1->br (decide (x.1.k=1)) ((EmB e 1 0/\inI x.1.n/\sm r)/\∀(x:Unit × Em),EmP 1 0 0 0 e x.2->EmP (2*(jm e.ns n).b.length+1) 0 0 0 e x.2) (br (decide (x.1.k=2)) ((EmB e 1 0/\inI 1/\sm r)/\∀(x:Unit × Em),EmP 1 0 0 0 e x.2->EmP (2*(jm e.ns n).b.length+1) 0 0 0 e x.2) (br (decide (x.1.k=5)) (PlI e n r e r x.1.b ↑x.1.b.length 0/\∀(a:(Unit × Int × Unit × List (List C) × Int × Int × Unit) × Em × S7 × Unit),PlI e n r a.2.1 a.1.2.1 a.1.2.2.2.1 a.1.2.2.2.2.1 a.1.2.2.2.2.2.1->br (decide (a.1.2.2.2.2.2.1<a.1.2.2.2.2.1)) (0<=a.1.2.2.2.2.2.1/\(∃(y:Int),a.1.2.2.2.1[Int.toNat a.1.2.2.2.2.2.1]? =some [I y])/\∀(x:Int),a.1.2.2.2.1[Int.toNat a.1.2.2.2.2.2.1]? =some [I x]->(EmB a.2.1 2 0/\sm a.1.2.1)/\∀(x:Unit × Em),EmP 2 0 0 0 a.2.1 x.2->PlI e n r x.2 a.1.2.1 a.1.2.2.2.1 a.1.2.2.2.2.1 (wr (a.1.2.2.2.2.2.1+1))/\ixM (jm e.ns n).b.length (wr (a.1.2.2.2.2.2.1+1))<ixM (jm e.ns n).b.length a.1.2.2.2.2.2.1) (EmP (2*(jm e.ns n).b.length+1) 0 0 0 e a.2.1)) ((EmB e 1 0/\inI 0/\sm r)/\∀(x:Unit × Em),EmP 1 0 0 0 e x.2->EmP (2*(jm e.ns n).b.length+1) 0 0 0 e x.2)))) (by kernel_rfl) (by
 refine⟨h.ns,fun⟨x,_⟩ ⟨ex,hx⟩=>?_⟩
 dsimp only at ex hx ⊢
 subst ex
 have nu:∀{k:Int},inI k->(EmB e 1 0/\inI k/\sm r)/\∀y:Unit × Em,EmP 1 0 0 0 e y.2->EmP (2*(jm e.ns n).b.length+1) 0 0 0 e y.2:=fun hk=>⟨⟨h.up (by omega) (by omega),hk,B⟩,fun y hy=>hy.up (by omega) (by omega) (by omega) (by omega)⟩
 have J:=hx.b.n;refine⟨fun _=>nu hx.i,fun _=>⟨fun _=>nu ⟨by omega,by omega⟩,fun _=>⟨fun _=>⟨⟨EmP.refl 0 0 0 e,rfl,rfl,rfl,by omega,by omega⟩,fun⟨⟨_,r',_,l,m,i,_⟩,e',s',_⟩ ⟨q1,q2,q3,q4,q5⟩=>?_⟩,fun _=>nu ⟨by omega,by omega⟩⟩⟩⟩
 dsimp only at q1 q2 q3 q4 q5 ⊢
 subst q2 q3 q4;have lo:=q5.lo;have hi:=q5.hi;refine⟨fun hb=>?_,fun _=>q1.up (by omega) (by omega) (by omega) (by omega)⟩;have nx:=q5.nx (by omega) hb;have G:=dt hb;have E:wr (i+1)=i+1:=by unfold wr;rw[IntKind.wrap_i64];omega
 have b0:=q1.r (2*(jm e.ns n).b.length+1-2*i.toNat) 0 (h.up (by omega) (by omega))
 exact⟨lo,hx.b.r.at (q5.lt hb),fun x hx=>⟨⟨b0.up (by omega) (by omega),B⟩,fun⟨_,e2⟩ p=>⟨⟨(q1.trans p).up (by rw[E];omega) (by omega) (by omega) (by omega),rfl,rfl,rfl,nx.1⟩,nx.2⟩⟩⟩)
structure BhI (e:Em) (n:Int) (e':Em) (n' j:Int):Prop where
 q1:e'=e
 q2:n'=n
 q3:Ix (jm e.ns n).s.length j
def bhT:Rl Av:=.cons 0 (tA 0) <| .cons 1 tI <| .cons 2 tI <| .cons 7 (tA 7) <| .cons 8 (tA 8) <| .cons 9 tB <| .cons 10 tI .nil
def bhR:Rl Rt:=.cons 0 (rX 3 fE) <| .cons 7 (rX 1 fS) <| .cons 8 (rX 1 fS) .nil
noncomputable def bhH (e:Em) (n:Int):Hy:=⟨hE,[],[],[(3,.iv bhT bhR (fun a=>BhI e n a.2.1 a.1.2.1 a.1.2.2.2.2.2.2.1) fun a=>ixM (jm e.ns n).s.length a.1.2.2.2.2.2.2.1)]⟩
theorem jZG {e:Em}(h:Ns e.ns) (n i:Int) (s:S7):Tot T (cS0 True) 186 [qE e,pI n,pI i,pS s]:=vF (bhH e n) jLK Tryz.func186 (Ns e.ns/\∀(x:Int × Unit),jKh e.ns n i x.1->Ns e.ns/\∀(x_1:Bool × Unit),jKx e.ns x.1 x_1.1->BhI e n e n 0/\∀(a:(Unit × Int × Int × Unit × Unit × Bool × Int × Unit) × Em × S7 × S7 × Unit),BhI e n a.2.1 a.1.2.1 a.1.2.2.2.2.2.2.1->Ns a.2.1.ns/\∀(x:N × Unit),NdX a.2.1.ns a.1.2.1 x.1->br (decide (a.1.2.2.2.2.2.2.1<↑x.1.s.length)) (Ns a.2.1.ns/\∀(x:Int × Unit),jKh a.2.1.ns a.1.2.1 a.1.2.2.2.2.2.2.1 x.1->Ns a.2.1.ns/\∀(x_2:Bool × Unit),jKx a.2.1.ns x.1 x_2.1->br (x_2.1 == a.1.2.2.2.2.2.1) (br (decide (a.1.2.2.2.2.2.2.1 >a.1.2.2.1)) (true=true/\Ns a.2.1.ns/\∀(x:S7 × Unit),True->True/\∀(x:S7 × Unit),True->BhI e n a.2.1 a.1.2.1 (wr (a.1.2.2.2.2.2.2.1+1))/\ixM (jm e.ns n).s.length (wr (a.1.2.2.2.2.2.2.1+1))<ixM (jm e.ns n).s.length a.1.2.2.2.2.2.2.1) (br (!x_2.1 == a.1.2.2.2.2.2.1) (br (!a.1.2.2.2.2.2.1) (Ns a.2.1.ns/\∀(x:S7 × Unit),True->True/\∀(x:S7 × Unit),True->BhI e n a.2.1 a.1.2.1 (wr (a.1.2.2.2.2.2.2.1+1))/\ixM (jm e.ns n).s.length (wr (a.1.2.2.2.2.2.2.1+1))<ixM (jm e.ns n).s.length a.1.2.2.2.2.2.2.1) (BhI e n a.2.1 a.1.2.1 (wr (a.1.2.2.2.2.2.2.1+1))/\ixM (jm e.ns n).s.length (wr (a.1.2.2.2.2.2.2.1+1))<ixM (jm e.ns n).s.length a.1.2.2.2.2.2.2.1)) (false=false/\BhI e n a.2.1 a.1.2.1 (wr (a.1.2.2.2.2.2.2.1+1))/\ixM (jm e.ns n).s.length (wr (a.1.2.2.2.2.2.2.1+1))<ixM (jm e.ns n).s.length a.1.2.2.2.2.2.2.1))) (br (!x_2.1 == a.1.2.2.2.2.2.1) (br (!a.1.2.2.2.2.2.1) (Ns a.2.1.ns/\∀(x:S7 × Unit),True->True/\∀(x:S7 × Unit),True->BhI e n a.2.1 a.1.2.1 (wr (a.1.2.2.2.2.2.2.1+1))/\ixM (jm e.ns n).s.length (wr (a.1.2.2.2.2.2.2.1+1))<ixM (jm e.ns n).s.length a.1.2.2.2.2.2.2.1) (BhI e n a.2.1 a.1.2.1 (wr (a.1.2.2.2.2.2.2.1+1))/\ixM (jm e.ns n).s.length (wr (a.1.2.2.2.2.2.2.1+1))<ixM (jm e.ns n).s.length a.1.2.2.2.2.2.2.1)) (false=false/\BhI e n a.2.1 a.1.2.1 (wr (a.1.2.2.2.2.2.2.1+1))/\ixM (jm e.ns n).s.length (wr (a.1.2.2.2.2.2.2.1+1))<ixM (jm e.ns n).s.length a.1.2.2.2.2.2.2.1))) True) (by kernel_rfl) (by
 refine⟨h,fun _ _=>⟨h,fun _ _=>⟨⟨rfl,rfl,by omega,by omega⟩,fun⟨⟨_,n',i',_,_,p,j,_⟩,e',s1,s2,_⟩ ⟨q1,q2,q3⟩=>?_⟩⟩⟩
 dsimp only at q1 q2 q3 ⊢
 subst q1 q2;refine⟨h,fun⟨x,_⟩ ⟨ex,hx⟩=>?_⟩
 dsimp only at ex hx ⊢
 subst ex;refine⟨fun hb=>?_,fun _=>trivial⟩;have nx:=q3.nx (by have:=hx.s.n;omega) hb
 have n1:BhI e' n' e' n' (wr (j+1)):=⟨rfl,rfl,nx.1⟩
 simp[br,h,n1,nx.2])
structure LmI (e:Em) (n:Int) (e':Em) (n' k j:Int):Prop where
 q1:e'=e
 q2:n'=n
 q3:Ix (jm e.ns n).s.length j
 q4:sm k
def lmT:Rl Av:=.cons 0 (tA 0) <| .cons 1 tI <| .cons 5 tI <| .cons 6 tI .nil
def lmR:Rl Rt:=.cons 0 (rX 3 fE) .nil
noncomputable def lmH (e:Em) (n:Int):Hy:=⟨hE,[],[],[(3,.iv lmT lmR (fun a=>LmI e n a.2.1 a.1.2.1 a.1.2.2.1 a.1.2.2.2.1) fun a=>ixM (jm e.ns n).s.length a.1.2.2.2.1)]⟩
theorem jXG {e:Em}(h:Ns e.ns) (n:Int):Tot T (mkc rI b0 (fun k _=>sm k) True) 183 [qE e,pI n]:=vF (lmH e n) jLK Tryz.func183 (LmI e n e n ((-1)) 0/\∀(a:(Unit × Int × Int × Int × Unit) × Em × Unit),LmI e n a.2.1 a.1.2.1 a.1.2.2.1 a.1.2.2.2.1->Ns a.2.1.ns/\∀(x:N × Unit),NdX a.2.1.ns a.1.2.1 x.1->br (decide (a.1.2.2.2.1<↑x.1.s.length)) (Ns a.2.1.ns/\∀(x:Int × Unit),jKh a.2.1.ns a.1.2.1 a.1.2.2.2.1 x.1->Ns a.2.1.ns/\∀(x_1:Bool × Unit),jKx a.2.1.ns x.1 x_1.1->br (!x_1.1) (LmI e n a.2.1 a.1.2.1 a.1.2.2.2.1 (wr (a.1.2.2.2.1+1))/\ixM (jm e.ns n).s.length (wr (a.1.2.2.2.1+1))<ixM (jm e.ns n).s.length a.1.2.2.2.1) (LmI e n a.2.1 a.1.2.1 a.1.2.2.1 (wr (a.1.2.2.2.1+1))/\ixM (jm e.ns n).s.length (wr (a.1.2.2.2.1+1))<ixM (jm e.ns n).s.length a.1.2.2.2.1)) (sm a.1.2.2.1)) (by kernel_rfl) (by
 refine⟨⟨rfl,rfl,⟨by omega,by omega⟩,by omega,by omega⟩,fun⟨⟨_,n',k,j,_⟩,e',_⟩ ⟨q1,q2,q3,q4⟩=>?_⟩
 dsimp only at q1 q2 q3 q4 ⊢
 subst q1 q2;refine⟨h,fun⟨x,_⟩ ⟨ex,hx⟩=>?_⟩
 dsimp only at ex hx ⊢
 subst ex;have sn:=hx.s.n;have lo:=q3.lo;have hi:=q3.hi;refine⟨fun hb=>?_,fun _=>q4⟩;have nx:=q3.nx (by omega) hb
 exact⟨h,fun _ _=>⟨h,fun _ _=>⟨fun _=>⟨⟨rfl,rfl,nx.1,jJH (by omega) (by omega)⟩,nx.2⟩,fun _=>⟨⟨rfl,rfl,nx.1,q4⟩,nx.2⟩⟩⟩⟩)
theorem Rw.pln {p:Int->Prop}{l:List (List C)}(h:Rw fI p l):pln l:=List.all_eq_true.2 fun e he=>by
 obtain⟨x,hx,_⟩:=h e he;rw[hx];rfl
structure Nq (l:List (List C)):Prop where
 r:Nr l
 n:l.length<=448
structure LsI (l:List (List C)) (i:Int):Prop where
 q1:Rw fI inI l
 q2:l.length<=i
 q3:Ix 448 i
def lsT:Rl Av:=.cons 1 (tA 1) <| .cons 3 (tL 3) <| .cons 4 tI .nil
def lsR:Rl Rt:=.cons 1 (rX 1 fS) <| .cons 3 (rX 2 (fO 1)) .nil
def lsH:Hy:=⟨hE,[],[],[(3,.iv lsT lsR (fun a=>LsI a.2.2.1 a.1.2.2.1) fun a=>ixM 448 a.1.2.2.1)]⟩
theorem jXk (s:S7):Tot T (mkc (rR 1) b0 (fun l _=>Nq l) True) 187 [pS s]:=vR lsH jLK [(2,0)] [false] Tryz.func187 (LsI [] 0/\∀(a:(Unit × Unit × Int × Unit) × S7 × List (List C) × Unit),LsI a.2.2.1 a.1.2.2.1->br (decide (a.1.2.2.1<448)) (inI a.1.2.2.1/\∀(x:Bool × Unit),True->br x.1 (List.length a.2.2.1+1<=4000000000/\LsI (a.2.2.1 ++(List.replicate 1 [iz IntKind.i64]).set 0 [I a.1.2.2.1]) (wr (a.1.2.2.1+1))/\ixM 448 (wr (a.1.2.2.1+1))<ixM 448 a.1.2.2.1) (LsI a.2.2.1 (wr (a.1.2.2.1+1))/\ixM 448 (wr (a.1.2.2.1+1))<ixM 448 a.1.2.2.1)) (pln a.2.2.1/\Nq a.2.2.1)) (by kernel_rfl) (by
 refine⟨⟨Rw.nil,by simp,by omega,by omega⟩,fun⟨⟨_,_,i,_⟩,s',l,_⟩ ⟨q1,q2,q3⟩=>?_⟩
 dsimp only at q1 q2 q3 ⊢
 have lo:=q3.lo;have hi:=q3.hi;refine⟨fun hb=>?_,fun _=>⟨Rw.pln q1,⟨q1,by omega⟩,by omega⟩⟩;have nx:=q3.nx (by omega) hb;have G:=dt hb;have E:wr (i+1)=i+1:=by unfold wr;rw[IntKind.wrap_i64];omega
 have B:inI i:=⟨by omega,by omega⟩
 refine⟨B,fun _ _=>⟨fun _=>⟨by omega,⟨q1.app (Rw.one (S:=fI) (x:=i) B),?_,nx.1⟩,nx.2⟩,fun _=>⟨⟨q1,by omega,nx.1⟩,nx.2⟩⟩⟩;rw[E];show((l ++[[I i]]).length:Int)<=i+1;rw[List.length_append];simp
 omega)
end V
end Go.Proofs.YtnhbcdnmfafbiaaGreatDoor
set_option maxRecDepth 100000
namespace Go.Proofs.YtnhbcdnmfafbiaaGreatDoor
namespace V
open Go.Proofs
theorem jKC {ns:List (List C)}{n:Int}(hn:0<=n) (i:Int):jnF ns n i<n:=by
 unfold jnF
 split
 .rename_i h;exact h.2.2
 .omega
theorem jLj {f g:Nat->Nat}:∀{j:Nat},(∀i,f i=g i)->jJN f j=jJN g j
 |0,_=>rfl
 |j+1,h=>by simp only[jJN,h j,jLj h]
theorem jKO (f:Nat->Nat) {j m:Nat}(h:j<=m):jJN f j<=jJN f m:=by
 induction m with
 |zero=>rw[show j=0 by omega];exact Nat.le_refl _
 |succ m ih=>
  by_cases e:j=m+1
  .rw[e];exact Nat.le_refl _
  .have:=ih (by omega);simp only[jJN];omega
theorem jUy (ns:List (List C)):∀(f:Nat) (k:Int),(k+1).toNat<=f->wtF ns f k=wtF ns (k+1).toNat k:=by
 intro f
 induction f using Nat.strongRecOn with
 |_ f ih=>
  intro k hk
  by_cases h0:k<0
  .have e:(k+1).toNat=0:=by omega
   rw[e]
   cases f with
   |zero=>rfl
   |succ f=>simp only[wtF];rw[if_pos h0]
  .have e:(k+1).toNat=k.toNat+1:=by omega
   rw[e]
   cases f with
   |zero=>omega
   |succ f=>
    simp only[wtF];rw[if_neg h0,if_neg h0]
    have:∀i:Nat,wtF ns f (jnF ns k i)=wtF ns k.toNat (jnF ns k i):=fun i=>by
     have hl:=jKC (ns:=ns) (n:=k) (by omega) i;rw[ih f (by omega) _ (by omega)]
     by_cases hf:k.toNat<f+1
     .rw[ih k.toNat (by omega) (jnF ns k i) (by omega)]
     .omega
    rw[jLj this]
theorem jTt (ns:List (List C)):∀(f:Nat) (k:Int),(k+1).toNat<=f->fwF ns f k=fwF ns (k+1).toNat k:=by
 intro f
 induction f using Nat.strongRecOn with
 |_ f ih=>
  intro k hk
  by_cases h0:k<0
  .have e:(k+1).toNat=0:=by omega
   rw[e]
   cases f with
   |zero=>rfl
   |succ f=>simp only[fwF];rw[if_pos h0]
  .have e:(k+1).toNat=k.toNat+1:=by omega
   rw[e]
   cases f with
   |zero=>omega
   |succ f=>
    simp only[fwF];rw[if_neg h0,if_neg h0]
    have:∀i:Int,fwF ns f (jnF ns k i)=fwF ns k.toNat (jnF ns k i):=fun i=>by
     have hl:=jKC (ns:=ns) (n:=k) (by omega) i;rw[ih f (by omega) _ (by omega)]
     by_cases hf:k.toNat<f+1
     .rw[ih k.toNat (by omega) (jnF ns k i) (by omega)]
     .omega
    rw[this 0,jLj fun i=>this i]
noncomputable def jJT (ns:List (List C)) (n:Int) (j:Nat):Nat:=jJN (fun i=>wt ns (jnF ns n i)) j
noncomputable def jKc (ns:List (List C)) (n:Int) (j:Nat):Nat:=jJN (fun i=>fwt ns (jnF ns n i)) j
theorem jS2 (ns:List (List C)) (n:Int) (j:Nat):jJT ns n (j+1)=jJT ns n j+wt ns (jnF ns n j):=rfl
theorem jYA (ns:List (List C)) (n:Int) (j:Nat):jKc ns n (j+1)=jKc ns n j+fwt ns (jnF ns n j):=rfl
theorem jS3 (ns:List (List C)) (n:Int) {j m:Nat}(h:j<=m):jJT ns n j<=jJT ns n m:=jKO _ h
theorem jYB (ns:List (List C)) (n:Int) {j m:Nat}(h:j<=m):jKc ns n j<=jKc ns n m:=jKO _ h
theorem jOK {ns:List (List C)}{n:Int}(hn:0<=n):4+(jm ns n).b.length+(jm ns n).s.length<=wt ns n:=by
 unfold wt;rw[show(n+1).toNat=n.toNat+1 by omega];simp only[wtF];rw[if_neg (by omega)];omega
theorem jLT {ns:List (List C)}{n:Int}(hn:0<=n) (hk:(jm ns n).k≠12):wt ns n=4+(jm ns n).b.length+(jm ns n).s.length+jJT ns n (jm ns n).s.length:=by
 unfold wt jJT;rw[show(n+1).toNat=n.toNat+1 by omega];simp only[wtF];rw[if_neg (by omega),if_neg hk]
 congr 1
 refine jLj fun i=>?_;have hl:=jKC (ns:=ns) hn i;exact jUy ns _ _ (by omega)
theorem jMH {ns:List (List C)}{n:Int}(hn:0<=n) (hk:(jm ns n).k≠12):fwt ns n=jKc ns n (jm ns n).s.length:=by
 unfold jKc;rw[show fwt ns n=fwF ns (n.toNat+1) n by unfold fwt;rw[show(n+1).toNat=n.toNat+1 by omega]];simp only[fwF];rw[if_neg (by omega),if_neg hk];refine jLj fun i=>?_;have hl:=jKC (ns:=ns) hn i;exact jTt ns _ _ (by omega)
theorem jTs {ns:List (List C)}{n:Int}(hn:0<=n) (hk:(jm ns n).k=12):fwt ns n=1+(jm ns n).b.length+wt ns (jnF ns n 0)+fwt ns (jnF ns n 0):=by
 rw[show fwt ns n=fwF ns (n.toNat+1) n by unfold fwt;rw[show(n+1).toNat=n.toNat+1 by omega]];simp only[fwF];rw[if_neg (by omega),if_pos hk];have hl:=jKC (ns:=ns) hn 0;rw[jTt ns n.toNat _ (by omega)];rfl
theorem jOJ (ns:List (List C)) {n:Int}(h:n<0):wt ns n=1:=by
 unfold wt;rw[show(n+1).toNat=0 by omega];rfl
theorem jYx (ns:List (List C)) {n:Int}(h:n<0):fwt ns n=0:=by
 unfold fwt;rw[show(n+1).toNat=0 by omega];rfl
theorem jMh (ns:List (List C)) (n:Int):1<=wt ns n:=by
 by_cases h:0<=n
 .have:=jOK (ns:=ns) h;omega
 .rw[jOJ ns (by omega)];exact Nat.le_refl _
theorem jS6 {ns:List (List C)}{n i:Int}(h:i<0\/(jm ns n).s.length<=i):jnF ns n i= -1:=by
 unfold jnF;rw[if_neg (by omega)]
theorem jH {f:Nat->Nat}{d S:Nat}(out:∀i,S<=i->f i=d):f 0+f 1+f 2<=jJN f S+3*d:=by
 have k0:jJN f 1=jJN f 0+f 0:=rfl;have M:jJN f 2=jJN f 1+f 1:=rfl;have O:jJN f 3=jJN f 2+f 2:=rfl;have z:jJN f 0=0:=rfl;have J:=out 0;have E:=out 1;have B:=out 2
 by_cases h0:S<=0
 .have:=J h0;have:=E (by omega);have:=B (by omega);omega
 by_cases G:S<=1
 .have:=E G;have:=B (by omega)
  have:=jKO f (j:=1) (m:=S) (by omega);omega
 by_cases h2:S<=2
 .have:=B h2
  have:=jKO f (j:=2) (m:=S) (by omega);omega
 have:=jKO f (j:=3) (m:=S) (by omega);omega
theorem wt3 {ns:List (List C)}{n:Int}(hn:0<=n) (hk:(jm ns n).k≠12):wt ns (jnF ns n 0)+wt ns (jnF ns n 1)+wt ns (jnF ns n 2)+(jm ns n).b.length+1<=wt ns n:=by
 have e:=jLT (ns:=ns) hn hk;have s:wt ns (jnF ns n 0)+wt ns (jnF ns n 1)+wt ns (jnF ns n 2)<=jJT ns n (jm ns n).s.length+3*1:=jH (f:=fun i:Nat=>wt ns (jnF ns n i)) fun i hi=>by show wt ns (jnF ns n i)=1;rw[jS6 (.inr (by omega))];exact jOJ ns (by omega)
 omega
theorem fw3 {ns:List (List C)}{n:Int}(hn:0<=n) (hk:(jm ns n).k≠12):fwt ns (jnF ns n 0)+fwt ns (jnF ns n 1)+fwt ns (jnF ns n 2)<=fwt ns n:=by
 have e:=jMH (ns:=ns) hn hk;have s:fwt ns (jnF ns n 0)+fwt ns (jnF ns n 1)+fwt ns (jnF ns n 2)<=jKc ns n (jm ns n).s.length+3*0:=jH (f:=fun i:Nat=>fwt ns (jnF ns n i)) fun i hi=>by show fwt ns (jnF ns n i)=0;rw[jS6 (.inr (by omega))];exact jYx ns (by omega)
 omega
structure Wn where
 (r:Int)
 (l:Bool)
 (s:S7)
def fW:Pz (List C):=⟨Wn,fun w=>I w.r :: .b w.l ::fS.f w.s,fun l=>match l with
 | .i .i64 r :: .b l ::s=>match fS.un s with
   |some s=>some ⟨r,l,s⟩
   |none=>none
 |_=>none,fun b x e=>by
  split at e
  .split at e
   .rename_i h;cases e;rw[fS.ok _ _ h];rfl
   .cases e
  .cases e⟩
def pW (w:Wn):Arg:=.pl (.ag (fW.f w))
def btw (e:Em) (k r o a b:Int) (p:C):Prop:=e.L.length+1<=4000000000/\∀x:Unit × Em,jJP e [⟨o,r,a,b,p⟩] x.2->(decide (k=19)=true->x.2.L.length+1<=4000000000/\∀y:Unit × Em,jJP x.2 [⟨16,r,r,0,I 0⟩] y.2->EmP 2 0 0 0 e y.2)/\(decide (k=19)=false->EmP 2 0 0 0 e x.2)
theorem jZz {e:Em}{k r:Int}(h:EmB e 2 0) (B:sm r) {o a b:Int}{p:C}(J:sm o) (ha:sm a) (G:sm b) (hp:p=I 0\/p= .ui/\pop o=true):btw e k r o a b p:=by
 have hl:=h.b;refine⟨by omega,fun⟨_,e1⟩ l1=>?_⟩;have E:=l1.p (one ⟨J,B,ha,G,hp⟩);have b1:=(E.r 1 0 h).b
 dsimp only at b1 ⊢
 exact⟨fun _=>⟨by omega,fun⟨_,e2⟩ l2=>E.trans (l2.p (one ⟨jJH (by simp) (by simp),B,B,jJH (by simp) (by simp),.inl rfl⟩))⟩,fun _=>E.up (by simp) (by omega) (by omega) (by omega)⟩
theorem jZF {e:Em}{k r:Int}(h:EmB e 2 0) (B:sm r):Tot T (cEm 2 0 0 0 e True) 189 [pE e,pI k,pI r,.pl (.c .ui)]:=vN (⟨hE,[],[],[]⟩) jLK Tryz.func189 (br (decide (k=30)) (btw e k r 7 0 1 (I 0)) (br (decide (k=31)) (btw e k r 8 0 1 (I 0)) (br (decide (k=32)) (btw e k r 9 0 1 (I 0)) (br (decide (k=33)) (btw e k r 10 0 1 (.ui)) (br (decide (k=34)) (btw e k r 11 0 1 (.ui)) (br (decide (k=27)) (true=true/\btw e k r 12 0 1 (I 0)) (br (decide (k=19)) (btw e k r 12 0 1 (I 0)) (br (decide (k=28)) (btw e k r 13 0 1 (I 0)) (br (decide (k=20)) (btw e k r 14 0 1 (I 0)) (br (decide (k=29)) (btw e k r 13 1 0 (I 0)) (br (decide (k=21)) (btw e k r 14 1 0 (I 0)) (btw e k r 0 0 1 (I 0))))))))))))) (by kernel_rfl) (by
 have b:∀(o x y:Int) (p:C),(0<=o/\o<=100)/\(0<=x/\x<=1)/\(0<=y/\y<=1)->(p=I 0\/p= .ui/\pop o=true)->btw e k r o x y p:=fun o x y p q hp=>jZz h B (jJH (by omega) (by omega)) (jJH (by omega) (by omega)) (jJH (by omega) (by omega)) hp
 repeat' first|exact b _ _ _ _ (by decide) (.inl rfl)|exact⟨rfl,b _ _ _ _ (by decide) (.inl rfl)⟩|exact b _ _ _ _ (by decide) (.inr ⟨rfl,rfl⟩)|exact⟨rfl,b _ _ _ _ (by decide) (.inr ⟨rfl,rfl⟩)⟩|refine⟨fun _=>?_,fun _=>?_⟩)
def aU:Pz Arg:=⟨Unit,fun _=>.pl (.c .ui),fun x=>match x with
 | .pl (.c .ui)=>some ()
 |_=>none,fun b x e=>by split at e <;> cases e;rfl⟩
noncomputable def ctO:Cts:=ctp 189 (kA (aC (aP fE) <|aC aI <|aC aI <|aC aU aN) fun a=>cEm 2 0 0 0 a.1 (EmB a.1 2 0/\sm a.2.2.1)) <|ctp 48 (kA (aC (aP fE) <|aC (aG fG) aN) fun a=>cEm 1 0 1 1 a.1 (EmB a.1 1 1/\GOk a.2.1)) <|ctp 182 (kA (aC (aP fE) <|aC (aG fS) <|aC (aG fS) aN) fun a=>cEm 6000 0 0 0 a.1 (EmB a.1 6000 0)) <|ctp 146 (kA (aC (aP fE) <|aC aI <|aC aI <|aC (aG fS) aN) fun a=>cEm (2*(jm a.1.ns a.2.1).b.length+1) 0 0 0 a.1 (EmB a.1 (2*(jm a.1.ns a.2.1).b.length+1) 0/\sm a.2.2.1)) <|ctp 186 (kA (aC (aQ fE) <|aC aI <|aC aI <|aC (aG fS) aN) fun a=>cS0 (Ns a.1.ns)) <|ctp 183 (kA (aC (aQ fE) <|aC aI aN) fun a=>mkc rI b0 (fun k _=>sm k) (Ns a.1.ns)) <|ctp 187 (kA (aC (aG fS) aN) fun a=>mkc (rR 1) b0 (fun l _=>Nq l) True) ctM
theorem jQv:Good T ctO:=by
 unfold ctO;refine Good.add (Good.add (Good.add (Good.add (Good.add (Good.add (Good.add jLK ?_) ?_) ?_) ?_) ?_) ?_) ?_
 .rintro a -;exact jXk _
 .rintro a h;exact jXG h _
 .rintro a h;exact jZG h _ _ _
 .rintro a ⟨h1,h2⟩;exact jWw _ h1 h2 _
 .rintro a h;exact jY2 h _ _
 .rintro a ⟨h1,h2⟩;exact jXV h1 h2
 .rintro a ⟨h1,h2⟩;exact jZF h1 h2
def op1 (e:Em) (r o a b:Int) (p:C):Prop:=e.L.length+1<=4000000000/\∀x:Unit × Em,jJP e [⟨o,r,a,b,p⟩] x.2->EmP 2 0 0 0 e x.2
theorem jSl {e:Em}(n:Int) {r:Int}(h:EmB e 2 0) (B:sm r):Tot T (cEm 2 0 0 0 e True) 144 [pE e,pI n,pI r]:=vN (⟨hE,[],[],[]⟩) jQv Tryz.func144 (Ns e.ns/\∀(x:N × Unit),NdX e.ns n x.1->br (decide (x.1.k=13)) (op1 e r 15 0 0 (I 0)) (br (decide (x.1.k=14)) (op1 e r 16 0 0 (I 0)) (br (decide (x.1.k=22)) (op1 e r 26 0 0 (I 0)) (br (decide (x.1.k=20)) (op1 e r 24 0 1 (.ui)) (br (decide (x.1.k=23)) (op1 e r 23 0 1 (.ui)) ((EmB e 2 0/\sm r)/\∀(x:Unit × Em),EmP 2 0 0 0 e x.2->EmP 2 0 0 0 e x.2)))))) (by kernel_rfl) (by
 have E:=h.b
 have o:∀(o a b:Int) (p:C),(0<=o/\o<=100)/\(0<=a/\a<=1)/\(0<=b/\b<=1)->(p=I 0\/p= .ui/\pop o=true)->op1 e r o a b p:=fun o a b p q hp=>⟨by omega,fun x hl=>(hl.p (one ⟨jJH (by dsimp only;omega) (by dsimp only;omega),B,jJH (by dsimp only;omega) (by dsimp only;omega),jJH (by dsimp only;omega) (by dsimp only;omega),hp⟩)).up (by simp) (by omega) (by omega) (by omega)⟩
 refine⟨h.ns,fun x _=>?_⟩
 repeat' first|exact o _ _ _ _ (by decide) (.inl rfl)|exact o _ _ _ _ (by decide) (.inr ⟨rfl,rfl⟩)|exact⟨⟨h,B⟩,fun _ h=>h⟩|refine⟨fun _=>?_,fun _=>?_⟩)
def CC:Nat:=24000
noncomputable def cPt (e:Em) (n:Int) (p:Prop):Ct:=cEm (CC*wt e.ns n) (fwt e.ns n) 0 (wt e.ns n) e p
structure jLO (m:Nat) (e:Em) (n:Int) (w:Wn):Prop where
 m:(n+1).toNat<m
 r:sm w.r
 h:EmB e (CC*wt e.ns n) (wt e.ns n)
noncomputable def ctR (m:Nat):Cts:=ctp 50 (kA (aC (aP fE) <|aC aI <|aC (aG fW) aN) fun a=>cPt a.1 a.2.1 (jLO m a.1 a.2.1 a.2.2.1)) <|ctp 144 (kA (aC (aP fE) <|aC aI <|aC aI aN) fun a=>cEm 2 0 0 0 a.1 (EmB a.1 2 0/\sm a.2.2.1)) ctO
structure FsI (e:Em) (n:Int) (e':Em) (n' i:Int):Prop where
 q1:e'=e
 q2:n'=n
 q3:Ix ((jm e.ns n).s.length+1) i
def fsT:Rl Av:=.cons 0 (tA 0) <| .cons 1 tI <| .cons 6 (tA 6) <| .cons 7 tI .nil
def fsR:Rl Rt:=.cons 0 (rX 0 fE) <| .cons 6 (rX 1 fS) .nil
noncomputable def fsH (e:Em) (n:Int):Hy:=⟨hE,[],[],[(3,.iv fsT fsR (fun a=>FsI e n a.2.1 a.1.2.1 a.1.2.2.2.1) fun a=>ixM ((jm e.ns n).s.length+1) a.1.2.2.2.1)]⟩
theorem jYK {m:Nat}(ctR_ok:Good T (ctR m)) {e:Em}{n:Int}(hn:0<=n) (hm:(n+1).toNat<=m) (w:Wn) (h:EmB e (CC*wt e.ns (jnF e.ns n 0)) (wt e.ns (jnF e.ns n 0))):Tot T (cPt e (jnF e.ns n 0) True) 97 [pE e,pI n,pW w]:=vN (fsH e n) (ctR_ok) Tryz.func97 (FsI e n e n 1/\∀(a:(Unit × Int × Unit × Int × Unit) × Em × S7 × Unit),FsI e n a.2.1 a.1.2.1 a.1.2.2.2.1->Ns a.2.1.ns/\∀(x:N × Unit),NdX a.2.1.ns a.1.2.1 x.1->br (decide (a.1.2.2.2.1<↑x.1.s.length)) (Ns a.2.1.ns/\∀(x:Int × Unit),jKh a.2.1.ns a.1.2.1 a.1.2.2.2.1 x.1->Ns a.2.1.ns/\∀(x:S7 × Unit),True->True/\∀(x:S7 × Unit),True->FsI e n a.2.1 a.1.2.1 (wr (a.1.2.2.2.1+1))/\ixM ((jm e.ns n).s.length+1) (wr (a.1.2.2.2.1+1))<ixM ((jm e.ns n).s.length+1) a.1.2.2.2.1) (Ns a.2.1.ns/\∀(x:Int × Unit),jKh a.2.1.ns a.1.2.1 0 x.1->jLO m a.2.1 x.1 {r:=0,l:=false,s:=a.2.2.1}/\∀(x_1:Unit × Em),EmP (CC*wt a.2.1.ns x.1) (fwt a.2.1.ns x.1) 0 (wt a.2.1.ns x.1) a.2.1 x_1.2->EmP (CC*wt e.ns (jnF e.ns n 0)) (fwt e.ns (jnF e.ns n 0)) 0 (wt e.ns (jnF e.ns n 0)) e x_1.2)) (by kernel_rfl) (by
 refine⟨⟨rfl,rfl,by omega,by omega⟩,fun⟨⟨_,n',_,i,_⟩,e',s',_⟩ ⟨q1,q2,q3⟩=>?_⟩
 dsimp only at q1 q2 q3 ⊢
 subst q1 q2;refine⟨h.ns,fun⟨x,_⟩ ⟨ex,hx⟩=>?_⟩
 dsimp only at ex hx ⊢
 subst ex;have sn:=hx.s.n;refine⟨fun hb=>?_,fun _=>⟨h.ns,fun⟨k,_⟩ ⟨ek,_⟩=>?_⟩⟩
 .have hb':=dt hb
  have nx:=q3.nx (by omega) (decide_eq_true (by omega));exact⟨h.ns,fun _ _=>⟨h.ns,fun _ _=>⟨trivial,fun _ _=>⟨⟨rfl,rfl,nx.1⟩,nx.2⟩⟩⟩⟩
 .dsimp only at ek ⊢
  subst ek;have:=jKC (ns:=e'.ns) hn 0
  exact⟨⟨by omega,jJH (by simp) (by simp),h⟩,fun _ p=>p⟩)
end V
end Go.Proofs.YtnhbcdnmfafbiaaGreatDoor
set_option maxRecDepth 100000
namespace Go.Proofs.YtnhbcdnmfafbiaaGreatDoor
namespace V
open Go.Proofs
noncomputable def mk (ns:List (List C)) (n:Int) (i:Nat):Nat:=if jMZ ns (jnF ns n i) then 0 else CC*wt ns (jnF ns n i)+1
noncomputable def xk (ns:List (List C)) (n:Int) (i:Nat):Nat:=if jMZ ns (jnF ns n i) then 2*(jm ns (jnF ns n i)).b.length+1 else 1
theorem jB (ns:List (List C)) (n:Int):2*(jm ns n).b.length+1<=2*wt ns n:=by
 by_cases h:0<=n
 .have:=jOK (ns:=ns) h;omega
 .rw[jM9 (.inl (by omega)),jOJ ns (by omega)];simp[nd0]
theorem jPL (ns:List (List C)) (n:Int):∀j,jJN (mk ns n) j+jJN (xk ns n) j<=CC*jJT ns n j+2*j
 |0=>by simp[jJN]
 |j+1=>by
  have ih:=jPL ns n j;have b:=jB ns (jnF ns n j);have p:=jMh ns (jnF ns n j);have e:=jS2 ns n j;simp only[jJN]
  have:mk ns n j+xk ns n j<=CC*wt ns (jnF ns n j)+2:=by
   unfold mk xk
   split
   .unfold CC;omega
   .omega
  rw[e,Nat.mul_add];omega
theorem sm8 (n:Int):sm (n.tmod 8):=by
 have B:=Int.lt_tmod_of_pos n (b:=8) (by omega);have h2:=Int.tmod_lt_of_pos n (b:=8) (by omega);exact jJH (by omega) (by omega)
theorem tl {B:Em}{r:Int}{Q:Em->Prop}(h:EmB B 1 1) (J:sm r) (G:∀e2,EmP 1 0 1 1 B e2->Q e2):(∃y:List C,gts B.fc 0 802=some (jJK.f y))/\∀x:List C,gts B.fc 0 802=some (jJK.f x)->(∃y:Nat,y<6000/\jJL (jJK.f x) y)/\∀a:Int × List C,jMc (jJK.f x) a.1 a.2->0+(jJK.f a.2).length<=B.fc.length/\B.L.length+1<=4000000000/\∀x:Unit × Em,jJP {ns:=B.ns,fs:=B.fs,F:=B.F,K:=B.K,L:=B.L,fc:=ovl B.fc 0 (jJK.f a.2)} [{o:=5,r:=r,x:=a.1,y:=0,p:=I 0}] x.2->Q x.2:=by
 have M:=h.b;refine⟨⟨_,h.fr.all⟩,fun x hx=>?_⟩;have e0:=h.fr.is hx;subst e0;refine⟨⟨6000-1,by omega,h.fr⟩,fun⟨k,f1⟩ ht=>?_⟩;have t:=ht.r (6000-1) (by omega) h.fr
 dsimp only at t ht ⊢
 have n1:f1.length=802:=t.2.n;have E:ovl B.fc 0 (jJK.f f1)=f1:=jM2 h.fr.n n1;rw[E];refine⟨by show 0+f1.length<=_;rw[n1,h.fr.n];omega,by omega,fun⟨_,e'⟩ hl=>G _ ?_⟩
 exact EmP.fcl hl (one ⟨jJH (by simp) (by simp),J,jJH (by dsimp only;omega) (by dsimp only;omega),jJH (by simp) (by simp),.inl rfl⟩) fun q hq hf=>by
  have:=(ht.r (6000-(q+1)) (by omega) hf).2
  rwa [show 6000-(q+1)+1=6000-q by omega]at this
theorem EmP.top {k w j r:Nat}{e B:Em}{y:Int}(h:EmP k w j r e B) (hy:gts e.fc 800 1=some [I y]):EmP k w 0 r e {B with fc:=ovl B.fc 800 [I y]}:=⟨fun b q hb=>by
 have E:=h.r b q hb;have h2:=hb.fr.t y (jMG hy);have G:=hb.q
 exact {E with fr:=E.fr.set (jJH (by omega) (by omega)) (.inl rfl) (fun _=>by omega) (by omega),q:=by omega},by omega,h.ns,h.F,h.g⟩
noncomputable def cMa (e:Em) (n:Int) (p:Prop):Ct:=cEm (jJN (mk e.ns n) (jm e.ns n).s.length) (jKc e.ns n (jm e.ns n).s.length) (jm e.ns n).s.length (jJT e.ns n (jm e.ns n).s.length+(jm e.ns n).s.length) e p
structure MaI (e:Em) (n:Int) (e':Em) (n' i:Int):Prop where
 q1:EmP (jJN (mk e.ns n) i.toNat) (jKc e.ns n i.toNat) i.toNat (jJT e.ns n i.toNat+i.toNat) e e'
 q2:n'=n
 q3:Ix (jm e.ns n).s.length i
def maT:Rl Av:=.cons 0 (tA 0) <| .cons 1 tI <| .cons 2 tI <| .cons 3 tI <| .cons 9 (tA 9) <| .cons 10 tI .nil
def maR:Rl Rt:=.cons 0 (rX 0 fE) <| .cons 9 (rX 1 fS) .nil
noncomputable def maH (e:Em) (n:Int):Hy:=⟨hE,[],[],[(2,.iv maT maR (fun a=>MaI e n a.2.1 a.1.2.1 a.1.2.2.2.2.2.1) fun a=>ixM (jm e.ns n).s.length a.1.2.2.2.2.2.1)]⟩
theorem jW6 {m:Nat}(ctR_ok:Good T (ctR m)) {e:Em}{n:Int}(hn:0<=n) (hm:(n+1).toNat<=m) (f k:Int) (s:S7) (h:EmB e (jJN (mk e.ns n) (jm e.ns n).s.length) (jJT e.ns n (jm e.ns n).s.length+(jm e.ns n).s.length)):Tot T (cMa e n True) 184 [pE e,pI n,pI f,pI k,pS s]:=vN (maH e n) (ctR_ok) Tryz.func184 (MaI e n e n 0/\∀(a:(Unit × Int × Int × Int × Unit × Int × Unit) × Em × S7 × Unit),MaI e n a.2.1 a.1.2.1 a.1.2.2.2.2.2.1->Ns a.2.1.ns/\∀(x:N × Unit),NdX a.2.1.ns a.1.2.1 x.1->br (decide (a.1.2.2.2.2.2.1<↑x.1.s.length)) (Ns a.2.1.ns/\∀(x:Int × Unit),jKh a.2.1.ns a.1.2.1 a.1.2.2.2.2.2.1 x.1->Ns a.2.1.ns/\∀(x_1:Bool × Unit),jKx a.2.1.ns x.1 x_1.1->br x_1.1 (MaI e n a.2.1 a.1.2.1 (wr (a.1.2.2.2.2.2.1+1))/\ixM (jm e.ns n).s.length (wr (a.1.2.2.2.2.2.1+1))<ixM (jm e.ns n).s.length a.1.2.2.2.2.2.1) ((8:Int)≠0/\Ns a.2.1.ns/\∀(x_2:S7 × Unit),True->jLO m a.2.1 x.1 {r:=(wr (a.1.2.2.1+a.1.2.2.2.2.2.1)).tmod 8,l:=false,s:=x_2.1}/\∀(x_3:Unit × Em),EmP (CC*wt a.2.1.ns x.1) (fwt a.2.1.ns x.1) 0 (wt a.2.1.ns x.1) a.2.1 x_3.2->br (decide (a.1.2.2.2.2.2.1≠a.1.2.2.2.1)) ((∃(y:List C),gts x_3.2.fc 0 802=some (jJK.f y))/\∀(x:List C),gts x_3.2.fc 0 802=some (jJK.f x)->(∃(y:Nat),y<6000/\jJL (jJK.f x) y)/\∀(x_4:Int × List C),jMc (jJK.f x) x_4.1 x_4.2->0+(jJK.f x_4.2).length<=x_3.2.fc.length/\x_3.2.L.length+1<=4000000000/\∀(x:Unit × Em),jJP {ns:=x_3.2.ns,fs:=x_3.2.fs,F:=x_3.2.F,K:=x_3.2.K,L:=x_3.2.L,fc:=ovl x_3.2.fc 0 (jJK.f x_4.2)} [{o:=5,r:=(wr (a.1.2.2.1+a.1.2.2.2.2.2.1)).tmod 8,x:=x_4.1,y:=0,p:=I 0}] x.2->MaI e n x.2 a.1.2.1 (wr (a.1.2.2.2.2.2.1+1))/\ixM (jm e.ns n).s.length (wr (a.1.2.2.2.2.2.1+1))<ixM (jm e.ns n).s.length a.1.2.2.2.2.2.1) (MaI e n x_3.2 a.1.2.1 (wr (a.1.2.2.2.2.2.1+1))/\ixM (jm e.ns n).s.length (wr (a.1.2.2.2.2.2.1+1))<ixM (jm e.ns n).s.length a.1.2.2.2.2.2.1))) (EmP (jJN (mk e.ns n) (jm e.ns n).s.length) (jKc e.ns n (jm e.ns n).s.length) (jm e.ns n).s.length (jJT e.ns n (jm e.ns n).s.length+(jm e.ns n).s.length) e a.2.1)) (by kernel_rfl) (by
 refine⟨⟨EmP.refl _ _ _ e,rfl,by omega,by omega⟩,fun⟨⟨_,n',f',k',_,i,_⟩,e',s',_⟩ ⟨q1,q2,q3⟩=>?_⟩
 dsimp only at q1 q2 q3 ⊢
 subst q2;have E:=q1.ns;rw[E];refine⟨h.ns,fun⟨x,_⟩ ⟨ex,hx⟩=>?_⟩
 dsimp only at ex hx ⊢
 subst ex;have sn:=hx.s.n;have lo:=q3.lo;have hi:=q3.hi;refine⟨fun hb=>?_,fun _=>q1.up (jKO _ (by omega)) (jYB _ _ (by omega)) (by omega) (by have:=jS3 e.ns n' (j:=i.toNat) (m:=(jm e.ns n').s.length) (by omega);omega)⟩;have nx:=q3.nx (by omega) hb;have G:=dt hb;have B:((i.toNat:Nat):Int)=i:=Int.toNat_of_nonneg lo;have w1:(wr (i+1)).toNat=i.toNat+1:=by unfold wr;rw[IntKind.wrap_i64];omega
 refine⟨h.ns,fun⟨k,_⟩ ⟨ek,_⟩=>?_⟩
 dsimp only at ek ⊢
 subst ek;have ks:=jS2 e.ns n' i.toNat;rw[B]at ks;have fs:=jYA e.ns n' i.toNat;rw[B]at fs;have M:=jS3 e.ns n' (j:=i.toNat+1) (m:=(jm e.ns n').s.length) (by omega);have us:jJN (mk e.ns n') (i.toNat+1)=jJN (mk e.ns n') i.toNat+mk e.ns n' i.toNat:=rfl;have O:=jKO (mk e.ns n') (j:=i.toNat+1) (m:=(jm e.ns n').s.length) (by omega)
 have go:∀{e2:Em}{c j:Nat},EmP c (fwt e.ns (jnF e.ns n' i)) j (wt e.ns (jnF e.ns n' i)+j) e' e2->c<=mk e.ns n' i.toNat->j<=1->MaI e n' e2 n' (wr (i+1))/\ixM (jm e.ns n').s.length (wr (i+1))<ixM (jm e.ns n').s.length i:=fun {e2 c j} p hc hj=>⟨⟨by rw[w1];exact(q1.trans p).up (by omega) (by omega) (by omega) (by omega),rfl,nx.1⟩,nx.2⟩
 refine⟨h.ns,fun⟨b,_⟩ ⟨eb⟩=>⟨fun hb=>go (c:=0) (j:=0) (EmP.refl _ _ _ e') (by omega) (by omega),fun hb=>?_⟩⟩
 dsimp only at eb hb ⊢
 subst hb;have J:mk e.ns n' i.toNat=CC*wt e.ns (jnF e.ns n' i)+1:=by unfold mk;rw[B,if_neg (by rw[eb];simp)]
 have b1:=q1.r (CC*wt e.ns (jnF e.ns n' i)+1) (wt e.ns (jnF e.ns n' i)+1) (h.up (by omega) (by omega));have kl:=jKC (ns:=e.ns) hn i;refine⟨by omega,h.ns,fun _ _=>⟨⟨by omega,sm8 _,by rw[E];exact b1.up (by omega) (by omega)⟩,fun⟨_,e2⟩ p=>?_⟩⟩;have b2:=p.r 1 1 (b1.up (by omega) (by omega))
 refine⟨fun _=>tl (b2.up (by omega) (by omega)) (sm8 _) fun e3 p3=>go (c:=CC*wt e.ns (jnF e.ns n' i)+1) (j:=1) ((p.trans p3).up (by omega) (by omega) (by omega) (by omega)) (by omega) (by omega),fun _=>go (c:=CC*wt e.ns (jnF e.ns n' i)) (j:=0) (p.up (by omega) (by omega) (by omega) (by omega)) (by omega) (by omega)⟩)
structure jQ9 (m:Nat) (e:Em) (n:Int):Prop where
 n0:0<=n
 m0:(n+1).toNat<=m
 h:EmB e (jJN (mk e.ns n) (jm e.ns n).s.length) (jJT e.ns n (jm e.ns n).s.length+(jm e.ns n).s.length)
noncomputable def ctA (m:Nat):Cts:=ctp 184 (kA (aC (aP fE) <|aC aI <|aC aI <|aC aI <|aC (aG fS) aN) fun a=>cMa a.1 a.2.1 (jQ9 m a.1 a.2.1)) (ctR m)
structure OpI (e:Em) (n y:Int) (e':Em) (n' t s i:Int):Prop where
 q1:EmP (jJN (mk e.ns n) (jm e.ns n).s.length+jJN (xk e.ns n) i.toNat) (jKc e.ns n (jm e.ns n).s.length) (jm e.ns n).s.length (jJT e.ns n (jm e.ns n).s.length+(jm e.ns n).s.length) e e'
 q2:n'=n
 q3:gts e.fc 800 1=some [I t]
 q4:0<=s/\s<=6000+i
 q5:Ix (jm e.ns n).s.length i
def opT:Rl Av:=.cons 0 (tA 0) <| .cons 1 tI <| .cons 2 tI <| .cons 7 (tA 7) <| .cons 8 tI <| .cons 9 tI <| .cons 10 tI <| .cons 11 tI .nil
def opRt:Rl Rt:=.cons 0 (rX 0 fE) <| .cons 7 (rX 1 fS) .nil
noncomputable def opH (e:Em) (n:Int):Hy:=⟨hE,[],[],[(6,.iv opT opRt (fun a=>OpI e n 0 a.2.1 a.1.2.1 a.1.2.2.2.2.1 a.1.2.2.2.2.2.2.1 a.1.2.2.2.2.2.2.2.1) fun a=>ixM (jm e.ns n).s.length a.1.2.2.2.2.2.2.2.1)]⟩
noncomputable def cOp (e:Em) (n:Int) (p:Prop):Ct:=cEm (CC*jJT e.ns n (jm e.ns n).s.length+2*(jm e.ns n).s.length) (jKc e.ns n (jm e.ns n).s.length) 0 (jJT e.ns n (jm e.ns n).s.length+(jm e.ns n).s.length) e p
theorem jWC {m:Nat}(ctA_ok:Good T (ctA m)) {e:Em}{n:Int}(hn:0<=n) (hm:(n+1).toNat<=m) (f:Int) (s:S7) (h:EmB e (CC*jJT e.ns n (jm e.ns n).s.length+2*(jm e.ns n).s.length) (jJT e.ns n (jm e.ns n).s.length+(jm e.ns n).s.length)):Tot T (cOp e n True) 141 [pE e,pI n,pI f,pS s]:=vN (opH e n) (ctA_ok) Tryz.func141 ((∃(y:Int),gts e.fc 800 1=some [I y])/\∀(x:Int),gts e.fc 800 1=some [I x]->Ns e.ns/\∀(x_1:Int × Unit),sm x_1.1->jQ9 m e n/\∀(x_2:Unit × Em),EmP (jJN (mk e.ns n) (jm e.ns n).s.length) (jKc e.ns n (jm e.ns n).s.length) (jm e.ns n).s.length (jJT e.ns n (jm e.ns n).s.length+(jm e.ns n).s.length) e x_2.2->OpI e n 0 x_2.2 n x x 0/\∀(a:(Unit × Int × Int × Unit × Int × Int × Int × Int × Unit) × Em × S7 × Unit),OpI e n 0 a.2.1 a.1.2.1 a.1.2.2.2.2.1 a.1.2.2.2.2.2.2.1 a.1.2.2.2.2.2.2.2.1->Ns a.2.1.ns/\∀(x:N × Unit),NdX a.2.1.ns a.1.2.1 x.1->br (decide (a.1.2.2.2.2.2.2.2.1<↑x.1.s.length)) ((8:Int)≠0/\Ns a.2.1.ns/\∀(x:Int × Unit),jKh a.2.1.ns a.1.2.1 a.1.2.2.2.2.2.2.2.1 x.1->Ns a.2.1.ns/\∀(x_3:Bool × Unit),jKx a.2.1.ns x.1 x_3.1->br x_3.1 (Ns a.2.1.ns/\∀(x_4:S7 × Unit),True->(EmB a.2.1 (2*(jm a.2.1.ns x.1).b.length+1) 0/\sm ((wr (a.1.2.2.1+a.1.2.2.2.2.2.2.2.1)).tmod 8))/\∀(x_5:Unit × Em),EmP (2*(jm a.2.1.ns x.1).b.length+1) 0 0 0 a.2.1 x_5.2->OpI e n 0 x_5.2 a.1.2.1 a.1.2.2.2.2.1 a.1.2.2.2.2.2.2.1 (wr (a.1.2.2.2.2.2.2.2.1+1))/\ixM (jm e.ns n).s.length (wr (a.1.2.2.2.2.2.2.2.1+1))<ixM (jm e.ns n).s.length a.1.2.2.2.2.2.2.2.1) (br (decide (a.1.2.2.2.2.2.2.2.1≠a.1.2.2.2.2.2.1)) (a.2.1.L.length+1<=4000000000/\∀(x:Unit × Em),jJP a.2.1 [{o:=4,r:=(wr (a.1.2.2.1+a.1.2.2.2.2.2.2.2.1)).tmod 8,x:=a.1.2.2.2.2.2.2.1,y:=0,p:=I 0}] x.2->OpI e n 0 x.2 a.1.2.1 a.1.2.2.2.2.1 (wr (a.1.2.2.2.2.2.2.1+1)) (wr (a.1.2.2.2.2.2.2.2.1+1))/\ixM (jm e.ns n).s.length (wr (a.1.2.2.2.2.2.2.2.1+1))<ixM (jm e.ns n).s.length a.1.2.2.2.2.2.2.2.1) (OpI e n 0 a.2.1 a.1.2.1 a.1.2.2.2.2.1 a.1.2.2.2.2.2.2.1 (wr (a.1.2.2.2.2.2.2.2.1+1))/\ixM (jm e.ns n).s.length (wr (a.1.2.2.2.2.2.2.2.1+1))<ixM (jm e.ns n).s.length a.1.2.2.2.2.2.2.2.1))) (801<=a.2.1.fc.length/\EmP (CC*jJT e.ns n (jm e.ns n).s.length+2*(jm e.ns n).s.length) (jKc e.ns n (jm e.ns n).s.length) 0 (jJT e.ns n (jm e.ns n).s.length+(jm e.ns n).s.length) e {ns:=a.2.1.ns,fs:=a.2.1.fs,F:=a.2.1.F,K:=a.2.1.K,L:=a.2.1.L,fc:=ovl a.2.1.fc 800 [I a.1.2.2.2.2.1]})) (by kernel_rfl) (by
 have M:=jPL e.ns n (jm e.ns n).s.length;refine⟨h.fr.ask (by omega),fun y hy=>⟨h.ns,fun _ _=>⟨⟨hn,hm,h.up (by omega) (by omega)⟩,fun⟨_,e1⟩ p0=>?_⟩⟩⟩;have ty:=h.fr.t y (jMG hy);refine⟨⟨p0,rfl,hy,by omega,by omega,by omega⟩,fun⟨⟨_,n',f',_,t,kp,sl,i,_⟩,e',s',_⟩ ⟨q1,q2,q3,q4,q5⟩=>?_⟩
 dsimp only at q1 q2 q3 q4 q5 ⊢
 subst q2;have B:=q1.ns;rw[B];refine⟨h.ns,fun⟨x,_⟩ ⟨ex,hx⟩=>?_⟩
 dsimp only at ex hx ⊢
 subst ex;have sn:=hx.s.n;have lo:=q5.lo;have hi:=q5.hi;have O:=jKO (xk e.ns n') (j:=i.toNat) (m:=(jm e.ns n').s.length) (by omega);refine⟨fun hb=>?_,fun _=>⟨?_,?_⟩⟩
 rotate_left
 .have:=(q1.r 0 0 (h.up (by omega) (by omega))).fr.n
  omega
 .have z:=(q1.top q3).up (k':=CC*jJT e.ns n' (jm e.ns n').s.length+2*(jm e.ns n').s.length) (by omega) (Nat.le_refl _) (Nat.le_refl _) (Nat.le_refl _)
  rw[B]at z;exact z
 have nx:=q5.nx (by omega) hb;have G:=dt hb;have E:((i.toNat:Nat):Int)=i:=Int.toNat_of_nonneg lo;have wi:wr (i+1)=i+1:=by unfold wr;rw[IntKind.wrap_i64];omega
 have ws:wr (sl+1)=sl+1:=by unfold wr;rw[IntKind.wrap_i64];omega
 have us:jJN (xk e.ns n') (i.toNat+1)=jJN (xk e.ns n') i.toNat+xk e.ns n' i.toNat:=rfl;have P:=jKO (xk e.ns n') (j:=i.toNat+1) (m:=(jm e.ns n').s.length) (by omega);refine⟨by omega,h.ns,fun⟨k,_⟩ ⟨ek,_⟩=>?_⟩
 dsimp only at ek ⊢
 subst ek
 have go:∀{e2:Em}{c:Nat}{s2:Int},EmP c 0 0 0 e' e2->c<=xk e.ns n' i.toNat->(s2=sl\/s2=sl+1)->OpI e n' 0 e2 n' t s2 (wr (i+1))/\ixM (jm e.ns n').s.length (wr (i+1))<ixM (jm e.ns n').s.length i:=fun {e2 c s2} p hc hs=>⟨⟨by rw[wi,show(i+1).toNat=i.toNat+1 by omega];exact(q1.trans p).up (by omega) (by omega) (by omega) (by omega),rfl,q3,by rw[wi];omega,nx.1⟩,nx.2⟩
 have b1:=q1.r (xk e.ns n' i.toNat) 0 (h.up (by omega) (by omega));have J:=b1.b;refine⟨h.ns,fun⟨b,_⟩ ⟨eb⟩=>⟨fun hb=>?_,fun hb=>?_⟩⟩
 .dsimp only at eb hb ⊢
  subst hb;have ex:xk e.ns n' i.toNat=2*(jm e.ns (jnF e.ns n' i)).b.length+1:=by unfold xk;rw[E,if_pos eb]
  refine⟨h.ns,fun _ _=>⟨⟨b1.up (by omega) (by omega),sm8 _⟩,fun⟨_,e2⟩ p=>go p (by omega) (.inl rfl)⟩⟩
 .dsimp only at eb hb ⊢
  subst hb;have ex:xk e.ns n' i.toNat=1:=by unfold xk;rw[E,if_neg (by rw[eb];simp)]
  refine⟨fun _=>⟨by omega,fun⟨_,e2⟩ hl=>?_⟩,fun _=>go (EmP.refl 0 0 0 e') (by omega) (.inl rfl)⟩;rw[ws]
  exact go (hl.p (one ⟨jJH (by simp) (by simp),sm8 _,jJH (by dsimp only;omega) (by dsimp only;omega),jJH (by simp) (by simp),.inl rfl⟩)) (by simp only[List.length_singleton];omega) (.inr rfl))
end V
end Go.Proofs.YtnhbcdnmfafbiaaGreatDoor
