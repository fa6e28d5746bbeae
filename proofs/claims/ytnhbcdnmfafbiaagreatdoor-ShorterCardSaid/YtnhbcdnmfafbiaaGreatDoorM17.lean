import Derived.Test.YtnhbcdnmfafbiaaGreatDoorM16
set_option linter.unusedVariables false
set_option linter.unusedSimpArgs false
set_option maxHeartbeats 20000000
set_option maxRecDepth 100000
namespace Go.Proofs.YtnhbcdnmfafbiaaGreatDoor
namespace V
open Go.Proofs
structure jNC (m:Nat) (e:Em) (n:Int):Prop where
 n0:0<=n
 m0:(n+1).toNat<=m
 h:EmB e (CC*wt e.ns (jnF e.ns n 0)) (wt e.ns (jnF e.ns n 0))
structure jNA (m:Nat) (e:Em) (n:Int):Prop where
 n0:0<=n
 m0:(n+1).toNat<=m
 h:EmB e (CC*jJT e.ns n (jm e.ns n).s.length+2*(jm e.ns n).s.length) (jJT e.ns n (jm e.ns n).s.length+(jm e.ns n).s.length)
noncomputable def ctB (m:Nat):Cts:=ctp 141 (kA (aC (aP fE) <|aC aI <|aC aI <|aC (aG fS) aN) fun a=>cOp a.1 a.2.1 (jNA m a.1 a.2.1)) <|ctp 97 (kA (aC (aP fE) <|aC aI <|aC (aG fW) aN) fun a=>cPt a.1 (jnF a.1.ns a.2.1 0) (jNC m a.1 a.2.1)) (ctA m)
theorem ctA_ok {m:Nat}(h:Good T (ctR m)):Good T (ctA m):=by
 unfold ctA;refine Good.add h ?_;rintro a ⟨B,h2,E⟩;exact jW6 h B h2 _ _ _ E
theorem jLv {m:Nat}(h:Good T (ctR m)):Good T (ctB m):=by
 unfold ctB;refine Good.add (Good.add (ctA_ok h) ?_) ?_
 .rintro a ⟨h1,h2,h3⟩
  obtain⟨x,p,d⟩:=jYK h h1 h2 a.2.2.1 h3;exact⟨x,p,d⟩
 .rintro a ⟨h1,h2,h3⟩;exact jWC (ctA_ok h) h1 h2 _ _ h3
structure LtI (e:Em) (n:Int) (w:Wn) (e':Em) (t k:Int) (l:List (List C)) (c i:Int) (w':Wn):Prop where
 q1:EmP (CC*wt e.ns (jnF e.ns n 0)+i.toNat) (fwt e.ns (jnF e.ns n 0)) i.toNat (wt e.ns (jnF e.ns n 0)+i.toNat) e e'
 q2:gts e.fc 800 1=some [I t]
 q3:k=jnF e.ns n 1
 q4:l=(jm e.ns n).b
 q5:c=l.length
 q6:Ix l.length i
 q7:w'=w
def ltT:Rl Av:=.cons 0 (tA 0) <| .cons 5 (tA 5) <| .cons 6 tI <| .cons 7 tI <| .cons 33 (tR 1) <| .cons 34 tI <| .cons 35 tI .nil
def ltR:Rl Rt:=.cons 0 (rX 0 fE) <| .cons 5 (rX 1 fW) .nil
noncomputable def ltH (e:Em) (n:Int) (w:Wn):Hy:=⟨hE,[],[],[(5,.iv ltT ltR (fun a=>LtI e n w a.2.1 a.1.2.2.1 a.1.2.2.2.1 a.1.2.2.2.2.1 a.1.2.2.2.2.2.1 a.1.2.2.2.2.2.2.1 a.2.2.1) fun a=>ixM (jm e.ns n).b.length a.1.2.2.2.2.2.2.1)]⟩
theorem jXu {m:Nat}(jLv:Good T (ctB m)) {e:Em}{n:Int}(hn:0<=n) (hk:(jm e.ns n).k≠12) (hm:(n+1).toNat<=m) (w:Wn) (G:sm w.r) (h:EmB e (CC*wt e.ns n) (wt e.ns n)):Tot T (cPt e n True) 95 [pE e,pI n,pW w]:=vN (ltH e n w) (jLv) Tryz.func95 ((∃(y:Int),gts e.fc 800 1=some [I y])/\∀(x:Int),gts e.fc 800 1=some [I x]->jNC m e n/\∀(x_1:Unit × Em),EmP (CC*wt e.ns (jnF e.ns n 0)) (fwt e.ns (jnF e.ns n 0)) 0 (wt e.ns (jnF e.ns n 0)) e x_1.2->Ns x_1.2.ns/\∀(x_2:Int × Unit),jKh x_1.2.ns n 1 x_2.1->Ns x_1.2.ns/\∀(x_3:N × Unit),NdX x_1.2.ns n x_3.1->LtI e n w x_1.2 x x_2.1 x_3.1.b ↑x_3.1.b.length 0 w/\∀(a:(Unit × Unit × Int × Int × List (List C) × Int × Int × Unit) × Em × Wn × Unit),LtI e n w a.2.1 a.1.2.2.1 a.1.2.2.2.1 a.1.2.2.2.2.1 a.1.2.2.2.2.2.1 a.1.2.2.2.2.2.2.1 a.2.2.1->br (decide (a.1.2.2.2.2.2.2.1<a.1.2.2.2.2.2.1)) (0<=a.1.2.2.2.2.2.2.1/\(∃(y:Int),a.1.2.2.2.2.1[Int.toNat a.1.2.2.2.2.2.2.1]? =some [I y])/\∀(x:Int),a.1.2.2.2.2.1[Int.toNat a.1.2.2.2.2.2.2.1]? =some [I x]->Ns a.2.1.ns/\∀(x_4:S7 × Unit),True->(EmB a.2.1 1 1/\inI x/\sm 0)/\∀(x:Unit × Em),EmP 1 0 1 1 a.2.1 x.2->LtI e n w x.2 a.1.2.2.1 a.1.2.2.2.1 a.1.2.2.2.2.1 a.1.2.2.2.2.2.1 (wr (a.1.2.2.2.2.2.2.1+1)) a.2.2.1/\ixM (jm e.ns n).b.length (wr (a.1.2.2.2.2.2.2.1+1))<ixM (jm e.ns n).b.length a.1.2.2.2.2.2.2.1) (jLO m a.2.1 a.1.2.2.2.1 a.2.2.1/\∀(x:Unit × Em),EmP (CC*wt a.2.1.ns a.1.2.2.2.1) (fwt a.2.1.ns a.1.2.2.2.1) 0 (wt a.2.1.ns a.1.2.2.2.1) a.2.1 x.2->801<=x.2.fc.length/\EmP (CC*wt e.ns n) (fwt e.ns n) 0 (wt e.ns n) e {ns:=x.2.ns,fs:=x.2.fs,F:=x.2.F,K:=x.2.K,L:=x.2.L,fc:=ovl x.2.fc 800 [I a.1.2.2.1]})) (by kernel_rfl) (by
 have Z:=wt3 (ns:=e.ns) hn hk;have Y:=fw3 (ns:=e.ns) hn hk;have c0:CC*wt e.ns (jnF e.ns n 0)=24000*wt e.ns (jnF e.ns n 0):=rfl;have P:CC*wt e.ns (jnF e.ns n 1)=24000*wt e.ns (jnF e.ns n 1):=rfl;have V:CC*wt e.ns n=24000*wt e.ns n:=rfl;have kl:=jKC (ns:=e.ns) hn 1;refine⟨h.fr.ask (by omega),fun y hy=>⟨⟨hn,hm,h.up (by omega) (by omega)⟩,fun⟨_,e1⟩ p0=>?_⟩⟩;have B:=p0.ns
 dsimp only at B p0 ⊢
 rw[B];refine⟨h.ns,fun⟨k,_⟩ ⟨ek,_⟩=>⟨h.ns,fun⟨x,_⟩ ⟨ex,hx⟩=>?_⟩⟩
 dsimp only at ek ex hx ⊢
 subst ek ex;have O:=hx.b.n;refine⟨⟨p0,hy,rfl,rfl,rfl,⟨by omega,by omega⟩,rfl⟩,fun⟨⟨_,_,t,k,l,c,i,_⟩,e',w',_⟩ ⟨q1,q2,q3,q4,q5,q6,q7⟩=>?_⟩
 dsimp only at q1 q2 q3 q4 q5 q6 q7 ⊢
 subst q3 q4 q5 q7;have E:=q1.ns;have lo:=q6.lo;have hi:=q6.hi;refine⟨fun hb=>?_,fun hb=>?_⟩
 .have nx:=q6.nx (by omega) hb
  have M:=dt hb;have w1:(wr (i+1)).toNat=i.toNat+1:=by unfold wr;rw[IntKind.wrap_i64];omega
  refine⟨lo,hx.b.r.at (q6.lt hb),fun x hx'=>⟨by rw[E];exact h.ns,fun _ _=>⟨⟨(q1.r 1 1 (h.up (by omega) (by omega))).up (by omega) (by omega),hx.b.int hx',jJH (by omega) (by omega)⟩,fun⟨_,e2⟩ p=>⟨⟨?_,q2,rfl,rfl,rfl,nx.1,rfl⟩,nx.2⟩⟩⟩⟩;rw[w1];exact(q1.trans p).up (by omega) (by omega) (by omega) (by omega)
 .have b1:=q1.r (CC*wt e.ns (jnF e.ns n 1)) (wt e.ns (jnF e.ns n 1)) (h.up (by omega) (by omega))
  refine⟨⟨by omega,G,by rw[E];exact b1.up (by omega) (by omega)⟩,fun⟨_,e2⟩ p=>?_⟩;rw[E]at p;have J:=q1.trans p;have bt:=(J.r 0 0 (h.up (by omega) (by omega))).fr.n
  exact⟨by dsimp only at bt ⊢;omega,(J.top q2).up (by omega) (by omega) (by omega) (by omega)⟩)
structure LuI (e:Em) (n:Int) (w:Wn) (e':Em) (t k:Int) (l:List (List C)) (i:Int) (w':Wn):Prop where
 q1:EmP (CC*wt e.ns (jnF e.ns n 0)+2*i.toNat) (fwt e.ns (jnF e.ns n 0)) i.toNat (wt e.ns (jnF e.ns n 0)+i.toNat) e e'
 q2:gts e.fc 800 1=some [I t]
 q3:k=jnF e.ns n 1
 q4:l=(jm e.ns n).b
 q6:Ix l.length i
 q7:w'=w
def luT:Rl Av:=.cons 0 (tA 0) <| .cons 5 (tA 5) <| .cons 6 tI <| .cons 7 tI <| .cons 8 (tR 1) <| .cons 9 tI .nil
noncomputable def luH (e:Em) (n:Int) (w:Wn):Hy:=⟨hE,[],[],[(6,.iv luT ltR (fun a=>LuI e n w a.2.1 a.1.2.2.1 a.1.2.2.2.1 a.1.2.2.2.2.1 a.1.2.2.2.2.2.1 a.2.2.1) fun a=>ixM (jm e.ns n).b.length a.1.2.2.2.2.2.1)]⟩
theorem jXy {m:Nat}(jLv:Good T (ctB m)) {e:Em}{n:Int}(hn:0<=n) (hk:(jm e.ns n).k≠12) (hm:(n+1).toNat<=m) (w:Wn) (J:sm w.r) (h:EmB e (CC*wt e.ns n) (wt e.ns n)):Tot T (cPt e n True) 96 [pE e,pI n,pW w]:=vN (luH e n w) (jLv) Tryz.func96 ((∃(y:Int),gts e.fc 800 1=some [I y])/\∀(x:Int),gts e.fc 800 1=some [I x]->jNC m e n/\∀(x_1:Unit × Em),EmP (CC*wt e.ns (jnF e.ns n 0)) (fwt e.ns (jnF e.ns n 0)) 0 (wt e.ns (jnF e.ns n 0)) e x_1.2->Ns x_1.2.ns/\∀(x_2:Int × Unit),jKh x_1.2.ns n 1 x_2.1->Ns x_1.2.ns/\∀(x_3:N × Unit),NdX x_1.2.ns n x_3.1->LuI e n w x_1.2 x x_2.1 x_3.1.b 0 w/\∀(a:(Unit × Unit × Int × Int × List (List C) × Int × Unit) × Em × Wn × Unit),LuI e n w a.2.1 a.1.2.2.1 a.1.2.2.2.1 a.1.2.2.2.2.1 a.1.2.2.2.2.2.1 a.2.2.1->br (decide (a.1.2.2.2.2.2.1<↑(List.length a.1.2.2.2.2.1))) (Ns a.2.1.ns/\∀(x:S7 × Unit),True->0<=a.1.2.2.2.2.2.1/\(∃(y:Int),a.1.2.2.2.2.1[Int.toNat a.1.2.2.2.2.2.1]? =some [I y])/\∀(x:Int),a.1.2.2.2.2.1[Int.toNat a.1.2.2.2.2.2.1]? =some [I x]->inI x/\∀(x:Bool × Unit),True->br x.1 (a.2.1.L.length+1<=4000000000/\∀(x:Unit × Em),jJP a.2.1 [{o:=22,r:=1,x:=0,y:=a.1.2.2.2.2.2.1,p:=I 0}] x.2->0<=a.1.2.2.2.2.2.1/\(∃(y:Int),a.1.2.2.2.2.1[Int.toNat a.1.2.2.2.2.2.1]? =some [I y])/\∀(x_4:Int),a.1.2.2.2.2.1[Int.toNat a.1.2.2.2.2.2.1]? =some [I x_4]->Ns x.2.ns/\∀(x_5:S7 × Unit),True->(EmB x.2 1 1/\inI x_4/\sm 1)/\∀(x_6:Unit × Em),EmP 1 0 1 1 x.2 x_6.2->LuI e n w x_6.2 a.1.2.2.1 a.1.2.2.2.1 a.1.2.2.2.2.1 (wr (a.1.2.2.2.2.2.1+1)) a.2.2.1/\ixM (jm e.ns n).b.length (wr (a.1.2.2.2.2.2.1+1))<ixM (jm e.ns n).b.length a.1.2.2.2.2.2.1) (LuI e n w a.2.1 a.1.2.2.1 a.1.2.2.2.1 a.1.2.2.2.2.1 (wr (a.1.2.2.2.2.2.1+1)) a.2.2.1/\ixM (jm e.ns n).b.length (wr (a.1.2.2.2.2.2.1+1))<ixM (jm e.ns n).b.length a.1.2.2.2.2.2.1)) (jLO m a.2.1 a.1.2.2.2.1 a.2.2.1/\∀(x:Unit × Em),EmP (CC*wt a.2.1.ns a.1.2.2.2.1) (fwt a.2.1.ns a.1.2.2.2.1) 0 (wt a.2.1.ns a.1.2.2.2.1) a.2.1 x.2->801<=x.2.fc.length/\EmP (CC*wt e.ns n) (fwt e.ns n) 0 (wt e.ns n) e {ns:=x.2.ns,fs:=x.2.fs,F:=x.2.F,K:=x.2.K,L:=x.2.L,fc:=ovl x.2.fc 800 [I a.1.2.2.1]})) (by kernel_rfl) (by
 have w3:=wt3 (ns:=e.ns) hn hk;have f3:=fw3 (ns:=e.ns) hn hk;have c0:CC*wt e.ns (jnF e.ns n 0)=24000*wt e.ns (jnF e.ns n 0):=rfl;have Y:CC*wt e.ns (jnF e.ns n 1)=24000*wt e.ns (jnF e.ns n 1):=rfl;have Z:CC*wt e.ns n=24000*wt e.ns n:=rfl;have kl:=jKC (ns:=e.ns) hn 1;refine⟨h.fr.ask (by omega),fun y hy=>⟨⟨hn,hm,h.up (by omega) (by omega)⟩,fun⟨_,e1⟩ p0=>?_⟩⟩;have E:=p0.ns
 dsimp only at E p0 ⊢
 rw[E];refine⟨h.ns,fun⟨k,_⟩ ⟨ek,_⟩=>⟨h.ns,fun⟨x,_⟩ ⟨ex,hx⟩=>?_⟩⟩
 dsimp only at ek ex hx ⊢
 subst ek ex;have V:=hx.b.n;refine⟨⟨p0,hy,rfl,rfl,⟨by omega,by omega⟩,rfl⟩,fun⟨⟨_,_,t,k,l,i,_⟩,e',w',_⟩ ⟨q1,q2,q3,q4,q6,q7⟩=>?_⟩
 dsimp only at q1 q2 q3 q4 q6 q7 ⊢
 subst q3 q4 q7;have B:=q1.ns;have lo:=q6.lo;have hi:=q6.hi;refine⟨fun hb=>?_,fun hb=>?_⟩
 .have nx:=q6.nx (by omega) hb
  have O:=dt hb;have w1:(wr (i+1)).toNat=i.toNat+1:=by unfold wr;rw[IntKind.wrap_i64];omega
  have b1:=q1.r 2 1 (h.up (by omega) (by omega));have P:=b1.b
  have go:∀{e2:Em},EmP 2 0 1 1 e' e2->LuI e n w' e2 t (jnF e.ns n 1) (jm e.ns n).b (wr (i+1)) w'/\ixM (jm e.ns n).b.length (wr (i+1))<ixM (jm e.ns n).b.length i:=fun p=>⟨⟨by rw[w1];exact(q1.trans p).up (by omega) (by omega) (by omega) (by omega),q2,rfl,rfl,nx.1,rfl⟩,nx.2⟩
  refine⟨by rw[B];exact h.ns,fun _ _=>⟨lo,hx.b.r.at (q6.lt hb),fun x hx'=>⟨hx.b.int hx',fun _ _=>⟨fun _=>⟨by omega,fun⟨_,e2⟩ hl=>?_⟩,fun _=>go ((EmP.refl 2 0 0 e').up (by omega) (by omega) (by omega) (by omega))⟩⟩⟩⟩;have G:=hl.p (one ⟨jJH (by simp) (by simp),jJH (by simp) (by simp),jJH (by simp) (by simp),jJH (by dsimp only;omega) (by dsimp only;omega),.inl rfl⟩);have b2:=G.r 1 1 (b1.up (by simp) (by omega));refine⟨lo,hx.b.r.at (q6.lt hb),fun x hx'=>⟨by rw[G.ns,B];exact h.ns,fun _ _=>⟨⟨b2.up (by omega) (by omega),hx.b.int hx',jJH (by omega) (by omega)⟩,fun⟨_,e3⟩ p=>go ((G.trans p).up (by simp) (by omega) (by omega) (by omega))⟩⟩⟩
 .have b1:=q1.r (CC*wt e.ns (jnF e.ns n 1)) (wt e.ns (jnF e.ns n 1)) (h.up (by omega) (by omega))
  refine⟨⟨by omega,J,by rw[B];exact b1.up (by omega) (by omega)⟩,fun⟨_,e2⟩ p=>?_⟩;rw[B]at p;have M:=q1.trans p;have bt:=(M.r 0 0 (h.up (by omega) (by omega))).fr.n
  exact⟨by dsimp only at bt ⊢;omega,(M.top q2).up (by omega) (by omega) (by omega) (by omega)⟩)
noncomputable def cWy (e:Em) (n:Int) (p:Prop):Ct:=cEm (6000+CC*wt e.ns n) (fwt e.ns n) 0 (wt e.ns n) e p
theorem jUH {m:Nat}(jLv:Good T (ctB m)) {e:Em}{n:Int}(hm:(n+1).toNat<m) (k:Int) (w:Wn) (E:sm w.r) (h:EmB e (6000+CC*wt e.ns n) (wt e.ns n)):Tot T (cWy e n True) 139 [pE e,pI n,pI k,pW w]:=vN (⟨hE,[],[],[]⟩) (jLv) Tryz.func139 (Ns e.ns/\∀(x:S7 × Unit),True->Ns e.ns/\∀(x:S7 × Unit),True->True/\∀(x:S7 × Unit),True->EmB e 6000 0/\∀(x:Unit × Em),EmP 6000 0 0 0 e x.2->jLO m x.2 n w/\∀(x_1:Unit × Em),EmP (CC*wt x.2.ns n) (fwt x.2.ns n) 0 (wt x.2.ns n) x.2 x_1.2->EmP (6000+CC*wt e.ns n) (fwt e.ns n) 0 (wt e.ns n) e x_1.2) (by kernel_rfl) (by
 refine⟨h.ns,fun _ _=>⟨h.ns,fun _ _=>⟨trivial,fun _ _=>⟨h.up (by omega) (by omega),fun⟨_,e1⟩ p1=>?_⟩⟩⟩⟩;have B:=p1.ns;have b1:=p1.r (CC*wt e.ns n) (wt e.ns n) (h.up (by omega) (by omega))
 dsimp only at B ⊢
 rw[B]
 exact⟨⟨hm,E,by rw[B];exact b1.up (by omega) (by omega)⟩,fun⟨_,e2⟩ p2=>(p1.trans p2).up (by omega) (by omega) (by omega) (by omega)⟩)
theorem jZq {m:Nat}(jLv:Good T (ctB m)) {e:Em}{n:Int}(hn:0<=n) (hk:(jm e.ns n).k≠12) (hm:(n+1).toNat<=m) (w:Wn) (J:sm w.r) (h:EmB e (CC*wt e.ns n) (wt e.ns n)):Tot T (cPt e n True) 100 [pE e,pI n,pW w]:=vN (⟨hE,[],[],[]⟩) (jLv) Tryz.func100 (jNA m e n/\∀(x:Unit × Em),EmP (CC*jJT e.ns n (jm e.ns n).s.length+2*(jm e.ns n).s.length) (jKc e.ns n (jm e.ns n).s.length) 0 (jJT e.ns n (jm e.ns n).s.length+(jm e.ns n).s.length) e x.2->Ns x.2.ns/\∀(x_1:N × Unit),NdX x.2.ns n x_1.1->br w.l (x.2.L.length+1<=4000000000/\∀(x_2:Unit × Em),jJP x.2 [{o:=32,r:=0,x:=wr (↑x_1.1.s.length-1),y:=0,p:=I 0}] x_2.2->EmP (CC*wt e.ns n) (fwt e.ns n) 0 (wt e.ns n) e x_2.2) (x.2.L.length+1<=4000000000/\∀(x_2:Unit × Em),jJP x.2 [{o:=30,r:=0,x:=wr (↑x_1.1.s.length-1),y:=0,p:=I 0}] x_2.2->br (decide (w.r≠0)) (x_2.2.L.length+1<=4000000000/\∀(x:Unit × Em),jJP x_2.2 [{o:=2,r:=w.r,x:=0,y:=0,p:=I 0}] x.2->EmP (CC*wt e.ns n) (fwt e.ns n) 0 (wt e.ns n) e x.2) (EmP (CC*wt e.ns n) (fwt e.ns n) 0 (wt e.ns n) e x_2.2))) (by kernel_rfl) (by
 have we:=jLT (ns:=e.ns) hn hk;have V:=jMH (ns:=e.ns) hn hk;have P:CC*wt e.ns n=24000*wt e.ns n:=rfl;have O:CC*jJT e.ns n (jm e.ns n).s.length=24000*jJT e.ns n (jm e.ns n).s.length:=rfl;refine⟨⟨hn,hm,h.up (by omega) (by omega)⟩,fun⟨_,e1⟩ p1=>?_⟩;have G:=p1.ns;have b1:=p1.r 2 0 (h.up (by omega) (by omega));have M:=b1.b
 dsimp only at G M ⊢
 rw[G];refine⟨h.ns,fun⟨x,_⟩ ⟨ex,hx⟩=>?_⟩
 dsimp only at ex hx ⊢
 subst ex;have sn:=hx.s.n;have sx:sm (wr ((jm e.ns n).s.length-1)):=by unfold wr;rw[IntKind.wrap_i64];exact jJH (by omega) (by omega)
 refine⟨fun _=>⟨by omega,fun⟨_,e2⟩ hl=>(p1.trans (hl.p (one ⟨jJH (by simp) (by simp),jJH (by simp) (by simp),sx,jJH (by simp) (by simp),.inl rfl⟩))).up (by simp only[List.length_singleton];omega) (by omega) (by omega) (by omega)⟩,fun _=>⟨by omega,fun⟨_,e2⟩ hl=>?_⟩⟩;have E:=hl.p (one ⟨jJH (by simp) (by simp),jJH (by simp) (by simp),sx,jJH (by simp) (by simp),.inl rfl⟩);simp only[List.length_singleton]at E;have b2:=(E.r 1 0 (b1.up (by omega) (by omega))).b;have B:=p1.trans E
 dsimp only at b2 ⊢
 refine⟨fun _=>⟨by omega,fun⟨_,e3⟩ hl=>(B.trans (hl.p (one ⟨jJH (by simp) (by simp),J,jJH (by simp) (by simp),jJH (by simp) (by simp),.inl rfl⟩))).up (by simp only[List.length_singleton];omega) (by omega) (by omega) (by omega)⟩,fun _=>B.up (by omega) (by omega) (by omega) (by omega)⟩)
end V
end Go.Proofs.YtnhbcdnmfafbiaaGreatDoor
set_option maxRecDepth 100000
namespace Go.Proofs.YtnhbcdnmfafbiaaGreatDoor
namespace V
open Go.Proofs
structure jQ8 (m:Nat) (e:Em) (n:Int) (w:Wn):Prop where
 n0:0<=n
 k0:(jm e.ns n).k≠12
 m0:(n+1).toNat<=m
 r:sm w.r
 h:EmB e (CC*wt e.ns n) (wt e.ns n)
structure jOG (m:Nat) (e:Em) (n:Int) (w:Wn):Prop where
 m0:(n+1).toNat<m
 r:sm w.r
 h:EmB e (6000+CC*wt e.ns n) (wt e.ns n)
noncomputable def pn (m:Nat):List Arg->Option Ct:=kA (aC (aP fE) <|aC aI <|aC (aG fW) aN) fun a=>cPt a.1 a.2.1 (jQ8 m a.1 a.2.1 a.2.2.1)
noncomputable def ctC (m:Nat):Cts:=ctp 95 (pn m) <|ctp 96 (pn m) <|ctp 100 (pn m) <|ctp 139 (kA (aC (aP fE) <|aC aI <|aC aI <|aC (aG fW) aN) fun a=>cWy a.1 a.2.1 (jOG m a.1 a.2.1 a.2.2.2.1)) (ctB m)
theorem jL9 {m:Nat}(h:Good T (ctR m)):Good T (ctC m):=by
 unfold ctC pn;have B:=jLv h;refine Good.add (Good.add (Good.add (Good.add B ?_) ?_) ?_) ?_
 .rintro a ⟨h1,h2,h3⟩;exact jUH B h1 _ _ h2 h3
 .rintro a ⟨h1,hk,h2,h3,h4⟩;exact jZq B h1 hk h2 _ h3 h4
 .rintro a ⟨h1,hk,h2,h3,h4⟩;exact jXy B h1 hk h2 _ h3 h4
 .rintro a ⟨h1,hk,h2,h3,h4⟩;exact jXu B h1 hk h2 _ h3 h4
noncomputable def cVa (e:Em) (n:Int) (p:Prop):Ct:=cEm (CC*wt e.ns n-1) (fwt e.ns n) 0 (wt e.ns n) e p
theorem jZp {m:Nat}(jL9:Good T (ctC m)) {e:Em}{n:Int}(hn:0<=n) (hk:(jm e.ns n).k≠12) (hm:(n+1).toNat<=m) (w:Wn) (E:sm w.r) (h:EmB e (CC*wt e.ns n) (wt e.ns n)):Tot T (cPt e n True) 99 [pE e,pI n,pW w]:=vN (⟨hE,[],[],[]⟩) (jL9) Tryz.func99 (jNC m e n/\∀(x:Unit × Em),EmP (CC*wt e.ns (jnF e.ns n 0)) (fwt e.ns (jnF e.ns n 0)) 0 (wt e.ns (jnF e.ns n 0)) e x.2->Ns x.2.ns/\∀(x_1:Int × Unit),jKh x.2.ns n 1 x_1.1->Ns x.2.ns/\∀(x_2:Int × Unit),jKh x.2.ns n 2 x_2.1->x.2.L.length+1<=4000000000/\∀(x_3:Int × Em),jJP x.2 [{o:=18,r:=0,x:=0,y:=0,p:=I 0}] x_3.2->jOG m x_3.2 x_1.1 w/\∀(x:Unit × Em),EmP (6000+CC*wt x_3.2.ns x_1.1) (fwt x_3.2.ns x_1.1) 0 (wt x_3.2.ns x_1.1) x_3.2 x.2->br w.l (EmB x.2 0 0/\∀(x_4:Unit × Em),jLi x.2 x_4.2->jOG m x_4.2 x_2.1 w/\∀(x:Unit × Em),EmP (6000+CC*wt x_4.2.ns x_2.1) (fwt x_4.2.ns x_2.1) 0 (wt x_4.2.ns x_2.1) x_4.2 x.2->EmP (CC*wt e.ns n) (fwt e.ns n) 0 (wt e.ns n) e x.2) (x.2.L.length+1<=4000000000/\∀(x_4:Int × Em),jJP x.2 [{o:=17,r:=0,x:=0,y:=0,p:=I 0}] x_4.2->EmB x_4.2 0 0/\∀(x:Unit × Em),jLi x_4.2 x.2->jOG m x.2 x_2.1 w/\∀(x_5:Unit × Em),EmP (6000+CC*wt x.2.ns x_2.1) (fwt x.2.ns x_2.1) 0 (wt x.2.ns x_2.1) x.2 x_5.2->EmB x_5.2 0 0/\∀(x:Unit × Em),jLi x_5.2 x.2->EmP (CC*wt e.ns n) (fwt e.ns n) 0 (wt e.ns n) e x.2)) (by kernel_rfl) (by
 have w3:=wt3 (ns:=e.ns) hn hk;have Z:=fw3 (ns:=e.ns) hn hk;have p0:=jMh e.ns (jnF e.ns n 0);have M:=jMh e.ns (jnF e.ns n 1);have O:=jMh e.ns (jnF e.ns n 2);have c0:CC*wt e.ns (jnF e.ns n 0)=24000*wt e.ns (jnF e.ns n 0):=rfl;have P:CC*wt e.ns (jnF e.ns n 1)=24000*wt e.ns (jnF e.ns n 1):=rfl;have V:CC*wt e.ns (jnF e.ns n 2)=24000*wt e.ns (jnF e.ns n 2):=rfl;have Y:CC*wt e.ns n=24000*wt e.ns n:=rfl;have k1:=jKC (ns:=e.ns) hn 1;have k2:=jKC (ns:=e.ns) hn 2;have z:sm 0:=jJH (by omega) (by omega);refine⟨⟨hn,hm,h.up (by omega) (by omega)⟩,fun⟨_,e1⟩ q1=>?_⟩;have n1:=q1.ns;have b1:=q1.r (12002+CC*wt e.ns (jnF e.ns n 1)+CC*wt e.ns (jnF e.ns n 2)) (wt e.ns (jnF e.ns n 1)+wt e.ns (jnF e.ns n 2)) (h.up (by omega) (by omega));have G:=b1.b
 dsimp only at n1 G ⊢
 rw[n1];refine⟨h.ns,fun⟨a,_⟩ ⟨ea,_⟩=>⟨h.ns,fun⟨b,_⟩ ⟨eb,_⟩=>⟨by omega,fun⟨_,e2⟩ hl=>?_⟩⟩⟩
 dsimp only at ea eb hl ⊢
 subst ea eb;have q2:=q1.trans (hl.p (one ⟨jJH (by simp) (by simp),z,z,z,.inl rfl⟩));simp only[List.length_singleton]at q2;have n2:=q2.ns;rw[n2];have b2:=q2.r (12001+CC*wt e.ns (jnF e.ns n 1)+CC*wt e.ns (jnF e.ns n 2)) (wt e.ns (jnF e.ns n 1)+wt e.ns (jnF e.ns n 2)) (h.up (by omega) (by omega));refine⟨⟨by omega,E,by rw[n2];exact b2.up (by omega) (by omega)⟩,fun⟨_,e3⟩ q3=>?_⟩;have q3:=q2.trans q3;have b3:=q3.r (6001+CC*wt e.ns (jnF e.ns n 2)) (wt e.ns (jnF e.ns n 2)) (h.up (by omega) (by omega));have J:=b3.b
 dsimp only at q3 b3 J ⊢
 have B:∀{k w j r:Nat}{a b:Em},EmP k w j r e a->jLi a b->EmP k w j r e b:=fun p q=>⟨fun b' q' hb=>q.r _ _ (p.r b' q' hb),p.j,q.f.2.2.trans p.ns,q.f.2.1.trans p.F,by rw[q.f.1];exact p.g⟩
 refine⟨fun _=>⟨b3.up (by omega) (by omega),fun⟨_,e4⟩ ha=>?_⟩,fun _=>⟨by omega,fun⟨_,e4⟩ hl=>?_⟩⟩
 .have q4:=B q3 ha
  have n4:=q4.ns
  dsimp only at n4 ⊢
  rw[n4];exact⟨⟨by omega,E,by rw[n4];exact(ha.r _ _ b3).up (by omega) (by omega)⟩,fun⟨_,e5⟩ q5=>(q4.trans q5).up (by omega) (by omega) (by omega) (by omega)⟩
 .have q4:=q3.trans (hl.p (one ⟨jJH (by simp) (by simp),z,z,z,.inl rfl⟩))
  simp only[List.length_singleton]at q4;have b4:=q4.r (6000+CC*wt e.ns (jnF e.ns n 2)) (wt e.ns (jnF e.ns n 2)) (h.up (by omega) (by omega));refine⟨b4.up (by omega) (by omega),fun⟨_,e5⟩ ha=>?_⟩;have q5:=B q4 ha;have n5:=q5.ns
  dsimp only at n5 ⊢
  rw[n5];refine⟨⟨by omega,E,by rw[n5];exact(ha.r _ _ b4).up (by omega) (by omega)⟩,fun⟨_,e6⟩ q6=>?_⟩;have q6:=q5.trans q6
  exact⟨(q6.r 0 0 (h.up (by omega) (by omega))).up (by omega) (by omega),fun⟨_,e7⟩ ha=>(B q6 ha).up (by omega) (by omega) (by omega) (by omega)⟩)
structure TuI (e:Em) (n:Int) (w:Wn) (e':Em) (n' t c b s i:Int) (w':Wn):Prop where
 q1:EmP (jJN (mk e.ns n) (jm e.ns n).s.length+1+jJN (xk e.ns n) i.toNat+i.toNat) (jKc e.ns n (jm e.ns n).s.length) (jm e.ns n).s.length (jJT e.ns n (jm e.ns n).s.length+(jm e.ns n).s.length) e e'
 q2:n'=n
 q3:gts e.fc 800 1=some [I t]
 q4:0<=s/\s<=6000+i
 q5:Ix (jm e.ns n).s.length i
 q6:c=(jm e.ns n).s.length
 q7:sm b
 q8:w'=w
def tuT:Rl Av:=.cons 0 (tA 0) <| .cons 1 tI <| .cons 5 (tA 5) <| .cons 6 tI <| .cons 7 tI <| .cons 8 tI <| .cons 9 tI <| .cons 10 tI .nil
noncomputable def tuH (e:Em) (n:Int) (w:Wn):Hy:=⟨hE,[],[],[(8,.iv tuT ltR (fun a=>TuI e n w a.2.1 a.1.2.1 a.1.2.2.2.1 a.1.2.2.2.2.1 a.1.2.2.2.2.2.1 a.1.2.2.2.2.2.2.1 a.1.2.2.2.2.2.2.2.1 a.2.2.1) fun a=>ixM (jm e.ns n).s.length a.1.2.2.2.2.2.2.2.1)]⟩
theorem jUT {m:Nat}(jL9:Good T (ctC m)) {e:Em}{n:Int}(hn:0<=n) (hk:(jm e.ns n).k≠12) (hm:(n+1).toNat<=m) (w:Wn) (B:sm w.r) (h:EmB e (CC*wt e.ns n) (wt e.ns n)):Tot T (cVa e n True) 142 [pE e,pI n,pW w]:=vN (tuH e n w) (jL9) Tryz.func142 ((∃(y:Int),gts e.fc 800 1=some [I y])/\∀(x:Int),gts e.fc 800 1=some [I x]->jQ9 m e n/\∀(x_1:Unit × Em),EmP (jJN (mk e.ns n) (jm e.ns n).s.length) (jKc e.ns n (jm e.ns n).s.length) (jm e.ns n).s.length (jJT e.ns n (jm e.ns n).s.length+(jm e.ns n).s.length) e x_1.2->Ns x_1.2.ns/\∀(x_2:N × Unit),NdX x_1.2.ns n x_2.1->x_1.2.L.length+1<=4000000000/\∀(x_3:Unit × Em),jJP x_1.2 [{o:=19,r:=w.r,x:=↑x_2.1.s.length,y:=0,p:=I 0}] x_3.2->(8:Int)≠0/\TuI e n w x_3.2 n x (↑x_2.1.s.length) ((wr (w.r+1)).tmod 8) x 0 w/\∀(a:(Unit × Int × Unit × Int × Int × Int × Int × Int × Unit) × Em × Wn × Unit),TuI e n w a.2.1 a.1.2.1 a.1.2.2.2.1 a.1.2.2.2.2.1 a.1.2.2.2.2.2.1 a.1.2.2.2.2.2.2.1 a.1.2.2.2.2.2.2.2.1 a.2.2.1->br (decide (a.1.2.2.2.2.2.2.2.1<a.1.2.2.2.2.1)) (Ns a.2.1.ns/\∀(x:Int × Unit),jKh a.2.1.ns a.1.2.1 a.1.2.2.2.2.2.2.2.1 x.1->Ns a.2.1.ns/\∀(x_4:Bool × Unit),jKx a.2.1.ns x.1 x_4.1->br x_4.1 (Ns a.2.1.ns/\∀(x_5:S7 × Unit),True->(EmB a.2.1 (2*(jm a.2.1.ns x.1).b.length+1) 0/\sm a.1.2.2.2.2.2.1)/\∀(x_6:Unit × Em),EmP (2*(jm a.2.1.ns x.1).b.length+1) 0 0 0 a.2.1 x_6.2->x_6.2.L.length+1<=4000000000/\∀(x:Unit × Em),jJP x_6.2 [{o:=21,r:=a.2.2.1.r,x:=a.1.2.2.2.2.2.2.2.1,y:=a.1.2.2.2.2.2.1,p:=I 0}] x.2->TuI e n w x.2 a.1.2.1 a.1.2.2.2.1 a.1.2.2.2.2.1 a.1.2.2.2.2.2.1 a.1.2.2.2.2.2.2.1 (wr (a.1.2.2.2.2.2.2.2.1+1)) a.2.2.1/\ixM (jm e.ns n).s.length (wr (a.1.2.2.2.2.2.2.2.1+1))<ixM (jm e.ns n).s.length a.1.2.2.2.2.2.2.2.1) (a.2.1.L.length+1<=4000000000/\∀(x:Unit × Em),jJP a.2.1 [{o:=4,r:=a.1.2.2.2.2.2.1,x:=a.1.2.2.2.2.2.2.1,y:=0,p:=I 0}] x.2->x.2.L.length+1<=4000000000/\∀(x_5:Unit × Em),jJP x.2 [{o:=21,r:=a.2.2.1.r,x:=a.1.2.2.2.2.2.2.2.1,y:=a.1.2.2.2.2.2.1,p:=I 0}] x_5.2->TuI e n w x_5.2 a.1.2.1 a.1.2.2.2.1 a.1.2.2.2.2.1 a.1.2.2.2.2.2.1 (wr (a.1.2.2.2.2.2.2.1+1)) (wr (a.1.2.2.2.2.2.2.2.1+1)) a.2.2.1/\ixM (jm e.ns n).s.length (wr (a.1.2.2.2.2.2.2.2.1+1))<ixM (jm e.ns n).s.length a.1.2.2.2.2.2.2.2.1)) (801<=a.2.1.fc.length/\EmP (CC*wt e.ns n-1) (fwt e.ns n) 0 (wt e.ns n) e {ns:=a.2.1.ns,fs:=a.2.1.fs,F:=a.2.1.F,K:=a.2.1.K,L:=a.2.1.L,fc:=ovl a.2.1.fc 800 [I a.1.2.2.2.1]})) (by kernel_rfl) (by
 have Z:=jPL e.ns n (jm e.ns n).s.length;have we:=jLT (ns:=e.ns) hn hk;have Y:=jMH (ns:=e.ns) hn hk;have V:CC*wt e.ns n=24000*wt e.ns n:=rfl;have P:CC*jJT e.ns n (jm e.ns n).s.length=24000*jJT e.ns n (jm e.ns n).s.length:=rfl;have z:sm 0:=jJH (by omega) (by omega);refine⟨h.fr.ask (by omega),fun y hy=>⟨⟨hn,hm,h.up (by omega) (by omega)⟩,fun⟨_,e1⟩ p0=>?_⟩⟩;have ty:=h.fr.t y (jMG hy);have n0:=p0.ns;have b0:=(p0.r 1 0 (h.up (by omega) (by omega))).b
 dsimp only at n0 b0 ⊢
 rw[n0];refine⟨h.ns,fun⟨x,_⟩ ⟨ex,hx⟩=>⟨by omega,fun⟨_,e2⟩ hl=>?_⟩⟩
 dsimp only at ex hx hl ⊢
 subst ex;have sn:=hx.s.n;have J:=p0.trans (hl.p (one ⟨jJH (by simp) (by simp),B,jJH (by dsimp only;omega) (by dsimp only;omega),z,.inl rfl⟩));simp only[List.length_singleton]at J;refine⟨by omega,⟨J.up (by simp[jJN]) (by omega) (by omega) (by omega),rfl,hy,by omega,⟨by omega,by omega⟩,rfl,sm8 _,rfl⟩,fun⟨⟨_,n',_,t,c,bb,sl,i,_⟩,e',w',_⟩ ⟨q1,q2,q3,q4,q5,q6,q7,q8⟩=>?_⟩
 dsimp only at q1 q2 q3 q4 q5 q6 q7 q8 ⊢
 subst q2 q6 q8;have E:=q1.ns;rw[E];have lo:=q5.lo;have hi:=q5.hi;have ul:=jKO (xk e.ns n') (j:=i.toNat) (m:=(jm e.ns n').s.length) (by omega);refine⟨fun hb=>?_,fun _=>⟨?_,?_⟩⟩
 rotate_left
 .have:=(q1.r 0 0 (h.up (by omega) (by omega))).fr.n
  omega
 .have z:=(q1.top q3).up (k':=CC*wt e.ns n'-1) (w':=fwt e.ns n') (j':=0) (r':=wt e.ns n') (by omega) (by omega) (by omega) (by omega)
  rw[E]at z;exact z
 have nx:=q5.nx (by omega) hb;have O:=dt hb;have G:((i.toNat:Nat):Int)=i:=Int.toNat_of_nonneg lo;have wi:wr (i+1)=i+1:=by unfold wr;rw[IntKind.wrap_i64];omega
 have ws:wr (sl+1)=sl+1:=by unfold wr;rw[IntKind.wrap_i64];omega
 have us:jJN (xk e.ns n') (i.toNat+1)=jJN (xk e.ns n') i.toNat+xk e.ns n' i.toNat:=rfl;have um:=jKO (xk e.ns n') (j:=i.toNat+1) (m:=(jm e.ns n').s.length) (by omega);refine⟨h.ns,fun⟨k,_⟩ ⟨ek,_⟩=>?_⟩
 dsimp only at ek ⊢
 subst ek
 have go:∀{e2:Em}{c:Nat}{s2:Int},EmP c 0 0 0 e' e2->c<=xk e.ns n' i.toNat+1->(s2=sl\/s2=sl+1)->TuI e n' w' e2 n' t (jm e.ns n').s.length bb s2 (wr (i+1)) w'/\ixM (jm e.ns n').s.length (wr (i+1))<ixM (jm e.ns n').s.length i:=fun {e2 c s2} p hc hs=>⟨⟨by rw[wi,show(i+1).toNat=i.toNat+1 by omega];exact(q1.trans p).up (by omega) (by omega) (by omega) (by omega),rfl,q3,by rw[wi];omega,nx.1,rfl,q7,rfl⟩,nx.2⟩
 have b1:=q1.r (xk e.ns n' i.toNat+1) 0 (h.up (by omega) (by omega));have M:=b1.b
 have li:jKy ⟨21,w'.r,i,bb,I 0⟩:=⟨jJH (by simp) (by simp),B,jJH (by dsimp only;omega) (by dsimp only;omega),q7,.inl rfl⟩
 refine⟨h.ns,fun⟨b,_⟩ ⟨eb⟩=>⟨fun hb=>?_,fun hb=>?_⟩⟩
 .dsimp only at eb hb ⊢
  subst hb;have ex:xk e.ns n' i.toNat=2*(jm e.ns (jnF e.ns n' i)).b.length+1:=by unfold xk;rw[G,if_pos eb]
  refine⟨h.ns,fun _ _=>⟨⟨b1.up (by omega) (by omega),q7⟩,fun⟨_,e2⟩ p=>?_⟩⟩;have b2:=(p.r 1 0 (b1.up (by omega) (by omega))).b
  dsimp only at b2 ⊢
  refine⟨by omega,fun⟨_,e3⟩ hl=>go (p.trans (hl.p (one li))) (by simp only[List.length_singleton];omega) (.inl rfl)⟩
 .dsimp only at eb hb ⊢
  subst hb;have ex:xk e.ns n' i.toNat=1:=by unfold xk;rw[G,if_neg (by rw[eb];simp)]
  refine⟨by omega,fun⟨_,e2⟩ hl=>?_⟩;have p:=hl.p (one ⟨jJH (by simp) (by simp),q7,jJH (by dsimp only;omega) (by dsimp only;omega),z,.inl rfl⟩);simp only[List.length_singleton]at p;have b2:=(p.r 1 0 (b1.up (by omega) (by omega))).b
  dsimp only at b2 ⊢
  rw[ws]
  exact⟨by omega,fun⟨_,e3⟩ hl=>go (p.trans (hl.p (one li))) (by simp only[List.length_singleton];omega) (.inr rfl)⟩)
theorem Nr.sub {l:List (List C)}(h:Nr l) (a b:Nat):Nr ((l.drop a).take b):=⟨fun e he=>h.r e (List.mem_of_mem_drop (List.mem_of_mem_take he)),by have:=h.n;rw[List.length_take,List.length_drop];omega⟩
theorem EmP.fn {k r:Nat}{e B:Em}(h:EmP k 0 0 r e B) {g:GS}(G:GOk g):EmP (k+1) (pot e.ns g) 0 r e {B with fs:=B.fs ++[grC g]}:=by
 obtain⟨g0,J,M⟩:=h.g;refine⟨fun b q hb=>?_,h.j,h.ns,h.F,g0 ++[g],by rw[J];simp,by rw[List.map_append,List.sum_append];simp;omega⟩;have E:=h.r (b+1) q (hb.up (by omega) (by omega));have:=E.f;exact {E.up (b':=b) (by omega) (Nat.le_refl _)with fs:=E.fs.app (Rw.one (S:=fG) G),f:=by dsimp only;rw[List.length_append];simp;omega}
structure ClI (e:Em) (n:Int) (w:Wn) (e':Em) (n':Int) (l:List (List C)) (b i:Int) (w':Wn) (x:N):Prop where
 q1:EmP (1+3*i.toNat) 0 0 0 e e'
 q2:n'=n
 q3:Nq l
 q4:sm b
 q5:Ix l.length i
 q6:w'=w
 q7:x=jm e.ns n
def clT:Rl Av:=.cons 0 (tA 0) <| .cons 1 tI <| .cons 5 (tA 5) <| .cons 6 (tA 6) <| .cons 7 (tR 1) <| .cons 8 tI <| .cons 9 (tA 9) <| .cons 10 tI .nil
def clR:Rl Rt:=.cons 0 (rX 0 fE) <| .cons 5 (rX 1 fW) <| .cons 6 (rX 1 fN) <| .cons 9 (rX 1 fS) .nil
noncomputable def clH (e:Em) (n:Int) (w:Wn):Hy:=⟨hE,[],[(16,[(11,1)])],[(7,.iv clT clR (fun a=>ClI e n w a.2.1 a.1.2.1 a.1.2.2.2.2.1 a.1.2.2.2.2.2.1 a.1.2.2.2.2.2.2.2.1 a.2.2.1 a.2.2.2.1) fun a=>ixM (List.length a.1.2.2.2.2.1) a.1.2.2.2.2.2.2.2.1)]⟩
theorem jZm {m:Nat}(jL9:Good T (ctC m)) {e:Em}{n:Int}(hn:0<=n) (hk:(jm e.ns n).k=12) (w:Wn) (E:sm w.r) (h:EmB e (CC*wt e.ns n) (wt e.ns n)):Tot T (cVa e n True) 143 [pE e,pI n,pW w]:=vN (clH e n w) (jL9) Tryz.func143 (Ns e.ns/\∀(x:N × Unit),NdX e.ns n x.1->True/\∀(x_1:List (List C) × Unit),Nq x_1.1->e.L.length+1<=4000000000/\∀(x_2:Unit × Em),jJP e [{o:=20,r:=w.r,x:=↑(List.length x_1.1),y:=↑e.fs.length,p:=I 0}] x_2.2->(8:Int)≠0/\ClI e n w x_2.2 n x_1.1 ((wr (w.r+1)).tmod 8) 0 w x.1/\∀(a:(Unit × Int × Unit × Unit × List (List C) × Int × Unit × Int × Unit) × Em × Wn × N × S7 × Unit),ClI e n w a.2.1 a.1.2.1 a.1.2.2.2.2.1 a.1.2.2.2.2.2.1 a.1.2.2.2.2.2.2.2.1 a.2.2.1 a.2.2.2.1->br (decide (a.1.2.2.2.2.2.2.2.1<↑(List.length a.1.2.2.2.2.1))) (0<=a.1.2.2.2.2.2.2.2.1/\0<=wr (a.1.2.2.2.2.2.2.2.1+1)/\(Int.toNat a.1.2.2.2.2.2.2.2.1<=(wr (a.1.2.2.2.2.2.2.2.1+1)).toNat/\(wr (a.1.2.2.2.2.2.2.2.1+1)).toNat<=List.length a.1.2.2.2.2.1/\0<List.length a.1.2.2.2.2.1)/\Nr (List.take ((wr (a.1.2.2.2.2.2.2.2.1+1)).toNat-Int.toNat a.1.2.2.2.2.2.2.2.1) (List.drop (Int.toNat a.1.2.2.2.2.2.2.2.1) a.1.2.2.2.2.1))/\∀(x:S7 × Unit),True->0<=a.1.2.2.2.2.2.2.2.1/\(∃(y:Int),a.1.2.2.2.2.1[Int.toNat a.1.2.2.2.2.2.2.2.1]? =some [I y])/\∀(x:Int),a.1.2.2.2.2.1[Int.toNat a.1.2.2.2.2.2.2.2.1]? =some [I x]->True/\∀(x:S7 × Unit),True->(EmB a.2.1 2 0/\sm a.1.2.2.2.2.2.1)/\∀(x:Unit × Em),EmP 2 0 0 0 a.2.1 x.2->x.2.L.length+1<=4000000000/\∀(x_3:Unit × Em),jJP x.2 [{o:=21,r:=a.2.2.1.r,x:=a.1.2.2.2.2.2.2.2.1,y:=a.1.2.2.2.2.2.1,p:=I 0}] x_3.2->ClI e n w x_3.2 a.1.2.1 a.1.2.2.2.2.1 a.1.2.2.2.2.2.1 (wr (a.1.2.2.2.2.2.2.2.1+1)) a.2.2.1 a.2.2.2.1/\ixM (List.length a.1.2.2.2.2.1) (wr (a.1.2.2.2.2.2.2.2.1+1))<ixM (List.length a.1.2.2.2.2.1) a.1.2.2.2.2.2.2.2.1) (Ns a.2.1.ns/\∀(x:Int × Unit),jKh a.2.1.ns a.1.2.1 0 x.1->br (decide (↑a.2.2.2.1.b.length >(0:Int))) ((0:Int)<=0/\(∃(y:Int),a.2.2.2.1.b[0]? =some [I y])/\∀(x_3:Int),a.2.2.2.1.b[0]? =some [I x_3]->(0:Int)<=1/\(1<=a.2.2.2.1.b.length/\a.2.2.2.1.b.length<=a.2.2.2.1.b.length/\0<a.2.2.2.1.b.length)/\pln (List.take (a.2.2.2.1.b.length-1) (List.drop 1 a.2.2.2.1.b))/\0+(List.take (a.2.2.2.1.b.length-1) (List.drop 1 a.2.2.2.1.b)).length<=4000000000/\pln (List.replicate 0 [iz IntKind.i64] ++List.take (a.2.2.2.1.b.length-1) (List.drop 1 a.2.2.2.1.b))/\a.2.1.fs.length+1<=4000000000/\EmP (CC*wt e.ns n-1) (fwt e.ns n) 0 (wt e.ns n) e {ns:=a.2.1.ns,fs:=a.2.1.fs ++(List.replicate 1 [iz IntKind.i64,rf 1,rf 1,iz IntKind.i64]).set 0 [I x_3,.r false 1 (List.replicate 0 [iz IntKind.i64] ++List.take (a.2.2.2.1.b.length-1) (List.drop 1 a.2.2.2.1.b)),.r false 1 a.1.2.2.2.2.1,I x.1],F:=a.2.1.F,K:=a.2.1.K,L:=a.2.1.L,fc:=a.2.1.fc}) (a.2.1.fs.length+1<=4000000000/\EmP (CC*wt e.ns n-1) (fwt e.ns n) 0 (wt e.ns n) e {ns:=a.2.1.ns,fs:=a.2.1.fs ++(List.replicate 1 [iz IntKind.i64,rf 1,rf 1,iz IntKind.i64]).set 0 [I ((-1)),rf 1,.r false 1 a.1.2.2.2.2.1,I x.1],F:=a.2.1.F,K:=a.2.1.K,L:=a.2.1.L,fc:=a.2.1.fc}))) (by kernel_rfl) (by
 have w3:=jOK (ns:=e.ns) hn;have ff:=jTs (ns:=e.ns) hn hk;have Z:CC*wt e.ns n=24000*wt e.ns n:=rfl;have z:sm 0:=jJH (by omega) (by omega);have P:=h.b;have V:=h.f;refine⟨h.ns,fun⟨x,_⟩ ⟨ex,hx⟩=>⟨trivial,fun⟨l,_⟩ hl=>⟨by omega,fun⟨_,e1⟩ h1=>?_⟩⟩⟩
 dsimp only at ex hx hl h1 ⊢
 subst ex;have ln:=hl.n;have M:=h1.p (one ⟨jJH (by simp) (by simp),E,jJH (by dsimp only;omega) (by dsimp only;omega),jJH (by dsimp only;omega) (by dsimp only;omega),.inl rfl⟩);simp only[List.length_singleton]at M;refine⟨by omega,⟨M,rfl,hl,sm8 _,⟨by omega,by omega⟩,rfl,rfl⟩,fun⟨⟨_,n',_,_,l,b,_,i,_⟩,e',w',x,s',_⟩ ⟨q1,q2,q3,q4,q5,q6,q7⟩=>?_⟩
 dsimp only at q1 q2 q3 q4 q5 q6 q7 ⊢
 subst q2 q6 q7;have G:=q1.ns;have lo:=q5.lo;have hi:=q5.hi;have ln:=q3.n;refine⟨fun hb=>?_,fun hb=>?_⟩
 .have nx:=q5.nx (by omega) hb
  have J:=dt hb;have wi:wr (i+1)=i+1:=by unfold wr;rw[IntKind.wrap_i64];omega
  have b1:=q1.r 3 0 (h.up (by omega) (by omega));refine⟨lo,by omega,⟨by omega,by omega,by omega⟩,q3.r.sub _ _,fun _ _=>⟨lo,q3.r.r.at (q5.lt hb),fun y hy=>⟨trivial,fun _ _=>⟨⟨b1.up (by omega) (by omega),q4⟩,fun⟨_,e2⟩ p2=>?_⟩⟩⟩⟩;have b2:=(p2.r 1 0 (b1.up (by omega) (by omega))).b
  dsimp only at b2 ⊢
  refine⟨by omega,fun⟨_,e3⟩ h3=>⟨⟨?_,rfl,q3,q4,nx.1,rfl,rfl⟩,nx.2⟩⟩;have O:=h3.p (one ⟨jJH (by simp) (by simp),E,jJH (by dsimp only;omega) (by dsimp only;omega),q4,.inl rfl⟩);simp only[List.length_singleton]at O;rw[wi];exact(q1.trans (p2.trans O)).up (by omega) (by omega) (by omega) (by omega)
 .rw[G]
  have bf:=(q1.r 0 0 (h.up (by omega) (by omega))).f;refine⟨h.ns,fun⟨k,_⟩ ⟨ek,hk'⟩=>?_⟩
  dsimp only at ek hk' ⊢
  subst ek;have fin:∀{j:Int}{p:List (List C)},inI j->Nr p->p.length<=(jm e.ns n').b.length->EmP (CC*wt e.ns n'-1) (fwt e.ns n') 0 (wt e.ns n') e {e' with fs:=e'.fs ++[grC ⟨j,p,l,jnF e.ns n' 0⟩]}:=fun {j p} hj hp hq=>(q1.fn (g:=⟨j,p,l,jnF e.ns n' 0⟩) ⟨hj,hp,q3.r,hk'⟩).up (by omega) (by unfold pot;dsimp only;omega) (by omega) (by omega)
  have B:∀{j:Int}{p:List (List C)},inI j->Nr p->p.length<=(jm e.ns n').b.length->EmP (CC*wt e.ns n'-1) (fwt e.ns n') 0 (wt e.ns n') e {ns:=e.ns,fs:=e'.fs ++[grC ⟨j,p,l,jnF e.ns n' 0⟩],F:=e'.F,K:=e'.K,L:=e'.L,fc:=e'.fc}:=fun {j p} hj hp hq=>by
   have:=fin hj hp hq;rw[G]at this;exact this
  have Y:=hx.b.n;refine⟨fun hb=>?_,fun _=>⟨by omega,B ⟨by omega,by omega⟩ Nr.nil (by simp)⟩⟩;have J:=dt hb;have sb:=hx.b.sub 1 ((jm e.ns n').b.length-1);have sl:=sb.n
  refine⟨by omega,hx.b.r.at (by omega),fun y hy=>⟨by omega,⟨by omega,by omega,by omega⟩,Rw.pln sb.r,by omega,Rw.pln sb.r,by omega,B (hx.b.int hy) sb (by show(List.take _ _).length<=_;rw[List.length_take,List.length_drop];omega)⟩⟩)
end V
end Go.Proofs.YtnhbcdnmfafbiaaGreatDoor
set_option maxRecDepth 100000
namespace Go.Proofs.YtnhbcdnmfafbiaaGreatDoor
namespace V
open Go.Proofs
noncomputable def va (m:Nat):List Arg->Option Ct:=kA (aC (aP fE) <|aC aI <|aC (aG fW) aN) fun a=>cVa a.1 a.2.1 (jQ8 m a.1 a.2.1 a.2.2.1)
structure ClPr (e:Em) (n:Int) (w:Wn):Prop where
 n0:0<=n
 k0:(jm e.ns n).k=12
 r:sm w.r
 h:EmB e (CC*wt e.ns n) (wt e.ns n)
noncomputable def ctD (m:Nat):Cts:=ctp 99 (pn m) <|ctp 142 (va m) <|ctp 143 (kA (aC (aP fE) <|aC aI <|aC (aG fW) aN) fun a=>cVa a.1 a.2.1 (ClPr a.1 a.2.1 a.2.2.1)) (ctC m)
theorem jOx {m:Nat}(h:Good T (ctR m)):Good T (ctD m):=by
 unfold ctD pn va;have hC:=jL9 h;refine Good.add (Good.add (Good.add hC ?_) ?_) ?_
 .rintro a ⟨h1,hk,h3,h4⟩;exact jZm hC h1 hk _ h3 h4
 .rintro a ⟨h1,hk,h2,h3,h4⟩;exact jUT hC h1 hk h2 _ h3 h4
 .rintro a ⟨h1,hk,h2,h3,h4⟩;exact jZp hC h1 hk h2 _ h3 h4
def pq (p:Em->Em->Prop) (m:Nat) (e:Em) (n:Int) (w:Wn):Prop:=jQ8 m e n w/\∀x:Unit × Em,p e x.2->p e x.2
def vq (m:Nat) (e:Em) (n:Int) (w:Wn):Prop:=jNA m e n/\∀x:Unit × Em,EmP (CC*jJT e.ns n (jm e.ns n).s.length+2*(jm e.ns n).s.length) (jKc e.ns n (jm e.ns n).s.length) 0 (jJT e.ns n (jm e.ns n).s.length+(jm e.ns n).s.length) e x.2->(EmB x.2 2 0/\sm w.r)/\∀y:Unit × Em,EmP 2 0 0 0 x.2 y.2->EmP (CC*wt e.ns n-1) (fwt e.ns n) 0 (wt e.ns n) e y.2
def vp (m:Nat) (e:Em) (n:Int) (w:Wn) (o a b:Int) (p:C):Prop:=jNA m e n/\∀x:Unit × Em,EmP (CC*jJT e.ns n (jm e.ns n).s.length+2*(jm e.ns n).s.length) (jKc e.ns n (jm e.ns n).s.length) 0 (jJT e.ns n (jm e.ns n).s.length+(jm e.ns n).s.length) e x.2->x.2.L.length+1<=4000000000/\∀y:Unit × Em,jJP x.2 [⟨o,0,a,b,p⟩] y.2->(EmB y.2 1 0/\inI 0/\sm w.r)/\∀z:Unit × Em,EmP 1 0 0 0 y.2 z.2->EmP (CC*wt e.ns n-1) (fwt e.ns n) 0 (wt e.ns n) e z.2
theorem kpos {ns:List (List C)}{n:Int}(h:(jm ns n).k≠0):0<=n:=by
 by_cases q:n<0
 .rw[jM9 (.inl q)]at h;exact absurd rfl h
 .omega
theorem jUM {m:Nat}(jOx:Good T (ctD m)) {e:Em}{n:Int}(hm:(n+1).toNat<=m) (w:Wn) (E:sm w.r) (h:EmB e (CC*wt e.ns n) (wt e.ns n)):Tot T (cVa e n True) 101 [pE e,pI n,pW w]:=vN (⟨hE,[],[],[]⟩) (jOx) Tryz.func101 (Ns e.ns/\∀(x:N × Unit),NdX e.ns n x.1->br (decide (x.1.k=4)) (e.L.length+1<=4000000000/\∀(x:Unit × Em),jJP e [{o:=28,r:=w.r,x:=0,y:=0,p:=.ui}] x.2->EmP (CC*wt e.ns n-1) (fwt e.ns n) 0 (wt e.ns n) e x.2) (br (decide (x.1.k=7)) (pq (EmP (CC*wt e.ns n-1) (fwt e.ns n) 0 (wt e.ns n)) m e n w) (br (decide (x.1.k=12)) (ClPr e n w/\∀(x:Unit × Em),EmP (CC*wt e.ns n-1) (fwt e.ns n) 0 (wt e.ns n) e x.2->EmP (CC*wt e.ns n-1) (fwt e.ns n) 0 (wt e.ns n) e x.2) (br (decide (x.1.k=13)) (true=true/\vq m e n w) (br (decide (x.1.k=14)) (true=true/\vq m e n w) (br (decide (x.1.k=15)) (true=true/\vq m e n w) (br (decide (x.1.k=16)) (true=true/\vq m e n w) (br (decide (x.1.k=17)) (true=true/\vq m e n w) (br (decide (x.1.k=20)) (true=true/\vq m e n w) (br (decide (x.1.k=22)) (true=true/\vq m e n w) (br (decide (x.1.k=23)) (vq m e n w) (br (decide (x.1.k=21)) (vp m e n w 27 0 0 (.ui)) (br (decide (x.1.k=24)) (vp m e n w 25 1 2 (.ui)) ((EmB e (2*(jm e.ns n).b.length+1) 0/\sm w.r)/\∀(x:Unit × Em),EmP (2*(jm e.ns n).b.length+1) 0 0 0 e x.2->EmP (CC*wt e.ns n-1) (fwt e.ns n) 0 (wt e.ns n) e x.2)))))))))))))) (by kernel_rfl) (by
 have Y:=jMh e.ns n;have P:CC*wt e.ns n=24000*wt e.ns n:=rfl;have O:CC*jJT e.ns n (jm e.ns n).s.length=24000*jJT e.ns n (jm e.ns n).s.length:=rfl;have V:=h.b;have z:sm 0:=jJH (by omega) (by omega);have wb:=jB e.ns n
 have op:0<=n->(jm e.ns n).k≠12->jNA m e n:=fun hn hk=>⟨hn,hm,by have:=jLT (ns:=e.ns) hn hk;exact h.up (by omega) (by omega)⟩
 have G:0<=n->(jm e.ns n).k≠12->vq m e n w:=fun hn hk=>by
  have we:=jLT (ns:=e.ns) hn hk;have M:=jMH (ns:=e.ns) hn hk;refine⟨op hn hk,fun⟨_,e1⟩ p=>⟨⟨(p.r 2 0 (h.up (by omega) (by omega))).up (by omega) (by omega),E⟩,fun⟨_,e2⟩ q=>(p.trans q).up (by omega) (by omega) (by omega) (by omega)⟩⟩
 have a2:0<=n->(jm e.ns n).k≠12->∀(o a b:Int) (p:C),(0<=o/\o<=100)/\(0<=a/\a<=9)/\(0<=b/\b<=9)->(p=I 0\/p= .ui/\pop o=true)->vp m e n w o a b p:=fun hn hk o a b pp q hp=>by
  have we:=jLT (ns:=e.ns) hn hk;have M:=jMH (ns:=e.ns) hn hk;refine⟨op hn hk,fun⟨_,e1⟩ p=>?_⟩;have b1:=p.r 2 0 (h.up (by omega) (by omega));have J:=b1.b
  dsimp only at J ⊢
  refine⟨by omega,fun⟨_,e2⟩ hl=>?_⟩;have B:=hl.p (one ⟨jJH (by dsimp only;omega) (by dsimp only;omega),z,jJH (by dsimp only;omega) (by dsimp only;omega),jJH (by dsimp only;omega) (by dsimp only;omega),hp⟩);simp only[List.length_singleton]at B;exact⟨⟨(B.r 1 0 (b1.up (by omega) (by omega))).up (by omega) (by omega),⟨by omega,by omega⟩,E⟩,fun⟨_,e3⟩ q=>(p.trans (B.trans q)).up (by omega) (by omega) (by omega) (by omega)⟩
 have a3:0<=n->(jm e.ns n).k≠12->∀p,pq p m e n w:=fun hn hk p=>⟨⟨hn,hk,hm,E,h⟩,fun _ h=>h⟩
 refine⟨h.ns,fun⟨x,_⟩ ⟨ex,hx⟩=>?_⟩
 dsimp only at ex hx ⊢
 subst ex;have po:∀{k:Int},decide ((jm e.ns n).k=k)=true->k≠0->0<=n:=fun h1 h2=>kpos (by rw[dt h1];exact h2);have B:∀{k:Int},decide ((jm e.ns n).k=k)=true->k≠12->(jm e.ns n).k≠12:=fun h1 h2=>by rw[dt h1];exact h2
 refine⟨fun _=>⟨by omega,fun⟨_,e1⟩ hl=>(hl.p (one ⟨jJH (by simp) (by simp),E,z,z,.inr ⟨rfl,rfl⟩⟩)).up (by simp only[List.length_singleton];omega) (by omega) (by omega) (by omega)⟩,fun _=>?_⟩
 have fin:(EmB e (2*(jm e.ns n).b.length+1) 0/\sm w.r)/\∀x:Unit × Em,EmP (2*(jm e.ns n).b.length+1) 0 0 0 e x.2->EmP (CC*wt e.ns n-1) (fwt e.ns n) 0 (wt e.ns n) e x.2:=⟨⟨h.up (by omega) (by omega),E⟩,fun⟨_,e1⟩ p=>p.up (by omega) (by omega) (by omega) (by omega)⟩
 repeat' first|exact fin|(refine⟨fun hk=>?_,fun _=>?_⟩ <;> first|exact⟨⟨po hk (by omega),dt hk,E,h⟩,fun _ h=>h⟩|exact a3 (po hk (by omega)) (B hk (by omega)) _|exact⟨rfl,G (po hk (by omega)) (B hk (by omega))⟩|exact G (po hk (by omega)) (B hk (by omega))|exact a2 (po hk (by omega)) (B hk (by omega)) _ _ _ _ (by omega) (.inr ⟨rfl,rfl⟩)|skip))
structure VaPr (m:Nat) (e:Em) (n:Int) (w:Wn):Prop where
 m0:(n+1).toNat<=m
 r:sm w.r
 h:EmB e (CC*wt e.ns n) (wt e.ns n)
noncomputable def ctV (m:Nat):Cts:=ctp 101 (kA (aC (aP fE) <|aC aI <|aC (aG fW) aN) fun a=>cVa a.1 a.2.1 (VaPr m a.1 a.2.1 a.2.2.1)) (ctD m)
theorem jQr {m:Nat}(h:Good T (ctR m)):Good T (ctV m):=by
 unfold ctV;refine Good.add (jOx h) ?_;rintro a ⟨B,h2,E⟩;exact jUM (jOx h) B _ h2 E
theorem jWn {m:Nat}(jQr:Good T (ctV m)) {e:Em}{n:Int}(hm:(n+1).toNat<=m) (w:Wn) (E:sm w.r) (h:EmB e (CC*wt e.ns n) (wt e.ns n)):Tot T (cPt e n True) 50 [pE e,pI n,pW w]:=vN (⟨hE,[],[],[]⟩) (jQr) Tryz.func50 (Ns e.ns/\∀(x:N × Unit),NdX e.ns n x.1->br (decide (x.1.k=8)) (pq (EmP (CC*wt e.ns n) (fwt e.ns n) 0 (wt e.ns n)) m e n w) (br (decide (x.1.k=10)) (pq (EmP (CC*wt e.ns n) (fwt e.ns n) 0 (wt e.ns n)) m e n w) (br (decide (x.1.k=18)) (jNC m e n/\∀(x:Unit × Em),EmP (CC*wt e.ns (jnF e.ns n 0)) (fwt e.ns (jnF e.ns n 0)) 0 (wt e.ns (jnF e.ns n 0)) e x.2->Ns x.2.ns/\∀(x_1:Int × Unit),jKh x.2.ns n 1 x_1.1->jLO m x.2 x_1.1 w/\∀(x_2:Unit × Em),EmP (CC*wt x.2.ns x_1.1) (fwt x.2.ns x_1.1) 0 (wt x.2.ns x_1.1) x.2 x_2.2->EmP (CC*wt e.ns n) (fwt e.ns n) 0 (wt e.ns n) e x_2.2) (br (decide (x.1.k=11)) (pq (EmP (CC*wt e.ns n) (fwt e.ns n) 0 (wt e.ns n)) m e n w) (br (decide (x.1.k=19)) (pq (EmP (CC*wt e.ns n) (fwt e.ns n) 0 (wt e.ns n)) m e n w) (VaPr m e n w/\∀(x:Unit × Em),EmP (CC*wt e.ns n-1) (fwt e.ns n) 0 (wt e.ns n) e x.2->br w.l (x.2.L.length+1<=4000000000/\∀(x_1:Unit × Em),jJP x.2 [{o:=33,r:=0,x:=0,y:=0,p:=I 0}] x_1.2->EmP (CC*wt e.ns n) (fwt e.ns n) 0 (wt e.ns n) e x_1.2) (EmP (CC*wt e.ns n) (fwt e.ns n) 0 (wt e.ns n) e x.2))))))) (by kernel_rfl) (by
 have V:=jMh e.ns n;have M:CC*wt e.ns n=24000*wt e.ns n:=rfl;have z:sm 0:=jJH (by omega) (by omega)
 have a3:0<=n->(jm e.ns n).k≠12->∀p,pq p m e n w:=fun hn hk p=>⟨⟨hn,hk,hm,E,h⟩,fun _ h=>h⟩
 refine⟨h.ns,fun⟨x,_⟩ ⟨ex,hx⟩=>?_⟩
 dsimp only at ex hx ⊢
 subst ex;have po:∀{k:Int},decide ((jm e.ns n).k=k)=true->k≠0->0<=n:=fun h1 h2=>kpos (by rw[dt h1];exact h2);have B:∀{k:Int},decide ((jm e.ns n).k=k)=true->k≠12->(jm e.ns n).k≠12:=fun h1 h2=>by rw[dt h1];exact h2
 refine⟨fun hk=>a3 (po hk (by omega)) (B hk (by omega)) _,fun _=>⟨fun hk=>a3 (po hk (by omega)) (B hk (by omega)) _,fun _=>⟨fun hk=>?_,fun _=>⟨fun hk=>a3 (po hk (by omega)) (B hk (by omega)) _,fun _=>⟨fun hk=>a3 (po hk (by omega)) (B hk (by omega)) _,fun _=>⟨⟨hm,E,h⟩,fun⟨_,e1⟩ p=>?_⟩⟩⟩⟩⟩⟩
 .have hn:=po hk (by omega)
  have P:=wt3 (ns:=e.ns) hn (B hk (by omega));have O:=fw3 (ns:=e.ns) hn (B hk (by omega));have c0:CC*wt e.ns (jnF e.ns n 0)=24000*wt e.ns (jnF e.ns n 0):=rfl;have J:CC*wt e.ns (jnF e.ns n 1)=24000*wt e.ns (jnF e.ns n 1):=rfl;have kl:=jKC (ns:=e.ns) hn 1;refine⟨⟨hn,hm,h.up (by omega) (by omega)⟩,fun⟨_,e1⟩ p=>?_⟩;have G:=p.ns
  dsimp only at G ⊢
  rw[G];refine⟨h.ns,fun⟨k,_⟩ ⟨ek,_⟩=>?_⟩
  dsimp only at ek ⊢
  subst ek;exact⟨⟨by omega,E,by rw[G];exact(p.r (CC*wt e.ns (jnF e.ns n 1)) (wt e.ns (jnF e.ns n 1)) (h.up (by omega) (by omega))).up (by omega) (by omega)⟩,fun⟨_,e2⟩ q=>(p.trans q).up (by omega) (by omega) (by omega) (by omega)⟩
 .have b1:=(p.r 1 0 (h.up (by omega) (by omega))).b
  dsimp only at b1 ⊢
  exact⟨fun _=>⟨by omega,fun⟨_,e2⟩ hl=>(p.trans (hl.p (one ⟨jJH (by simp) (by simp),z,z,z,.inl rfl⟩))).up (by simp only[List.length_singleton];omega) (by omega) (by omega) (by omega)⟩,fun _=>p.up (by omega) (by omega) (by omega) (by omega)⟩)
theorem ctR_ok:∀m,Good T (ctR m)
 |0=>by
  unfold ctR;refine Good.add (Good.add jQv ?_) ?_
  .rintro a ⟨h1,h2⟩;exact jSl _ h1 h2
  .rintro a ⟨h1,h2,h3⟩;exact absurd h1 (Nat.not_lt_zero _)
 |m+1=>by
  have ih:=jQr (ctR_ok m);unfold ctR;refine Good.add (Good.add jQv ?_) ?_
  .rintro a ⟨h1,h2⟩;exact jSl _ h1 h2
  .rintro a ⟨h1,h2,h3⟩;exact jWn ih (by omega) _ h2 h3
end V
end Go.Proofs.YtnhbcdnmfafbiaaGreatDoor
set_option maxRecDepth 100000
namespace Go.Proofs.YtnhbcdnmfafbiaaGreatDoor
namespace V
open Go.Proofs
structure CfS where
 (a b c d:Int)
def fCF:Pz (List C):=⟨CfS,fun x=>[I x.a,I x.b,I x.c,I x.d],fun l=>match l with
 |[.i .i64 a,.i .i64 b,.i .i64 c,.i .i64 d]=>some ⟨a,b,c,d⟩
 |_=>none,fun b x e=>by split at e <;> cases e;rfl⟩
structure jKn (x:CfS):Prop where
 a:sm x.a
 b:sm x.b
 c:sm x.c
 d:0<=x.d/\x.d<=6000
structure E5 where
 (ns fs F K L:List (List C))
 (x:C)
def fE5:Pz (List C):=⟨E5,fun e=>[.r false 13 e.ns,.r true 4 e.fs,.r true 4 e.F,.r true 1 e.K,.r true 5 e.L,e.x],fun l=>match l with
 |[.r false 13 ns,.r true 4 fs,.r true 4 F,.r true 1 K,.r true 5 L,x]=>some ⟨ns,fs,F,K,L,x⟩
 |_=>none,fun b x e=>by split at e <;> cases e;rfl⟩
def E5.m (e:E5) (fc:List C):Em:=⟨e.ns,e.fs,e.F,e.K,e.L,fc⟩
structure EmC (e:E5) (b:Nat):Prop where
 h:∀fc,jJL fc 0->EmB (e.m fc) b 6000
 F:Rw fCF jKn e.F
 n:e.F.length<=1000000
structure WhR (e:E5) (g:GS) (e':E5):Prop where
 r:∀b,EmC e (b+(CC*wt e.ns g.b+g.p.length+1))->e.F.length<1000000->EmC e' b
 ns:e'.ns=e.ns
 F:e'.F.length=e.F.length+1
 g:∃g':List GS,e'.fs=e.fs ++g'.map grC/\(g'.map (pot e.ns)).sum<=fwt e.ns g.b
structure WhI (e:E5) (g:GS) (e':Em) (g':GS) (x:CfS) (i:Int):Prop where
 q1:∃fc,jJL fc 0/\EmP (1+i.toNat) 0 (1+i.toNat) (1+i.toNat) (e.m fc) e'
 q2:g'=g
 q3:sm x.a/\sm x.b/\sm x.c
 q4:Ix g.p.length i
def whT:Rl Av:=.cons 0 (tA 0) <| .cons 3 (tA 3) <| .cons 4 (tA 4) <| .cons 5 (tA 5) <| .cons 6 tI .nil
def whRt:Rl Rt:=.cons 0 (rX 0 fE) <| .cons 3 (rX 1 fG) <| .cons 4 (rX 1 fCF) <| .cons 5 (rX 1 fS) .nil
def whH (e:E5) (g:GS):Hy:=⟨hE,[],[],[(8,.iv whT whRt (fun a=>WhI e g a.2.1 a.2.2.1 a.2.2.2.1 a.1.2.2.2.2.1) fun a=>ixM g.p.length a.1.2.2.2.2.1)]⟩
def whB (m:Nat) (e:E5) (g:GS):Prop:=∀a:(Unit × Unit × Unit × Unit × Int × Unit) × Em × GS × CfS × S7 × Unit,WhI e g a.2.1 a.2.2.1 a.2.2.2.1 a.1.2.2.2.2.1->(decide (a.1.2.2.2.2.1<↑a.2.2.1.p.length)=true->0<=a.1.2.2.2.2.1/\(∃y:Int,a.2.2.1.p[Int.toNat a.1.2.2.2.2.1]? =some [I y])/\∀x:Int,a.2.2.1.p[Int.toNat a.1.2.2.2.2.1]? =some [I x]->(EmB a.2.1 1 1/\inI x/\sm a.1.2.2.2.2.1)/\∀x:Unit × Em,EmP 1 0 1 1 a.2.1 x.2->WhI e g x.2 a.2.2.1 a.2.2.2.1 (wr (a.1.2.2.2.2.1+1))/\ixM g.p.length (wr (a.1.2.2.2.2.1+1))<ixM g.p.length a.1.2.2.2.2.1)/\(decide (a.1.2.2.2.2.1<↑a.2.2.1.p.length)=false->jLO m a.2.1 a.2.2.1.b ⟨0,true,⟨0,0,0,0,0,0,0⟩⟩/\∀x:Unit × Em,EmP (CC*wt a.2.1.ns a.2.2.1.b) (fwt a.2.1.ns a.2.2.1.b) 0 (wt a.2.1.ns a.2.2.1.b) a.2.1 x.2->(∃y:Int,gts x.2.fc 801 1=some [I y])/\∀y:Int,gts x.2.fc 801 1=some [I y]->x.2.F.length+1<=4000000000/\WhR e g ⟨x.2.ns,x.2.fs,x.2.F ++[[I a.2.2.2.1.a,I a.2.2.2.1.b,I a.2.2.2.1.c,I y]],x.2.K,x.2.L,.bx x.2.fc⟩)
theorem jUF {m:Nat}{e:E5}{g:GS}(G:GOk g) (hm:(g.b+1).toNat<m) (hq:1+g.p.length+wt e.ns g.b<=6000) (h:EmC e (CC*wt e.ns g.b+g.p.length+1)) (hF:e.F.length<1000000):whB m e g:=by
 rintro ⟨⟨_,_,_,_,i,_⟩,Y,P,x,s,_⟩ ⟨⟨fc,hf,q1⟩,q2,q3,q4⟩
 dsimp only at q1 q2 q3 q4 ⊢
 subst q2;have h0:=h.h fc hf;have J:Y.ns=e.ns:=q1.ns;have lo:=q4.lo;have hi:=q4.hi;have pn:=G.p.n;refine⟨fun hb=>?_,fun hb=>?_⟩
 .have nx:=q4.nx (by omega) hb
  have h1:=dt hb;have w1:(wr (i+1)).toNat=i.toNat+1:=by unfold wr;rw[IntKind.wrap_i64];omega
  exact⟨lo,G.p.r.at (q4.lt hb),fun x hx=>⟨⟨(q1.r 1 1 (h0.up (by omega) (by omega))).up (by omega) (by omega),G.p.int hx,jJH (by omega) (by omega)⟩,fun⟨_,e2⟩ p=>⟨⟨⟨fc,hf,by rw[w1];exact(q1.trans p).up (by omega) (by omega) (by omega) (by omega)⟩,rfl,q3,nx.1⟩,nx.2⟩⟩⟩
 .have b1:=q1.r (CC*wt e.ns P.b) (wt e.ns P.b) (h0.up (by omega) (by omega))
  refine⟨⟨hm,jJH (by simp) (by simp),by rw[J];exact b1.up (by omega) (by omega)⟩,fun⟨_,e2⟩ p=>?_⟩;rw[J]at p;have B:=q1.trans p;have O:=(B.r 0 0 (h0.up (by omega) (by omega))).fr;have E:e2.F=e.F:=B.F;have M:e2.ns=e.ns:=B.ns
  dsimp only
  refine⟨O.ask (by omega),fun y hy=>⟨by rw[E];omega,?_⟩⟩;have ys:=O.s y (jMG hy);obtain⟨V,Z,g2⟩:=B.g;refine⟨fun b hb hF=>⟨fun fc' hf'=>?_,?_,?_⟩,M,by rw[E];simp,V,Z,by have:(V.map (pot e.ns)).sum<=_:=g2;omega⟩
  .have z:=B.r b 0 ((hb.h fc hf).up (by omega) (by omega))
   exact {z with fr:=hf'.up (by omega),q:=by omega}
  .rw[E]
   exact hb.F.app (Rw.one (S:=fCF) (x:=⟨x.a,x.b,x.c,y⟩) ⟨q3.1,q3.2.1,q3.2.2,ys⟩)
  .rw[E];simp;omega
theorem jJL.zero:jJL (List.replicate 802 (I 0)) 0:=by
 have B:∀(n:Nat) k y,(List.replicate 802 (I 0))[k]? =some (I y)->0<=y/\y<=n:=fun n k y hy=>by
  rw[List.getElem?_replicate]at hy
  split at hy
  .injection hy with e;injection e with _ e;omega
  .cases hy
 exact⟨by simp,fun c hc=>⟨0,List.eq_of_mem_replicate hc,by omega,by omega⟩,B 0 800,B 6000 801⟩
theorem jUD {m:Nat}(ctR_ok:Good T (ctR m)) {e:E5}{g:GS}(B:GOk g) (hm:(g.b+1).toNat<m) (E:1+g.p.length+wt e.ns g.b<=6000) (h:EmC e (CC*wt e.ns g.b+g.p.length+1)) (hF:e.F.length<1000000):Tot T (mkc r0 (bS fE5) (fun _ e'=>WhR e g e') True) 28 [.bp (fE5.f e),.pl (.ag (fG.f g))]:=vN (whH e g) (ctR_ok) Tryz.func28 (True/\∀(x:List C × Unit),jJL x.1 0->Ns e.ns/\∀(x_1:N × Unit),NdX e.ns g.b x_1.1->inI g.i/\∀(x_2:Bool × Unit),True->br x_2.1 (true=true/\(EmB {ns:=e.ns,fs:=e.fs,F:=e.F,K:=e.K,L:=e.L,fc:=x.1} 1 1/\GOk g)/\∀(x_3:Unit × Em),EmP 1 0 1 1 {ns:=e.ns,fs:=e.fs,F:=e.F,K:=e.K,L:=e.L,fc:=x.1} x_3.2->WhI e g x_3.2 g {a:=↑e.L.length,b:=↑g.p.length,c:=1,d:=0} 0/\whB m e g) (br (decide (↑g.f.length >(0:Int))) ((EmB {ns:=e.ns,fs:=e.fs,F:=e.F,K:=e.K,L:=e.L,fc:=x.1} 1 1/\GOk g)/\∀(x_3:Unit × Em),EmP 1 0 1 1 {ns:=e.ns,fs:=e.fs,F:=e.F,K:=e.K,L:=e.L,fc:=x.1} x_3.2->WhI e g x_3.2 g {a:=↑e.L.length,b:=↑g.p.length,c:=1,d:=0} 0/\whB m e g) (WhI e g {ns:=e.ns,fs:=e.fs,F:=e.F,K:=e.K,L:=e.L,fc:=x.1} g {a:=↑e.L.length,b:=↑g.p.length,c:=0,d:=0} 0/\whB m e g))) (by kernel_rfl) (by
 have w:=jUF B hm E h hF;have pn:=B.p.n;have G:=jJL.zero;have hl:e.L.length+(CC*wt e.ns g.b+g.p.length+1)<=150000000:=(h.h _ G).b;refine⟨trivial,fun⟨fc,_⟩ hf=>⟨(h.h fc hf).ns,fun _ _=>⟨B.i,fun⟨b,_⟩ _=>?_⟩⟩⟩;have h0:EmB (e.m fc) 1 1:=(h.h fc hf).up (by omega) (by omega)
 have sl:∀c:Int,(0<=c/\c<=1)->sm (e.L.length:Int)/\sm (g.p.length:Int)/\sm c:=fun c hc=>⟨jJH (by omega) (by omega),jJH (by omega) (by omega),jJH (by omega) (by omega)⟩
 have go:(EmB (e.m fc) 1 1/\GOk g)/\∀x:Unit × Em,EmP 1 0 1 1 (e.m fc) x.2->WhI e g x.2 g ⟨e.L.length,g.p.length,1,0⟩ 0/\whB m e g:=⟨⟨h0,B⟩,fun x p=>⟨⟨⟨fc,hf,p⟩,rfl,sl 1 (by omega),by omega,by omega⟩,w⟩⟩
 exact⟨fun _=>⟨rfl,go⟩,fun _=>⟨fun _=>go,fun _=>⟨⟨⟨fc,hf,(EmP.refl 1 0 0 _).up (by omega) (by omega) (by omega) (by omega)⟩,rfl,sl 0 (by omega),by omega,by omega⟩,w⟩⟩⟩)
end V
end Go.Proofs.YtnhbcdnmfafbiaaGreatDoor
set_option maxRecDepth 100000
namespace Go.Proofs.YtnhbcdnmfafbiaaGreatDoor
namespace V
open Go.Proofs
structure WhPr (e:E5) (g:GS):Prop where
 g0:GOk g
 q0:1+g.p.length+wt e.ns g.b<=6000
 h0:EmC e (CC*wt e.ns g.b+g.p.length+1)
 F0:e.F.length<1000000
def k27 (xs:List Arg):Option Ct:=match xs with
 |[.rv [.r false 13 ns] false]=>some (mkc rI b0 (fun k _=>k=wr (ns.length-1)) (Ns ns))
 |_=>none
theorem jVO {ns:List (List C)}(h:Ns ns):Tot T (mkc rI b0 (fun k _=>k=wr (ns.length-1)) True) 27 [.pl (.ag [.r false 13 ns])]:=vF hN jOt Tryz.func27 (wr (↑ns.length-1)=wr (↑ns.length-1)) (by kernel_rfl) rfl
theorem jX0 (xs:List Arg) (k:Ct) (h:k27 xs=some k) (hp:k.pr):Tot T k 27 xs:=by
 unfold k27 at h
 split at h
 .cases h
  obtain⟨x,B,h2⟩:=jVO hp;exact⟨x,B,Does.rvp (ns:=[]) h2 rfl⟩
 .cases h
noncomputable def ctW:Cts:=ctp 27 k27 <|ctp 28 (kA (aC (aP fE5) <|aC (aG fG) aN) fun a=>mkc r0 (bS fE5) (fun _ e'=>WhR a.1 a.2.1 e') (WhPr a.1 a.2.1)) (ctR 9223372036854775810)
theorem jZa:Good T ctW:=by
 unfold ctW;refine jKu (Good.add (ctR_ok _) ?_) jX0;rintro a ⟨B,h2,E,G⟩
 have hm:(a.2.1.b+1).toNat<9223372036854775810:=by
  have J:=B.b.hi;have M:=B.b.lo;omega
 exact jUD (m:=9223372036854775810) (ctR_ok _) B hm h2 E G
structure CdS where
 (F K L:List (List C))
def fCd:Pz (List C):=⟨CdS,fun x=>[.r false 4 x.F,.r false 1 x.K,.r false 5 x.L],fun l=>match l with
 |[.r false 4 F,.r false 1 K,.r false 5 L]=>some ⟨F,K,L⟩
 |_=>none,fun b x e=>by split at e <;> cases e;rfl⟩
structure jLh (c:CdS):Prop where
 F:Rw fCF jKn c.F
 K:Rw fI inI c.K
 L:Rw fL jKy c.L
 f:c.F.length<=1000000
 k:c.K.length<=150000000
 l:c.L.length<=150000000
structure CoI (ns:List (List C)) (e:E5) (i:Int):Prop where
 q1:e.ns=ns
 q2:∃gl:List GS,e.fs=gl.map grC/\EmC e (CC*((gl.drop i.toNat).map (pot ns)).sum)/\i.toNat+((gl.drop i.toNat).map (pot ns)).sum<=6000/\Ix gl.length i/\e.F.length=i.toNat
def coM (i:Int):Nat:=6001-i.toNat
def coT:Rl Av:=.cons 2 (tA 2) <| .cons 3 (tA 8) <| .cons 4 tI .nil
def coR:Rl Rt:=.cons 2 (rX 1 fCd) <| .cons 8 (rX 1 fE5) .nil
def hC:Hx:=⟨fun z=>cond (Nat.beq z 4) (eS fG) eI,false,fun _=>none,false,false⟩
noncomputable def coH (ns:List (List C)):Hy:=⟨hC,[],[],[(4,.iv coT coR (fun a=>CoI ns a.2.2.1 a.1.2.2.1) fun a=>coM a.1.2.2.1)]⟩
theorem jKy.pl {l:LnS}(h:jKy l):(fL.f l).all plain=true:=by
 obtain⟨o,r,x,y,p⟩:=l;rcases h.p with e|⟨e,_⟩ <;> dsimp only at e <;> subst e <;> rfl
theorem Rw.ply {S:Pz (List C)}{p:S.α->Prop}{l:List (List C)}(h:Rw S p l) (B:∀x,p x->(S.f x).all plain=true):V.pln l:=List.all_eq_true.2 fun e he=>by
 obtain⟨x,hx,hp⟩:=h e he;rw[hx];exact B x hp
theorem Rw.plx {S:Pz (List C)}{p:S.α->Prop}{l:List (List C)}(h:Rw S p l) (B:∀x,(S.f x).all plain=true):V.pln l:=List.all_eq_true.2 fun e he=>by
 obtain⟨x,hx,_⟩:=h e he;rw[hx];exact B x
theorem jTE {x y:GS}(e:fG.f x=fG.f y):x=y:=by
 obtain⟨a,b,c,d⟩:=x;obtain⟨B,b',c',d'⟩:=y;simp only[fG,I,List.cons.injEq,C.i.injEq,C.r.injEq,true_and,and_true]at e;obtain⟨rfl,rfl,rfl,rfl⟩:=e;rfl
theorem Jac {ns:List (List C)}(h:Ns ns) (Z:1+wt ns (wr (ns.length-1))+fwt ns (wr (ns.length-1))<=6000):Tot T (mkc (rS fCd) b0 (fun c _=>jLh c) True) 14 [.pl (.ag [.r false 13 ns])]:=vR (coH ns) jZa [(2,0),(2,1),(2,2)] [false] Tryz.func14 (Ns ns/\∀(x:Int × Unit),x.1=wr (↑ns.length-1)->1<=4000000000/\CoI ns {ns:=ns,fs:=[[I ((-1)),.r false 1 [],.r false 1 [],I x.1]],F:=[],K:=[],L:=[],x:=C.pn} 0/\∀(a:(Unit × Unit × Int × Unit) × CdS × E5 × Unit),CoI ns a.2.2.1 a.1.2.2.1->br (decide (a.1.2.2.1<↑a.2.2.1.fs.length)) (0<=a.1.2.2.1/\Int.toNat a.1.2.2.1<a.2.2.1.fs.length/\(∃(y:GS),a.2.2.1.fs[Int.toNat a.1.2.2.1]? =some (fG.f y))/\∀(x:GS),a.2.2.1.fs[Int.toNat a.1.2.2.1]? =some (fG.f x)->WhPr a.2.2.1 x/\∀(x_1:Unit × E5),WhR a.2.2.1 x x_1.2->CoI ns x_1.2 (wr (a.1.2.2.1+1))/\coM (wr (a.1.2.2.1+1))<coM a.1.2.2.1) (pln a.2.2.1.F/\pln a.2.2.1.K/\pln a.2.2.1.L/\jLh {F:=a.2.2.1.F,K:=a.2.2.1.K,L:=a.2.2.1.L})) (by kernel_rfl) (by
 have Y:inI (wr (ns.length-1)):=by unfold wr;rw[IntKind.wrap_i64];constructor <;> omega
 refine⟨h,fun⟨x,_⟩ ex=>⟨by omega,?_,fun⟨⟨_,_,i,_⟩,c,e,_⟩ ⟨q1,gl,q2,q3,q4,q5,q6⟩=>?_⟩⟩
 .dsimp only at ex ⊢
  subst ex;have sp:((([⟨-1,[],[],wr (ns.length-1)⟩]:List GS).drop (0:Int).toNat).map (pot ns)).sum=1+wt ns (wr (ns.length-1))+fwt ns (wr (ns.length-1)):=by simp[pot]
  refine⟨rfl,[⟨-1,[],[],wr (ns.length-1)⟩],rfl,?_,?_,⟨by omega,by simp⟩,rfl⟩
  .rw[sp]
   have cc:CC*(1+wt ns (wr (ns.length-1))+fwt ns (wr (ns.length-1)))=24000*(1+wt ns (wr (ns.length-1))+fwt ns (wr (ns.length-1))):=rfl;refine⟨fun fc hf=>⟨h,hf.up (by omega),by omega,?_,Rw.nil,Rw.nil,?_,Rw.one (S:=fG) (x:=⟨-1,[],[],wr (ns.length-1)⟩) ⟨⟨by simp,by simp⟩,Nr.nil,Nr.nil,Y⟩,?_⟩,Rw.nil,by simp⟩
   .show 0+_<=150000000;omega
   .show 0+_<=150000000;omega
   .show 1+_<=150000001;omega
  .rw[sp];simp;omega
 .dsimp only at q1 q2 q3 q4 q5 q6 ⊢
  subst q1;have lo:=q5.lo;have hi:=q5.hi;have hl:e.fs.length=gl.length:=by rw[q2];simp
  have z:=q3.h _ jJL.zero;refine⟨fun hb=>?_,fun _=>?_⟩
  .have hb':=dt hb
   have M:i.toNat<gl.length:=by omega
   have G:e.fs[i.toNat]? =some (fG.f gl[i.toNat]):=by
    rw[q2,List.getElem?_map,List.getElem?_eq_getElem M];rfl
   refine⟨lo,by omega,⟨_,G⟩,fun g hg=>?_⟩;have e0:g=gl[i.toNat]:=jTE (Option.some.inj (hg.symm.trans G))
   have J:GOk g:=by
    obtain⟨y,P,hy⟩:=Rw.of (S:=fG) z.fs hg;rw[jTE P];exact hy
   have O:((gl.drop i.toNat).map (pot e.ns)).sum=pot e.ns g+((gl.drop (i.toNat+1)).map (pot e.ns)).sum:=by
    rw[List.drop_eq_getElem_cons M,List.map_cons,List.sum_cons,e0]
   have po:pot e.ns g=1+g.p.length+wt e.ns g.b+fwt e.ns g.b:=rfl;rw[O]at q3 q4;have B:∀a,CC*a=24000*a:=fun _=>rfl;have w1:(wr (i+1)).toNat=i.toNat+1:=by unfold wr;rw[IntKind.wrap_i64];omega
   have wi:wr (i+1)=i+1:=by unfold wr;rw[IntKind.wrap_i64];omega
   have up:∀{b b'},b'<=b->EmC e b->EmC e b':=fun hb h=>⟨fun fc hf=>(h.h fc hf).up hb (Nat.le_refl _),h.F,h.n⟩
   refine⟨⟨J,by omega,up (by rw[B,B];omega) q3,by omega⟩,fun⟨_,e'⟩ w=>⟨⟨w.ns,?_⟩,by unfold coM;rw[w1];omega⟩⟩;obtain⟨E,V,g2⟩:=w.g;have hd:(gl ++E).drop (i.toNat+1)=gl.drop (i.toNat+1) ++E:=by rw[List.drop_append_of_le_length (by omega)]
   have sm:(((gl ++E).drop (i.toNat+1)).map (pot e.ns)).sum=((gl.drop (i.toNat+1)).map (pot e.ns)).sum+(E.map (pot e.ns)).sum:=by rw[hd,List.map_append,List.sum_append]
   refine⟨gl ++E,by rw[V,q2,List.map_append],?_,?_,⟨by omega,?_⟩,?_⟩
   .rw[w1,sm]
    refine w.r _ (up ?_ q3) (by omega);rw[B,B,B];omega
   .rw[w1,sm];omega
   .rw[wi,List.length_append];omega
   .rw[w.F,w1];omega
  .exact⟨q3.F.plx fun _=>rfl,z.K.plx fun _=>rfl,z.L.ply fun _ h=>h.pl,q3.F,z.K,z.L,q3.n,by have:=z.k;have:e.K.length+_<=150000000:=this;show e.K.length<=_;omega,by have:=z.b;have:e.L.length+_<=150000000:=this;show e.L.length<=_;omega⟩)
end V
end Go.Proofs.YtnhbcdnmfafbiaaGreatDoor
