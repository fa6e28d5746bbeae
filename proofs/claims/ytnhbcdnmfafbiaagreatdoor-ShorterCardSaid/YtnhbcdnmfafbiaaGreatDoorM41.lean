import Derived.Test.YtnhbcdnmfafbiaaGreatDoorM30
import Derived.Test.YtnhbcdnmfafbiaaGreatDoorM37
import Derived.Test.YtnhbcdnmfafbiaaGreatDoorM38
import Derived.Test.YtnhbcdnmfafbiaaGreatDoorM40
set_option linter.unusedVariables false
set_option linter.unusedSimpArgs false
set_option maxHeartbeats 20000000
set_option maxRecDepth 100000
namespace Go.Proofs.YtnhbcdnmfafbiaaGreatDoor
namespace V
open Go.Proofs
inductive TrA (ps:List (List C)):Int->Te->Prop
 |nd {n k w m:Int}{ns:List ByteArray}{ks:List Te}{s:List (List C)}(h0:0<=n) (h:jJI ps n=⟨k,w,m,nmC ns,s⟩) (sh:Sh k w m ns ks.length) (hl:s.length=ks.length) (hk:∀(i:Nat) (t:Te),ks[i]? =some t->TrA ps (jJO ps n i) t):TrA ps n (.n k w m ns ks)
theorem TrA.un {ps:List (List C)}{n:Int}{t:Te}(h:TrA ps n t):∀{t':Te},TrA ps n t'->t=t':=by
 induction h with
 |@nd n k w m ns ks s h0 h sh hl hk ih=>
  intro t' B
  cases B with
  |@nd _ k' w' m' ns' ks' s' h0' B sh' hl' hk'=>
   rw[h]at B;injection B with e1 e2 e3 e4 e5
   subst e1 e2 e3 e5;rw[JaW e4]
   have:ks=ks':=by
    apply List.ext_getElem?;intro i
    by_cases hi:i<ks.length
    .have a:=List.getElem?_eq_getElem hi
     have b:=List.getElem?_eq_getElem (show i<ks'.length by omega);rw[a,b,ih i _ a (hk' i _ b)]
    .rw[List.getElem?_eq_none (by omega),List.getElem?_eq_none (by omega)]
   rw[this]
noncomputable def teA (ps:List (List C)) (n:Int):Te:=open Classical in if h:∃t,TrA ps n t then h.choose else .n 0 0 0 [] []
theorem TrA.eq {ps:List (List C)}{n:Int}{t:Te}(h:TrA ps n t):teA ps n=t:=by
 unfold teA
 have B:∃t,TrA ps n t:=⟨t,h⟩
 rw[dif_pos B];exact B.choose_spec.un h
noncomputable def kdA (ps:List (List C)) (n k i:Int):List Wd:=mi (wnt k i.toNat) (teA ps (jJO ps n i))
noncomputable def kdW (ps:List (List C)) (n k:Int) (j:Nat):List (List Wd):=(List.range j).map fun i:Nat=>kdA ps n k i
theorem Jcp (ps:List (List C)) (n k:Int) (j:Nat):(kdW ps n k j).length=j:=by unfold kdW;rw[List.length_map,List.length_range]
theorem JdL (ps:List (List C)) (n k:Int) (j:Nat):kdW ps n k (j+1)=kdW ps n k j ++[kdA ps n k j]:=by unfold kdW;rw[List.range_succ,List.map_append];rfl
theorem JgW (ps:List (List C)) (n k:Int) {i j:Nat}(h:i<=j):∃r,kdW ps n k j=kdW ps n k i ++r:=by
 induction h with
 |refl=>exact⟨[],by simp⟩
 |step _ ih=>obtain⟨r,e⟩:=ih;exact⟨r ++[kdA ps n k _],by rw[JdL,e,List.append_assoc]⟩
structure Wg (w:WrS) (tot:List Wd) (w1:WrS) (rest:List Wd):Prop where
 p:WrP w (twl tot+1)
 e:∃u,tot=u ++rest/\WtR w u w1
theorem Wg.start {w:WrS}{tot:List Wd}(h:WrP w (twl tot+1)):Wg w tot w tot:=⟨h,[],rfl,.refl h⟩
theorem Wg.pre {w w1:WrS}{tot v rest:List Wd}(h:Wg w tot w1 (v ++rest)):WrP w1 (twl v+1):=by
 obtain⟨p,u,e,r⟩:=h;rw[e,JaI,JaI]at p;exact r.wr (p.le (by omega))
theorem Wg.step {w w1 w2:WrS}{tot v rest:List Wd}(h:Wg w tot w1 (v ++rest)) (B:WtR w1 v w2):Wg w tot w2 rest:=by
 obtain⟨p,u,e,r⟩:=h;exact⟨p,u ++v,by rw[e,List.append_assoc],r.trans B⟩
theorem Wg.fin {w w1:WrS}{tot:List Wd}(h:Wg w tot w1 []):WtR w tot w1:=by
 obtain⟨p,u,e,r⟩:=h;rw[e,List.append_nil];exact r
theorem Wg.ps {w w1:WrS}{tot rest:List Wd}(h:Wg w tot w1 rest):w1.ps=w.ps:=by
 obtain⟨p,u,e,r⟩:=h;exact r.p
structure NdP (m:Nat) (ps:List (List C)) (n:Int) (x:PtS):Prop where
 z:(n+1).toNat<=m
 p:Ps ps
 e:jJI ps n=x
 g:0<=n
 s:Sh x.k x.w x.n (nsD x.m) x.s.length
 y:x.m=nmC (nsD x.m)
 i:inI x.n
 t:∀i:Nat,i<x.s.length->TrA ps (jJO ps n i) (teA ps (jJO ps n i))
structure KdP (m:Nat) (w:WrS) (n:Int) (x:PtS) (i:Int):Prop where
 d:NdP m w.ps n x
 l:0<=i/\i<x.s.length
 b:WrP w (twl (kdA w.ps n x.k i)+1)
structure PaP (m:Nat) (w:WrS) (n r:Int):Prop where
 z:(n+1).toNat<m
 p:Ps w.ps
 t:TrA w.ps n (teA w.ps n)
 q:0<=r
 b:WrP w (twl (mi r.toNat (teA w.ps n))+1)
structure NnP (i:Int):Prop where
 l:0<=i
def cWu (w:WrS) (u:List Wd) (p:Prop):Ct:=mkc r0 bWr (fun _ w'=>WtR w u w') p
noncomputable def JaR (m:Nat):Cts:=ctp 24 (kA (aC (aP fWr) <|aC aI <|aC aI aN) fun a=>cWu a.1 (mi (Int.toNat a.2.2.1) (teA a.1.ps a.2.1)) (PaP m a.1 a.2.1 a.2.2.1)) <|ctp 40 (kP2 fun ps n=>cP ps n (Ps ps)) <|ctp 54 (kA (aC (aG fT6) <|aC aI <|aC aI aN) fun a=>cPk a.1 a.2.1 a.2.2.1 (Ps a.1)) <|ctp 41 (kA (aC aI aN) fun a=>mkc rI b0 (fun r _=>r=rkI a.1) True) <|ctp 134 (kA (aC aI <|aC aI aN) fun a=>mkc rI b0 (fun r _=>r=wnI a.1 a.2.1) (NnP a.2.1)) <|ctp 83 (kA (aC (aP fWr) <|aC (aR 1) <|aC aI aN) fun a=>cWu a.1 (lsW a.2.1 a.2.2.1) (LsQ a.1 a.2.1 a.2.2.1)) <|ctp 82 (kA (aC (aP fWr) <|aC aI aN) fun a=>cWu a.1 [nW a.2.1] (WrP a.1 (twl [nW a.2.1]+1)/\inI a.2.1)) JcC
theorem JeV {m:Nat}(h:Good T1 (JaR m)) {w:WrS}{n:Int}{x:PtS}{i:Int}(hk:KdP m w n x i):Tot T1 (cWu w (kdA w.ps n x.k i) True) 87 [pWr w,pI n,.pl (.ag (fPt.f x)),pI i]:=vN (⟨hWs,[],[],[]⟩) (h) Tryz.func87 (Ps w.ps/\∀(x_1:Int × Unit),PkX w.ps n i x_1.1->NnP i/\∀(x_2:Int × Unit),x_2.1=wnI x.k i->PaP m w x_1.1 x_2.1/\∀(x_3:Unit × WrS),WtR w (mi (Int.toNat x_2.1) (teA w.ps x_1.1)) x_3.2->WtR w (kdA w.ps n x.k i) x_3.2) (by kernel_rfl) (by
 obtain⟨d,hl,B⟩:=hk;refine⟨d.p,fun⟨j,_⟩ ⟨ej,_⟩=>⟨⟨hl.1⟩,fun⟨r,_⟩ er=>?_⟩⟩
 dsimp only at ej er ⊢
 subst ej er;have t:=d.t i.toNat (by omega);rw[show((i.toNat:Nat):Int)=i by omega]at t;have lt:=jLn (ps:=w.ps) d.g i;have z:=d.z;have:=d.g
 exact⟨⟨by omega,d.p,t,by unfold wnI;omega,B⟩,fun _ hw=>hw⟩)
structure Jav (m:Nat) (w:WrS) (n:Int) (x:PtS) (k:Int):Prop where
 d:NdP m w.ps n x
 s:k=0\/(3<=k/\k<=34)
 b:WrP w (twl (jn (kwW k) (kdW w.ps n x.k x.s.length))+1)
 l:x.s.length<=100000
noncomputable def Ja3 (m:Nat):Cts:=ctp 87 (kA (aC (aP fWr) <|aC aI <|aC (aG fPt) <|aC aI aN) fun a=>cWu a.1 (kdA a.1.ps a.2.1 a.2.2.1.k a.2.2.2.1) (KdP m a.1 a.2.1 a.2.2.1 a.2.2.2.1)) (JaR m)
theorem Jec {m:Nat}(h:Good T1 (JaR m)):Good T1 (Ja3 m):=by
 unfold Ja3;refine Good.ad1 h ?_;rintro a hk;exact JeV h hk
structure Jbf (w:WrS) (n:Int) (x:PtS) (k:Int) (w':WrS) (n':Int) (k':Int) (x':PtS) (i:Int):Prop where
 e:n'=n/\k'=k/\x'=x
 l:0<=i/\i<=x.s.length
 r:WtR w (jn (kwW k) (kdW w.ps n x.k i.toNat)) w'
def wksT:Rl Av:=.cons 0 (tA 0) <| .cons 1 tI <| .cons 3 tI <| .cons 6 (tA 6) <| .cons 8 tI .nil
def JeT:Rl Rt:=.cons 0 (rX 0 fWr) <| .cons 6 (rX 1 fPt) .nil
noncomputable def wksH (w:WrS) (n:Int) (x:PtS) (k:Int):Hy:=⟨hWs,[],[],[(2,.iv wksT JeT (fun q=>Jbf w n x k q.2.1 q.1.2.1 q.1.2.2.1 q.2.2.1 q.1.2.2.2.2.1) fun q=>ixM x.s.length q.1.2.2.2.2.1)]⟩
theorem JeU {m:Nat}(h:Good T1 (Ja3 m)) {w:WrS}{n:Int}{x:PtS}{k:Int}(hk:Jav m w n x k):Tot T1 (cWu w (jn (kwW k) (kdW w.ps n x.k x.s.length)) True) 84 [pWr w,pI n,.pl (.ag (fPt.f x)),pI k]:=vN (wksH w n x k) (h) Tryz.func84 (Jbf w n x k w n k x 0/\∀(a:(Unit × Int × Int × Unit × Int × Unit) × WrS × PtS × Unit),Jbf w n x k a.2.1 a.1.2.1 a.1.2.2.1 a.2.2.1 a.1.2.2.2.2.1->br (decide (a.1.2.2.2.2.1<↑a.2.2.1.s.length)) (br (decide (a.1.2.2.2.2.1 >0)) (WoP a.2.1 a.1.2.2.1/\∀(x_1:Unit × WrS),WtR a.2.1 (kwW a.1.2.2.1) x_1.2->KdP m x_1.2 a.1.2.1 a.2.2.1 a.1.2.2.2.2.1/\∀(x_2:Unit × WrS),WtR x_1.2 (kdA x_1.2.ps a.1.2.1 a.2.2.1.k a.1.2.2.2.2.1) x_2.2->Jbf w n x k x_2.2 a.1.2.1 a.1.2.2.1 a.2.2.1 (wr (a.1.2.2.2.2.1+1))/\ixM x.s.length (wr (a.1.2.2.2.2.1+1))<ixM x.s.length a.1.2.2.2.2.1) (KdP m a.2.1 a.1.2.1 a.2.2.1 a.1.2.2.2.2.1/\∀(x_1:Unit × WrS),WtR a.2.1 (kdA a.2.1.ps a.1.2.1 a.2.2.1.k a.1.2.2.2.2.1) x_1.2->Jbf w n x k x_1.2 a.1.2.1 a.1.2.2.1 a.2.2.1 (wr (a.1.2.2.2.2.1+1))/\ixM x.s.length (wr (a.1.2.2.2.2.1+1))<ixM x.s.length a.1.2.2.2.2.1)) (WtR w (jn (kwW k) (kdW w.ps n x.k x.s.length)) a.2.1)) (by kernel_rfl) (by
 obtain⟨d,hs,E,hl⟩:=hk;refine⟨⟨⟨rfl,rfl,rfl⟩,by omega,.refl E⟩,fun⟨⟨_,n',k',_,i,_⟩,w',x',_⟩ ⟨⟨e1,e2,e3⟩,hi,hr⟩=>?_⟩
 dsimp only at e1 e2 e3 hi hr ⊢
 subst e1 e2 e3;have ps:=hr.p
 refine⟨fun B=>?_,fun B=>by
  rw[show i.toNat=x'.s.length by have:=df B;omega]at hr;exact hr⟩
 have B:=dt B;have J:((i.toNat:Nat):Int)=i:=by omega
 have e:jn (kwW k') (kdW w.ps n' x'.k (i+1).toNat)=jn (kwW k') (kdW w.ps n' x'.k i.toNat) ++((if i=0 then[] else kwW k') ++kdA w.ps n' x'.k i):=by
  rw[show(i+1).toNat=i.toNat+1 by omega,JdL,J]
  by_cases i0:i=0
  .subst i0;rfl
  .rw[if_neg i0,JbI]
   intro q;have:=congrArg List.length q;rw[Jcp,List.length_nil]at this;omega
 have le:twl (jn (kwW k') (kdW w.ps n' x'.k (i+1).toNat))<=twl (jn (kwW k') (kdW w.ps n' x'.k x'.s.length)):=by
  obtain⟨r,er⟩:=JgW w.ps n' x'.k (show(i+1).toNat<=x'.s.length by omega);rw[er]
  by_cases r0:r=[]
  .rw[r0,List.append_nil];exact Nat.le_refl _
  .rw[Jcr _ (fun q=>by have:=congrArg List.length q;rw[Jcp,List.length_nil]at this;omega) r0,JaI];omega
 have hp:=E.le (Nat.add_le_add_right le 1);rw[e]at hp
 have g:Wg w _ w' ((if i=0 then[] else kwW k') ++kdA w.ps n' x'.k i):=⟨hp,_,rfl,hr⟩
 have kd:∀{w1:WrS},Wg w (jn (kwW k') (kdW w.ps n' x'.k i.toNat) ++((if i=0 then[] else kwW k') ++kdA w.ps n' x'.k i)) w1 (kdA w.ps n' x'.k i)->KdP m w1 n' x' i:=fun {w1} g1=>by
  have G:=g1.ps;refine⟨by rw[G];exact d,by omega,?_⟩;rw[G];exact(show Wg w _ w1 (kdA w.ps n' x'.k i ++[]) by rw[List.append_nil];exact g1).pre
 have fin:∀{w1 w2:WrS},Wg w (jn (kwW k') (kdW w.ps n' x'.k i.toNat) ++((if i=0 then[] else kwW k') ++kdA w.ps n' x'.k i)) w1 (kdA w.ps n' x'.k i)->WtR w1 (kdA w1.ps n' x'.k i) w2->Jbf w n' x' k' w2 n' k' x' (wr (i+1))/\ixM x'.s.length (wr (i+1))<ixM x'.s.length i:=fun {w1 w2} g1 h2=>by
  rw[g1.ps]at h2;have M:=(show Wg w _ w1 (kdA w.ps n' x'.k i ++[]) by rw[List.append_nil];exact g1).step h2;rw[JaN (by omega)];exact⟨⟨⟨rfl,rfl,rfl⟩,by omega,by rw[e];exact M.fin⟩,by unfold ixM;omega⟩
 refine⟨fun h2=>?_,fun h2=>?_⟩
 .rw[if_neg (by have:=dt h2;omega)]at g kd fin
  exact⟨⟨g.pre,hs⟩,fun⟨_,w1⟩ hw1=>⟨kd (g.step hw1),fun w2 hw2=>fin (g.step hw1) hw2⟩⟩
 .rw[if_pos (by have:=df h2;omega)]at g kd fin
  exact⟨kd g,fun w2 hw2=>fin g hw2⟩)
end V
end Go.Proofs.YtnhbcdnmfafbiaaGreatDoor
set_option maxRecDepth 100000
namespace Go.Proofs.YtnhbcdnmfafbiaaGreatDoor
namespace V
open Go.Proofs
noncomputable def brX (ps:List (List C)) (n:Int) (x:PtS):List Wd:=brF x.k x.w x.n (nsD x.m) (kdW ps n x.k x.s.length)
structure BaP (m:Nat) (w:WrS) (n:Int) (x:PtS):Prop where
 d:NdP m w.ps n x
 b:WrP w (twl (brX w.ps n x)+1)
structure Jbw (m:Nat) (w:WrS) (n:Int) (x:PtS):Prop extends BaP m w n x where
 k:x.k=8\/x.k=9\/x.k=10
structure IfP (m:Nat) (w:WrS) (n:Int) (x:PtS):Prop extends BaP m w n x where
 k:x.k=11
section
variable {m:Nat}{w w1:WrS}{tot rest:List Wd}{Q:Unit × WrS->Prop}{n:Int}{x:PtS}
theorem Wg.nl {v:List Wd}(g:Wg w tot w1 v):Wg w tot w1 (v ++[]):=by rw[List.append_nil];exact g
theorem Wg.W {k:Int}(g:Wg w tot w1 (kwW k ++rest)) (hk:k=0\/(3<=k/\k<=34)) (K:∀y:Unit × WrS,Wg w tot y.2 rest->Q y):WoP w1 k/\∀y:Unit × WrS,WtR w1 (kwW k) y.2->Q y:=⟨⟨g.pre,hk⟩,fun y hy=>K _ (g.step hy)⟩
theorem NdP.ml {ps:List (List C)}(d:NdP m ps n x):x.m.length<=6/\x.s.length<=6:=by
 have e:x.m.length=(nsD x.m).length:=(List.length_map ..).symm;rw[e];have s:=d.s;generalize x.k=k at s;generalize x.w=w at s;generalize x.n=n at s;generalize nsD x.m=l at s ⊢;generalize x.s.length=j at s ⊢;cases s <;> simp <;> omega
theorem Wg.L (d:NdP m w.ps n x) {k:Int}(g:Wg w tot w1 (lsW x.m k ++rest)) (hk:k=0\/k=25) (K:∀y:Unit × WrS,Wg w tot y.2 rest->Q y):LsQ w1 x.m k/\∀y:Unit × WrS,WtR w1 (lsW x.m k) y.2->Q y:=⟨⟨g.pre,d.y,hk,by have:=d.ml;omega⟩,fun y hy=>K _ (g.step hy)⟩
theorem Wg.K (d:NdP m w.ps n x) {i:Int}(g:Wg w tot w1 (kdA w.ps n x.k i ++rest)) (hi:0<=i/\i<x.s.length) (K:∀y:Unit × WrS,Wg w tot y.2 rest->Q y):KdP m w1 n x i/\∀y:Unit × WrS,WtR w1 (kdA w1.ps n x.k i) y.2->Q y:=by
 have p:=g.ps;exact⟨⟨by rw[p];exact d,hi,by rw[p];exact g.pre⟩,fun y hy=>K _ (g.step (by rw[p]at hy;exact hy))⟩
theorem Wg.S (d:NdP m w.ps n x) {k:Int}(g:Wg w tot w1 (jn (kwW k) (kdW w.ps n x.k x.s.length) ++rest)) (hk:k=0\/(3<=k/\k<=34)) (K:∀y:Unit × WrS,Wg w tot y.2 rest->Q y):Jav m w1 n x k/\∀y:Unit × WrS,WtR w1 (jn (kwW k) (kdW w1.ps n x.k x.s.length)) y.2->Q y:=by
 have p:=g.ps;exact⟨⟨by rw[p];exact d,hk,by rw[p];exact g.pre,by have:=d.ml;omega⟩,fun y hy=>K _ (g.step (by rw[p]at hy;exact hy))⟩
end
theorem Jgb (l:List ByteArray):nsD (nmC l)=l:=by
 unfold nsD nmC;rw[List.map_map]
 conv=>rhs;rw[<-List.map_id l]
 rfl
theorem JdP:∀l:List ByteArray,jn [] (l.map fun x=>[sW x])=l.map sW
 |[]=>rfl
 |x ::l=>by rw[List.map_cons,Jbe,JdP l];rfl
theorem JbG (m:List (List C)):lsW m 0=(nsD m).map sW:=JdP _
theorem Sh.lt {k w m:Int}{ns:List ByteArray}{n:Nat}(h:Sh k w m ns n) (hk:k=8\/k=9\/k=10):n=2:=by
 cases h <;> first|rfl|omega
theorem Sh.if3 {k w m:Int}{ns:List ByteArray}{n:Nat}(h:Sh k w m ns n) (hk:k=11):n=3:=by
 cases h <;> first|rfl|omega
theorem Sh.fn1 {k w m:Int}{ns:List ByteArray}{n:Nat}(h:Sh k w m ns n) (hk:k=12):n=1/\w=9:=by
 cases h <;> first|exact⟨rfl,rfl⟩|omega
theorem Sh.wd {k w m:Int}{ns:List ByteArray}{n:Nat}(h:Sh k w m ns n):w=0\/(3<=w/\w<=34):=by
 cases h <;> first|omega|(rename_i h;simp[Jal,jm6,jnJ]at h;omega)
theorem JeS {m:Nat}(h:Good T1 (Ja3 m)) {w:WrS}{n:Int}{x:PtS}(hk:Jbw m w n x):Tot T1 (cWu w (brX w.ps n x) True) 85 [pWr w,pI n,.pl (.ag (fPt.f x))]:=vN (⟨hWs,[],[],[]⟩) (h) Tryz.func85 (WoP w 3/\∀(x_1:Unit × WrS),WtR w (kwW 3) x_1.2->br (decide (x.k=9)) (WoP x_1.2 4/\∀(x_2:Unit × WrS),WtR x_1.2 (kwW 4) x_2.2->LsQ x_2.2 x.m 0/\∀(x_3:Unit × WrS),WtR x_2.2 (lsW x.m 0) x_3.2->WoP x_3.2 27/\∀(x_4:Unit × WrS),WtR x_3.2 (kwW 27) x_4.2->KdP m x_4.2 n x 0/\∀(x_5:Unit × WrS),WtR x_4.2 (kdA x_4.2.ps n x.k 0) x_5.2->WoP x_5.2 5/\∀(x_6:Unit × WrS),WtR x_5.2 (kwW 5) x_6.2->KdP m x_6.2 n x 1/\∀(x_7:Unit × WrS),WtR x_6.2 (kdA x_6.2.ps n x.k 1) x_7.2->WtR w (brX w.ps n x) x_7.2) (br (decide (x.k=10)) (WoP x_1.2 23/\∀(x_2:Unit × WrS),WtR x_1.2 (kwW 23) x_2.2->LsQ x_2.2 x.m 25/\∀(x_3:Unit × WrS),WtR x_2.2 (lsW x.m 25) x_3.2->WoP x_3.2 24/\∀(x_4:Unit × WrS),WtR x_3.2 (kwW 24) x_4.2->WoP x_4.2 27/\∀(x_5:Unit × WrS),WtR x_4.2 (kwW 27) x_5.2->KdP m x_5.2 n x 0/\∀(x_6:Unit × WrS),WtR x_5.2 (kdA x_5.2.ps n x.k 0) x_6.2->WoP x_6.2 5/\∀(x_7:Unit × WrS),WtR x_6.2 (kwW 5) x_7.2->KdP m x_7.2 n x 1/\∀(x_8:Unit × WrS),WtR x_7.2 (kdA x_7.2.ps n x.k 1) x_8.2->WtR w (brX w.ps n x) x_8.2) (LsQ x_1.2 x.m 0/\∀(x_2:Unit × WrS),WtR x_1.2 (lsW x.m 0) x_2.2->WoP x_2.2 27/\∀(x_3:Unit × WrS),WtR x_2.2 (kwW 27) x_3.2->KdP m x_3.2 n x 0/\∀(x_4:Unit × WrS),WtR x_3.2 (kdA x_3.2.ps n x.k 0) x_4.2->WoP x_4.2 5/\∀(x_5:Unit × WrS),WtR x_4.2 (kwW 5) x_5.2->KdP m x_5.2 n x 1/\∀(x_6:Unit × WrS),WtR x_5.2 (kdA x_5.2.ps n x.k 1) x_6.2->WtR w (brX w.ps n x) x_6.2))) (by kernel_rfl) (by
 obtain⟨⟨d,b⟩,hk⟩:=hk;have E:=d.s.lt hk
 have e:brX w.ps n x=kwW 3 ++(lnW x.k (nsD x.m) ++(kwW 27 ++(kdA w.ps n x.k 0 ++(kwW 5 ++kdA w.ps n x.k 1)))):=by
  unfold brX;rw[E];rcases hk with q|q|q <;> rw[q] <;> rfl
 have g:=Wg.start b;have i0:(0:Int)<=0/\(0:Int)<x.s.length:=by omega
 have B:(0:Int)<=1/\(1:Int)<x.s.length:=by omega
 rw[e]at g ⊢
 refine g.W (by omega) fun w1 g=>⟨fun h9=>?_,fun h9=>⟨fun h10=>?_,fun h10=>?_⟩⟩
 .have e2:lnW x.k (nsD x.m)=kwW 4 ++lsW x.m 0:=by rw[dt h9,JbG];rfl
  rw[e2,List.append_assoc]at g;rw[e2];exact g.W (by omega) fun w2 g=>g.L d (by omega) fun w2 g=>g.W (by omega) fun w2 g=>g.K d i0 fun w2 g=>g.W (by omega) fun w2 g=>g.nl.K d B fun w2 g=>g.fin
 .have e2:lnW x.k (nsD x.m)=kwW 23 ++(lsW x.m 25 ++kwW 24):=by rw[dt h10];rfl
  rw[e2,List.append_assoc,List.append_assoc]at g;rw[e2,List.append_assoc,List.append_assoc];exact g.W (by omega) fun w2 g=>g.L d (by omega) fun w2 g=>g.W (by omega) fun w2 g=>g.W (by omega) fun w2 g=>g.K d i0 fun w2 g=>g.W (by omega) fun w2 g=>g.nl.K d B fun w2 g=>g.fin
 .have e2:lnW x.k (nsD x.m)=lsW x.m 0:=by rw[show x.k=8 by have:=df h9;have:=df h10;omega,JbG];rfl
  rw[e2]at g;rw[e2]
  exact g.L d (by omega) fun w2 g=>g.W (by omega) fun w2 g=>g.K d i0 fun w2 g=>g.W (by omega) fun w2 g=>g.nl.K d B fun w2 g=>g.fin)
theorem JeW {m:Nat}(h:Good T1 (Ja3 m)) {w:WrS}{n:Int}{x:PtS}(hk:IfP m w n x):Tot T1 (cWu w (brX w.ps n x) True) 86 [pWr w,pI n,.pl (.ag (fPt.f x))]:=vN (⟨hWs,[],[],[]⟩) (h) Tryz.func86 (WoP w 6/\∀(x_1:Unit × WrS),WtR w (kwW 6) x_1.2->KdP m x_1.2 n x 0/\∀(x_2:Unit × WrS),WtR x_1.2 (kdA x_1.2.ps n x.k 0) x_2.2->WoP x_2.2 7/\∀(x_3:Unit × WrS),WtR x_2.2 (kwW 7) x_3.2->KdP m x_3.2 n x 1/\∀(x_4:Unit × WrS),WtR x_3.2 (kdA x_3.2.ps n x.k 1) x_4.2->WoP x_4.2 8/\∀(x_5:Unit × WrS),WtR x_4.2 (kwW 8) x_5.2->KdP m x_5.2 n x 2/\∀(x_6:Unit × WrS),WtR x_5.2 (kdA x_5.2.ps n x.k 2) x_6.2->WtR w (brX w.ps n x) x_6.2) (by kernel_rfl) (by
 obtain⟨⟨d,b⟩,hk⟩:=hk;have B:=d.s.if3 hk
 have e:brX w.ps n x=kwW 6 ++(kdA w.ps n x.k 0 ++(kwW 7 ++(kdA w.ps n x.k 1 ++(kwW 8 ++kdA w.ps n x.k 2)))):=by
  unfold brX;rw[B,hk];rfl
 have g:=Wg.start b;rw[e]at g ⊢
 exact g.W (by omega) fun w1 g=>g.K d (by omega) fun w1 g=>g.W (by omega) fun w1 g=>g.K d (by omega) fun w1 g=>g.W (by omega) fun w1 g=>g.nl.K d (by omega) fun w1 g=>g.fin)
noncomputable def JbO (m:Nat):Cts:=ctp 85 (kA (aC (aP fWr) <|aC aI <|aC (aG fPt) aN) fun a=>cWu a.1 (brX a.1.ps a.2.1 a.2.2.1) (Jbw m a.1 a.2.1 a.2.2.1)) <|ctp 86 (kA (aC (aP fWr) <|aC aI <|aC (aG fPt) aN) fun a=>cWu a.1 (brX a.1.ps a.2.1 a.2.2.1) (IfP m a.1 a.2.1 a.2.2.1)) <|ctp 84 (kA (aC (aP fWr) <|aC aI <|aC (aG fPt) <|aC aI aN) fun a=>cWu a.1 (jn (kwW a.2.2.2.1) (kdW a.1.ps a.2.1 a.2.2.1.k a.2.2.1.s.length)) (Jav m a.1 a.2.1 a.2.2.1 a.2.2.2.1)) (Ja3 m)
theorem Jed {m:Nat}(h:Good T1 (Ja3 m)):Good T1 (JbO m):=by
 unfold JbO;refine Good.ad1 (Good.ad1 (Good.ad1 h ?_) ?_) ?_
 .rintro a hk;exact JeU h hk
 .rintro a hk;exact JeW h hk
 .rintro a hk;exact JeS h hk
theorem Je1 {m:Nat}(h:Good T1 (JbO m)) {w:WrS}{n:Int}{x:PtS}(hk:BaP m w n x):Tot T1 (cWu w (brX w.ps n x) True) 42 [pWr w,pI n,.pl (.ag (fPt.f x))]:=vN (⟨hWs,[],[],[]⟩) (h) Tryz.func42 (br (decide (x.k=1)) ((WrP w (twl [nW x.n]+1)/\inI x.n)/\∀(x_1:Unit × WrS),WtR w [{k:=1,n:=x.n,s:=ByteArray.empty}] x_1.2->WtR w (brX w.ps n x) x_1.2) (br (decide (x.k=5)) (LsQ w x.m 0/\∀(x_1:Unit × WrS),WtR w (lsW x.m 0) x_1.2->WtR w (brX w.ps n x) x_1.2) (br (decide (x.k=6)) (true=true/\WoP w 23/\∀(x_1:Unit × WrS),WtR w (kwW 23) x_1.2->Jav m x_1.2 n x 25/\∀(x_2:Unit × WrS),WtR x_1.2 (jn (kwW 25) (kdW x_1.2.ps n x.k x.s.length)) x_2.2->WoP x_2.2 24/\∀(x_3:Unit × WrS),WtR x_2.2 (kwW 24) x_3.2->WtR w (brX w.ps n x) x_3.2) (br (decide (x.k=7)) (WoP w 23/\∀(x_1:Unit × WrS),WtR w (kwW 23) x_1.2->Jav m x_1.2 n x 25/\∀(x_2:Unit × WrS),WtR x_1.2 (jn (kwW 25) (kdW x_1.2.ps n x.k x.s.length)) x_2.2->WoP x_2.2 24/\∀(x_3:Unit × WrS),WtR x_2.2 (kwW 24) x_3.2->WtR w (brX w.ps n x) x_3.2) (br (decide (x.k=8)) (true=true/\Jbw m w n x/\∀(x_1:Unit × WrS),WtR w (brX w.ps n x) x_1.2->WtR w (brX w.ps n x) x_1.2) (br (decide (x.k=9)) (true=true/\Jbw m w n x/\∀(x_1:Unit × WrS),WtR w (brX w.ps n x) x_1.2->WtR w (brX w.ps n x) x_1.2) (br (decide (x.k=10)) (Jbw m w n x/\∀(x_1:Unit × WrS),WtR w (brX w.ps n x) x_1.2->WtR w (brX w.ps n x) x_1.2) (br (decide (x.k=11)) (IfP m w n x/\∀(x_1:Unit × WrS),WtR w (brX w.ps n x) x_1.2->WtR w (brX w.ps n x) x_1.2) (br (decide (x.k=12)) (WoP w x.w/\∀(x_1:Unit × WrS),WtR w (kwW x.w) x_1.2->LsQ x_1.2 x.m 0/\∀(x_2:Unit × WrS),WtR x_1.2 (lsW x.m 0) x_2.2->WoP x_2.2 22/\∀(x_3:Unit × WrS),WtR x_2.2 (kwW 22) x_3.2->KdP m x_3.2 n x 0/\∀(x_4:Unit × WrS),WtR x_3.2 (kdA x_3.2.ps n x.k 0) x_4.2->WtR w (brX w.ps n x) x_4.2) (br (decide (x.k=15)) (true=true/\Jav m w n x x.w/\∀(x_1:Unit × WrS),WtR w (jn (kwW x.w) (kdW w.ps n x.k x.s.length)) x_1.2->WtR w (brX w.ps n x) x_1.2) (br (decide (x.k=16)) (true=true/\Jav m w n x x.w/\∀(x_1:Unit × WrS),WtR w (jn (kwW x.w) (kdW w.ps n x.k x.s.length)) x_1.2->WtR w (brX w.ps n x) x_1.2) (br (decide (x.k=17)) (true=true/\Jav m w n x x.w/\∀(x_1:Unit × WrS),WtR w (jn (kwW x.w) (kdW w.ps n x.k x.s.length)) x_1.2->WtR w (brX w.ps n x) x_1.2) (br (decide (x.k=18)) (Jav m w n x x.w/\∀(x_1:Unit × WrS),WtR w (jn (kwW x.w) (kdW w.ps n x.k x.s.length)) x_1.2->WtR w (brX w.ps n x) x_1.2) (br (decide (x.k=20)) (Jav m w n x x.w/\∀(x_1:Unit × WrS),WtR w (jn (kwW x.w) (kdW w.ps n x.k x.s.length)) x_1.2->WoP x_1.2 24/\∀(x_2:Unit × WrS),WtR x_1.2 (kwW 24) x_2.2->WtR w (brX w.ps n x) x_2.2) (WoP w x.w/\∀(x_1:Unit × WrS),WtR w (kwW x.w) x_1.2->Jav m x_1.2 n x 0/\∀(x_2:Unit × WrS),WtR x_1.2 (jn (kwW 0) (kdW x_1.2.ps n x.k x.s.length)) x_2.2->WtR w (brX w.ps n x) x_2.2))))))))))))))) (by kernel_rfl) (by
 have B:=hk;obtain⟨d,b⟩:=hk;have G:=d.s.wd;have g:=Wg.start b
 have seq:x.k=15\/x.k=16\/x.k=17\/x.k=18->Jav m w n x x.w/\∀y:Unit × WrS,WtR w (jn (kwW x.w) (kdW w.ps n x.k x.s.length)) y.2->WtR w (brX w.ps n x) y.2:=fun q=>by
  have e:brX w.ps n x=jn (kwW x.w) (kdW w.ps n x.k x.s.length):=by
   have k0:kwW x.w=[wK x.w]:=if_neg (by
    have s:=d.s;generalize x.k=k at s q;generalize x.w=w at s;generalize x.n=n at s;generalize nsD x.m=l at s;generalize x.s.length=j at s
    cases s <;> first|omega|(rename_i h;simp[Jal,jm6,jnJ]at h;omega))
   rw[k0];unfold brX;rcases q with q|q|q|q <;> rw[q] <;> rfl
  rw[e]at g ⊢;exact g.nl.S d G fun w1 g=>g.fin
 have tup:x.k=6\/x.k=7->WoP w 23/\∀y:Unit × WrS,WtR w (kwW 23) y.2->Jav m y.2 n x 25/\∀y2:Unit × WrS,WtR y.2 (jn (kwW 25) (kdW y.2.ps n x.k x.s.length)) y2.2->WoP y2.2 24/\∀y3:Unit × WrS,WtR y2.2 (kwW 24) y3.2->WtR w (brX w.ps n x) y3.2:=fun q=>by
  have e:brX w.ps n x=kwW 23 ++(jn (kwW 25) (kdW w.ps n x.k x.s.length) ++kwW 24):=by
   unfold brX;rcases q with q|q <;> rw[q] <;> rfl
  rw[e]at g ⊢;exact g.W (by omega) fun w1 g=>g.S d (by omega) fun w1 g=>g.nl.W (by omega) fun w1 g=>g.fin
 refine⟨fun h=>?_,fun V=>⟨fun h=>?_,fun h2=>⟨fun h=>⟨rfl,tup (.inl (dt h))⟩,fun h3=>⟨fun h=>tup (.inr (dt h)),fun h4=>⟨fun h=>⟨rfl,⟨B,.inl (dt h)⟩,fun _ q=>q⟩,fun h5=>⟨fun h=>⟨rfl,⟨B,.inr (.inl (dt h))⟩,fun _ q=>q⟩,fun h6=>⟨fun h=>⟨⟨B,.inr (.inr (dt h))⟩,fun _ q=>q⟩,fun h7=>⟨fun h=>⟨⟨B,dt h⟩,fun _ q=>q⟩,fun Y=>⟨fun h=>?_,fun Z=>⟨fun h=>⟨rfl,seq (.inl (dt h))⟩,fun J=>⟨fun h=>⟨rfl,seq (.inr (.inl (dt h)))⟩,fun M=>⟨fun h=>⟨rfl,seq (.inr (.inr (.inl (dt h))))⟩,fun O=>⟨fun h=>seq (.inr (.inr (.inr (dt h)))),fun P=>⟨fun h=>?_,fun E=>?_⟩⟩⟩⟩⟩⟩⟩⟩⟩⟩⟩⟩⟩⟩
 .have e:brX w.ps n x=[nW x.n]:=by unfold brX;rw[dt h];rfl
  rw[e]at g ⊢;exact⟨⟨g.nl.pre,d.i⟩,fun _ q=>q⟩
 .have e:brX w.ps n x=lsW x.m 0:=by unfold brX;rw[dt h,JbG];rfl
  rw[e]at g ⊢;exact g.nl.L d (by omega) fun w1 g=>g.fin
 .obtain⟨l1,w9⟩:=d.s.fn1 (dt h)
  have e:brX w.ps n x=kwW x.w ++(lsW x.m 0 ++(kwW 22 ++kdA w.ps n x.k 0)):=by
   unfold brX;rw[l1,w9,dt h,JbG];rfl
  rw[e]at g ⊢;exact g.W G fun w1 g=>g.L d (by omega) fun w1 g=>g.W (by omega) fun w1 g=>g.nl.K d (by omega) fun w1 g=>g.fin
 .have w18:x.w=18:=by
   have s:=d.s;have q:=dt h;generalize x.k=k at s q;generalize x.w=w at s ⊢;generalize x.n=n at s;generalize nsD x.m=l at s;generalize x.s.length=j at s;cases s <;> first|rfl|omega
  have e:brX w.ps n x=jn (kwW x.w) (kdW w.ps n x.k x.s.length) ++kwW 24:=by
   unfold brX;rw[dt h,w18];rfl
  rw[e]at g ⊢;exact g.S d G fun w1 g=>g.nl.W (by omega) fun w1 g=>g.fin
 .have e:brX w.ps n x=kwW x.w ++jn (kwW 0) (kdW w.ps n x.k x.s.length):=by
   have V:=df V;have h2:=df h2;have h3:=df h3;have h4:=df h4;have h5:=df h5;have h6:=df h6;have h7:=df h7;have Y:=df Y;have Z:=df Z;have J:=df J;have M:=df M;have O:=df O;have P:=df P;have E:=df E;unfold brX brF;rw[if_neg V,if_neg h2,if_neg (by omega),if_neg (by omega),if_neg Y,if_neg Z,if_neg (by omega),if_neg E];rfl
  rw[e]at g ⊢
  exact g.W G fun w1 g=>g.nl.S d (by omega) fun w1 g=>g.fin)
noncomputable def JcF (m:Nat):Cts:=ctp 42 (kA (aC (aP fWr) <|aC aI <|aC (aG fPt) aN) fun a=>cWu a.1 (brX a.1.ps a.2.1 a.2.2.1) (BaP m a.1 a.2.1 a.2.2.1)) (JbO m)
theorem Jhp {m:Nat}(h:Good T1 (JaR m)):Good T1 (JcF m):=by
 unfold JcF;refine Good.ad1 (Jed (Jec h)) ?_;rintro a hk;exact Je1 (Jed (Jec h)) hk
theorem Jgm {ps:List (List C)}{n k:Int}{ks:List Te}(hk:∀(i:Nat) (t:Te),ks[i]? =some t->TrA ps (jJO ps n i) t):mis k 0 ks=kdW ps n k ks.length:=by
 apply List.ext_getElem?;intro i
 by_cases hi:i<ks.length
 .have a:=List.getElem?_eq_getElem hi
  rw[JbD k 0 ks i a,Nat.zero_add];unfold kdW;rw[List.getElem?_map,List.getElem?_range hi];show _=some (kdA ps n k i);unfold kdA;rw[(hk i _ a).eq,Int.toNat_natCast]
 .rw[List.getElem?_eq_none (by rw[Jbm];omega),List.getElem?_eq_none (by rw[Jcp];omega)]
theorem TrA.ndp {ps:List (List C)}{n:Int}(h:TrA ps n (teA ps n)) (hp:Ps ps) {m:Nat}(E:(n+1).toNat<=m) {x:PtS}(ex:jJI ps n=x) (G:jLP x):NdP m ps n x/\bar (teA ps n)=brX ps n x/\rkT (teA ps n)=rk x.k:=by
 generalize teA ps n=t at h
 cases h with
 |@nd _ k w y ns ks s h0 h sh hl hk=>
  rw[h]at ex;subst ex;have B:nsD (nmC ns)=ns:=Jgb ns;refine⟨⟨E,hp,h,h0,?_,?_,G.i,fun i hi=>?_⟩,?_,rfl⟩
  .dsimp only;rw[B,hl];exact sh
  .dsimp only;rw[B]
  .dsimp only at hi
   have q:=hk i _ (List.getElem?_eq_getElem (show i<ks.length by omega));rw[q.eq];exact q
  .rw[bar,Jgm hk]
   unfold brX
   dsimp only
   rw[B,hl]
theorem JeN {m:Nat}(h:Good T1 (JcF m)) {w:WrS}{n r:Int}(hk:PaP (m+1) w n r):Tot T1 (cWu w (mi (Int.toNat r) (teA w.ps n)) True) 24 [pWr w,pI n,pI r]:=vN (⟨hWs,[],[],[]⟩) (h) Tryz.func24 (Ps w.ps/\∀(x:PtS × Unit),PtX w.ps n x.1->True/\∀(x_1:Int × Unit),x_1.1=rkI x.1.k->br (decide (x_1.1>=r)) (BaP m w n x.1/\∀(x_2:Unit × WrS),WtR w (brX w.ps n x.1) x_2.2->WtR w (mi r.toNat (teA w.ps n)) x_2.2) (WoP w 23/\∀(x_2:Unit × WrS),WtR w (kwW 23) x_2.2->BaP m x_2.2 n x.1/\∀(x_3:Unit × WrS),WtR x_2.2 (brX x_2.2.ps n x.1) x_3.2->WoP x_3.2 24/\∀(x:Unit × WrS),WtR x_3.2 (kwW 24) x.2->WtR w (mi r.toNat (teA w.ps n)) x.2)) (by kernel_rfl) (by
 obtain⟨M,hp,G,J,B⟩:=hk;refine⟨hp,fun⟨x,_⟩ ⟨ex,ox⟩=>⟨trivial,fun⟨q,_⟩ eq=>?_⟩⟩
 dsimp only at ex ox eq ⊢
 subst eq;obtain⟨d,e,er⟩:=G.ndp hp (show(n+1).toNat<=m by omega) ex ox;rw[Jbn,er,e]at B ⊢;refine⟨fun h1=>?_,fun h1=>?_⟩
 .have h1:rkI x.k>=r:=dt h1
  unfold rkI at h1;rw[if_pos (by omega)]at B ⊢;exact⟨⟨d,B⟩,fun _ q=>q⟩
 .have h1:¬rkI x.k>=r:=df h1
  unfold rkI at h1;rw[if_neg (by omega)]at B ⊢;have E:br1 (brX w.ps n x)=kwW 23 ++(brX w.ps n x ++kwW 24):=rfl;have g:=Wg.start B;rw[E]at g ⊢;refine g.W (by omega) fun w1 g=>?_;have p:=g.ps
  exact⟨⟨by rw[p];exact d,by rw[p];exact g.pre⟩,fun y hy=>(g.step (by rw[p]at hy;exact hy)).nl.W (by omega) fun w2 g=>g.fin⟩)
def Jch (xs:List Arg):Bool:=xs.all fun x=>match x with
 | .pl y=>jKg y
 |_=>true
theorem Jdo {xs:List Arg}(h:Jch xs=true) (y:Av) (hy: .pl y ∈ xs):jKg y=true:=List.all_eq_true.1 h _ hy
theorem Tot.vr {R:Pz (List Arg)}{B:Pz (List (List C))}{po:R.α->B.α->Prop}{p q:Prop}{f:Nat}{xs:List Arg}(h:Tot T (mkc R B po p) f xs) (hn:Nat.ble xs.length 1000=true) (ha:Jch xs=true) (E:∀x,Jch (R.f x)=true):Tot T1 (mkc R B po q) f xs:=by
 obtain⟨x,hx,hd⟩:=h;exact⟨x,hx,hd.var (fun _=>rfl) (Nat.le_of_ble_eq_true hn) (Jdo ha) (Jdo (E _))⟩
theorem JgX {c:List (List C)->Int->Ct}{f:Nat}(h:∀ps n,(c ps n).pr->Tot T1 (c ps n) f [aPs ps,pI n]) (xs:List Arg) (k:Ct) (hk:kP2 c xs=some k) (hp:k.pr):Tot T1 k f xs:=by
 unfold kP2 at hk
 split at hk
 .cases hk;exact h _ _ hp
 .cases hk
theorem Jhr:∀m,Good T1 (JaR m):=by
 have base:∀m,(∀w n r,PaP m w n r->Tot T1 (cWu w (mi (Int.toNat r) (teA w.ps n)) True) 24 [pWr w,pI n,pI r])->Good T1 (JaR m):=fun m h=>by
  unfold JaR;refine Good.ad1 (Jbr (Good.ad1 (Good.ad1 (Good.ad1 (Good.ad1 (Good.ad1 Jeb ?_) ?_) ?_) ?_) ?_) (JgX fun ps n hp=>Tot.vr (jSe hp n) rfl rfl fun _=>rfl)) ?_
  .rintro a ⟨h1,h2⟩;exact JeP h1 h2
  .rintro a h;exact JeQ h
  .rintro a ⟨h⟩;exact Je3 _ h
  .rintro a -;exact JfM _
  .rintro a h;exact Tot.vr (jPl h _ _) rfl rfl fun _=>rfl
  .rintro a h';exact h _ _ _ h'
 intro m
 induction m with
 |zero=>exact base 0 fun w n r h=>absurd h.z (Nat.not_lt_zero _)
 |succ m ih=>exact base (m+1) fun w n r h=>JeN (Jhp ih) h
theorem JcV:∀b:List UInt8,bytes (oC b)=some b
 |[]=>rfl
 |u ::b=>by
  show(match byt [.i .u8 (u.toNat:Int)] with
   |some u=>match bytes (oC b) with
    |some us=>some (u ::us)
    |none=>none
   |none=>none)=_
  rw[JcV b];have:=u.toNat_lt
  have e:byt [.i .u8 (u.toNat:Int)]=some u:=by
   show(if 0<=(u.toNat:Int)/\(u.toNat:Int)<256 then some (UInt8.ofNat (u.toNat:Int).toNat) else none)=_;rw[if_pos (by omega),Int.toNat_natCast];simp
  rw[e]
structure TxP (ps:List (List C)):Prop where
 p:Ps ps
 t:TrA ps (ps.length-1) (teA ps (ps.length-1))
 b:twl (mi 0 (teA ps (ps.length-1)))+1<=100000000
structure TxR (ps:List (List C)) (s:ByteArray):Prop where
 e:D s=wds [] (mi 0 (teA ps (ps.length-1)))
noncomputable def JcB (m:Nat):Cts:=ctp 25 (kA (aC (aG fT6) aN) fun a=>mkc rI b0 (fun k _=>k=wr (a.1.length-1)) True) (JaR m)
theorem Jho (m:Nat):Good T1 (JcB m):=by
 unfold JcB;refine Good.ad1 (Jhr m) ?_;rintro a -;exact Tot.vr (jSc _) rfl rfl fun _=>rfl
theorem Je4 {m:Nat}(h:Good T1 (JcB m)) {ps:List (List C)}(hm:ps.length<m) (hk:TxP ps):Tot T1 (mkc rSs b0 (fun s _=>TxR ps s) True) 12 [aPs ps]:=vF (⟨hWt,[],[],[]⟩) (h) Tryz.func12 (True/\∀(x:Int × Unit),x.1=wr (↑ps.length-1)->PaP m {ps:=ps,o:=[]} x.1 0/\∀(x_1:Unit × WrS),WtR {ps:=ps,o:=[]} (mi 0 (teA ps x.1)) x_1.2->(∃(y:List UInt8),bytes x_1.2.o=some y)/\∀(us:List UInt8),bytes x_1.2.o=some us->TxR ps {data:=us.toArray}) (by kernel_rfl) (by
 obtain⟨hp,G,E⟩:=hk;have pn:=hp.n;have e:wr ((ps.length:Int)-1)=ps.length-1:=by unfold wr;rw[IntKind.wrap_i64];omega
 refine⟨trivial,fun⟨k,_⟩ ek=>?_⟩
 dsimp only at ek ⊢
 rw[e]at ek;subst ek;refine⟨⟨by omega,hp,G,Int.le_refl _,rfl,by show 0+_<=_;exact(by rw[Nat.zero_add];exact E)⟩,fun⟨_,w⟩ hw=>?_⟩;have B:=hw.o
 dsimp only at B ⊢
 rw[B]
 exact⟨⟨_,JcV _⟩,fun us hu=>⟨by rw[JcV]at hu;cases hu;rfl⟩⟩)
end V
end Go.Proofs.YtnhbcdnmfafbiaaGreatDoor
namespace Go.Proofs.YtnhbcdnmfafbiaaGreatDoor
namespace V
open Go.Proofs
theorem Jbc:∀(b:Nat) (ks:List Te),(kix b ks).length=ks.length
 |b,[]=>rfl
 |b,t ::ks=>by rw[kix,List.length_cons,List.length_cons,Jbc _ ks]
theorem jsF {ks:List Te}{i:Nat}{t:Te}(h:ks[i]? =some t):ks=ks.take i ++(t ::ks.drop (i+1)):=by
 obtain⟨B,h2⟩:=List.getElem?_eq_some_iff.1 h;rw[<-h2,<-List.drop_eq_getElem_cons B,List.take_append_drop]
theorem JdK {ks:List Te}{i:Nat}{t:Te}(h:ks[i]? =some t) (b:Nat):(kix b ks)[i]? =some [I ((b+szs (ks.take i)+sz t:Nat)-1)]:=by
 have e:=jsF h;have l:(kix b (ks.take i)).length=i:=by rw[Jbc,List.length_take];have:=(List.getElem?_eq_some_iff.1 h).1;omega
 conv=>lhs;rw[e,Jco,kix]
 rw[List.getElem?_append_right (by omega),l,Nat.sub_self];rfl
structure Pe (b z:Nat) (e:List C) (k w m:Int) (ns:List ByteArray) (c:Nat) (ks:List Te):Prop where
 e:e=[I k,.ui,I w,I m,.r false 1 (nmC ns),.r false 1 (kix c ks)]
 l:c+szs ks<=b+z
 s:Sh k w m ns ks.length
theorem JdF:∀{ks:List Te}{b:Nat}{e:List C},e ∈ Jag b ks->∃(i:Nat) (t:Te),ks[i]? =some t/\e ∈ Jan (b+szs (ks.take i)) t/\szs (ks.take i)+sz t<=szs ks
 |[],b,e,h=>by rw[Jag]at h;cases h
 |t ::ks,b,e,h=>by
  rw[Jag]at h;rcases List.mem_append.1 h with h|h
  .exact⟨0,t,rfl,by rw[List.take_zero,szs];exact h,by rw[List.take_zero,szs,szs];omega⟩
  .obtain⟨i,t',a,c,d⟩:=JdF h
   refine⟨i+1,t',a,?_,?_⟩
   .rw[List.take_succ_cons,szs,<-Nat.add_assoc];exact c
   .rw[List.take_succ_cons,szs,szs];omega
theorem Gr.pe {d:Int}{r:Nat}{t:Te}{u:List Wd}(h:Gr d r t u):∀{b:Nat}{e:List C},e ∈ Jan b t->∃k w m ns c ks,Pe b (sz t) e k w m ns c ks:=by
 induction h with
 |up _ _ ih=>exact ih
 |br _ _ ih=>exact ih
 |@nd d k w m ns ks us sh hd hl hk ih=>
  intro b e B;rw[Jan]at B;rcases List.mem_append.1 B with B|B
  .obtain⟨i,t,a,c,q⟩:=JdF B
   have hi:i<us.length:=by rw[hl];exact(List.getElem?_eq_some_iff.1 a).1
   obtain⟨k,w,m,ns,c,E,p⟩:=ih i t us[i] a (List.getElem?_eq_getElem hi) c;exact⟨k,w,m,ns,c,E,p.e,by have:=p.l;rw[sz];omega,p.s⟩
  .rw[List.mem_singleton.1 B]
   exact⟨k,w,m,ns,b,ks,rfl,by rw[sz];omega,sh⟩
theorem Gr.tra {d:Int}{r:Nat}{t:Te}{u:List Wd}(h:Gr d r t u):∀{P pre post:List (List C)}{b:Nat},P=pre ++(Jan b t ++post)->pre.length=b->TrA P ((b+sz t:Nat)-1) t:=by
 induction h with
 |up _ _ ih=>exact ih
 |br _ _ ih=>exact ih
 |@nd d k w m ns ks us sh hd hl hk ih=>
  intro P pre post b e E;have z:sz (.n k w m ns ks)=szs ks+1:=by rw[sz]
  rw[z];have n0:(((b+(szs ks+1):Nat):Int)-1).toNat=b+szs ks:=by omega
  rw[Jan]at e
  have G:jJI P ((b+(szs ks+1):Nat)-1)=⟨k,w,m,nmC ns,kix b ks⟩:=jWz (by omega) (by
   rw[n0,e,List.getElem?_append_right (by omega),E,List.append_assoc,List.getElem?_append_right (by rw[Ja8];omega),Ja8];rw[show b+szs ks-b-szs ks=0 by omega]
   rfl)
  refine .nd (by omega) G sh (Jbc _ _) fun i t a=>?_;have hi:=(List.getElem?_eq_some_iff.1 a).1;have B:=jsF a
  have le:szs (ks.take i)+sz t<=szs ks:=by
   conv=>rhs;rw[B,Jbz,szs]
   omega
  have sp:=Jfh t
  have M:jJO P ((b+(szs ks+1):Nat)-1) i=((b+szs (ks.take i)+sz t:Nat):Int)-1:=by
   have iv:=jL3 (JdK a b);unfold jJO;rw[G]
   dsimp only
   rw[Int.toNat_natCast,iv,if_pos ⟨by omega,by rw[Jbc];omega,by omega⟩]
  rw[M];have J:i<us.length:=by omega
  refine ih i t us[i] a (List.getElem?_eq_getElem J) (pre:=pre ++Jag b (ks.take i)) (post:=Jag (b+szs (ks.take i)+sz t) (ks.drop (i+1)) ++([[I k,.ui,I w,I m,.r false 1 (nmC ns),.r false 1 (kix b ks)]] ++post)) ?_ (by rw[List.length_append,Ja8,E]);rw[e]
  conv=>lhs;rw[show Jag b ks=Jag b (ks.take i ++(t ::ks.drop (i+1))) by rw[<-B],Jcg,Jag]
  simp only[List.append_assoc]
theorem Jc9 (f:Nat->Nat):∀n,jJN f (n+1)=f 0+jJN (fun i=>f (i+1)) n
 |0=>by simp[jJN]
 |n+1=>by rw[jJN,Jc9 f n,jJN];omega
theorem Jc8:∀{ks:List Te}{f:Nat->Nat},(∀(i:Nat) (t:Te),ks[i]? =some t->f i=pw t)->jJN f ks.length=pws ks
 |[],f,_=>by rw[pws];rfl
 |t ::ks,f,h=>by
  rw[List.length_cons,Jc9,h 0 t rfl,Jc8 (ks:=ks) (f:=fun i=>f (i+1)) fun i t' a=>h (i+1) t' a,pws]
theorem TrA.pq {ps:List (List C)}{n:Int}{t:Te}(h:TrA ps n t):pq' ps n=pw t:=by
 induction h with
 |@nd n k w m ns ks s h0 h sh hl hk ih=>
  rw[jKr h0,h,pw]
  dsimp only
  unfold jJ3;rw[hl,Jc8 (ks:=ks) fun i t a=>ih i t a];have B:(nmC ns).length=ns.length:=List.length_map ..;have E:exk k=ex2 k:=rfl;rw[B,E]
theorem Jdj {ps:List (List C)}(G:Rw fPq Jao ps) (hn:ps.length<=100000) {d:Int}{r:Nat}{t:Te}{u:List Wd}(g:Gr d r t u) (hp:ntl ps=Jan 0 t):Ps (ntl ps)/\RnT (ntl ps)/\TrA (ntl ps) ((ntl ps).length-1) t:=by
 have ln:(ntl ps).length=sz t:=by rw[hp,Jdk]
 have le:sz t<=100000:=by rw[<-ln];unfold ntl;rw[List.length_map];exact hn
 have all:∀e ∈ ntl ps,∃x:PtS,e=fPt.f x/\jLP x/\(x.k=9->0<x.m.length):=fun e he=>by
  obtain⟨k,w,m,ns,c,ks,q⟩:=g.pe (b:=0) (by rw[<-hp];exact he);obtain⟨e0,h0,O⟩:=List.mem_map.1 he;obtain⟨y,rfl,V⟩:=G e0 h0;have B:[I y.k,.ui,I y.w,I y.n,.r false 1 y.m,.r false 1 y.s]=e:=O;rw[q.e]at B;simp only[I,List.cons.injEq,C.i.injEq,C.r.injEq,true_and,and_true]at B;obtain⟨_,_,M,_,_⟩:=B;have ol:=V.n;refine⟨⟨k,w,m,nmC ns,kix c ks⟩,q.e,⟨fun e he=>?_,?_,⟨fun e he=>?_,?_⟩,?_⟩,fun hk=>?_⟩
  .obtain⟨x,_,rfl⟩:=List.mem_map.1 he
   exact⟨x,rfl,trivial⟩
  .show(nmC ns).length<=_
   rw[show(nmC ns).length=ns.length from List.length_map ..];have s:=q.s;generalize ks.length=j at s;cases s <;> simp <;> omega
  .obtain⟨i,hi,rfl⟩:=List.mem_iff_getElem.1 he
   have E:i<ks.length:=by rw[Jbc]at hi;exact hi
   have a:=List.getElem?_eq_getElem E;have b:=JdK a c;rw[List.getElem?_eq_getElem hi]at b;have J:=jsF a
   have Z:szs (ks.take i)+sz ks[i]<=szs ks:=by
    conv=>rhs;rw[J,Jbz,szs]
    omega
   have ql:=q.l;exact⟨_,Option.some.inj b,⟨by omega,by omega⟩⟩
  .show(kix c ks).length<=_
   rw[Jbc];have s:=q.s;generalize ks.length=j at s;cases s <;> first|omega|decide
  .show inI m
   rw[<-M];exact⟨by omega,by omega⟩
  .dsimp only at hk ⊢
   rw[show(nmC ns).length=ns.length from List.length_map ..];have s:=q.s;generalize ks.length=j at s;cases s <;> first|omega|(simp;omega)|simp
 refine⟨⟨fun e he=>?_,by omega⟩,⟨fun n hk=>?_⟩,?_⟩
 .obtain⟨x,B,o,_⟩:=all e he
  exact⟨x,B,o⟩
 .by_cases hn:0<=n/\n<(ntl ps).length
  .have hi:n.toNat<(ntl ps).length:=by omega
   obtain⟨x,B,_,q⟩:=all _ (List.getElem_mem hi);have Y:=jWz (ps:=ntl ps) hn.1 (x:=x) (by rw[List.getElem?_eq_getElem hi,B]);rw[Y]at hk ⊢;exact q hk
  .rw[jM0 (by omega)]at hk;cases hk
 .have:=g.tra (P:=ntl ps) (pre:=[]) (post:=[]) (b:=0) (by rw[hp];simp) rfl
  rw[Nat.zero_add]at this;rw[ln];exact this
end V
end Go.Proofs.YtnhbcdnmfafbiaaGreatDoor
set_option maxRecDepth 100000
namespace Go.Proofs.YtnhbcdnmfafbiaaGreatDoor
namespace V
open Go.Proofs
def jrt:Wd:=⟨0,0,ByteArray.empty⟩
theorem Gw.nw {w:Wd}(h:Gw w):Wnw w/\w.k≠0:=by
 cases h with
 |nu=>exact⟨⟨fun q=>absurd rfl q,fun _=>rfl⟩,show(1:Int)≠0 by decide⟩
 |nm=>exact⟨⟨fun _=>rfl,fun q=>absurd rfl q⟩,show(2:Int)≠0 by decide⟩
 |kw h0=>exact⟨⟨fun _=>rfl,fun _=>rfl⟩,by dsimp only;omega⟩
theorem gram {ws:List Wd}{t:Te}{r:List Wd}(G:∀w ∈ ws,Gw w) (h:Pa 12 .e (ws ++[jrt]) t r) (J:hk r=0):Gr 12 0 t ws:=by
 have wn:Wns (ws ++[jrt]):=fun w E=>by
  rcases List.mem_append.1 E with E|E
  .exact(G w E).nw.1
  .rw[List.mem_singleton.1 E];exact⟨fun _=>rfl,fun _=>rfl⟩
 obtain⟨u,e,g⟩:=Pa.sd (by decide) wn h;have z:=g.ak.z
 have hl:u.length=ws.length:=by
  rcases Nat.lt_trichotomy u.length ws.length with q|q|q
  .exfalso
   have B:(ws ++[jrt])[u.length]? =some ws[u.length]:=by rw[List.getElem?_append_left q,List.getElem?_eq_getElem q]
   rw[e,List.getElem?_append_right (Nat.le_refl _),Nat.sub_self]at B
   cases r with
   |nil=>cases B
   |cons v r=>
    have B:v=ws[u.length]:=Option.some.inj B;have:=(G _ (List.getElem_mem q)).nw.2;rw[<-B]at this;exact this J
  .exact q
  .exfalso
   have B:(ws ++[jrt])[ws.length]? =some jrt:=by rw[List.getElem?_append_right (Nat.le_refl _),Nat.sub_self];rfl
   rw[e,List.getElem?_append_left q]at B;exact z jrt (List.mem_of_getElem? B) rfl
 have:=(List.append_inj e hl.symm).1;rw[this];exact g
structure TrR (x:ByteArray) (ps:List (List C)) (e a:Int):Prop where
 p:0<=a/\a<=x.size/\(e=0->a=0)
 y:e=0->∃(j0:Int) (l:List WdS) (t:Te) (r:List Wd),x.size<=400/\SkR x 0 j0/\Lx x j0 l 0 0/\Pa 12 .e (l.map wdO) t r/\hk r=0/\ntl ps=Jan 0 t/\Rw fPq Jao ps/\ps.length<=100000
 z:e≠0->x.size<=400->∃(j0:Int) (l:List WdS) (e' a':Int),SkR x 0 j0/\Lx x j0 l e' a'/\(e'=0->∀t r,Pa 12 .e (l.map wdO) t r->hk r≠0)
def rNE:Pz (List Arg):=⟨Int × Int,fun x=>[.pl .nl,pI x.1,pI x.2],fun l=>match l with
 |[.pl .nl,.pl (.c (.i .i64 e)),.pl (.c (.i .i64 a))]=>some (e,a)
 |_=>none,fun b x e=>by split at e <;> cases e;rfl⟩
def rLR:Pz (List Arg):=⟨List (List C) × Int × Int,fun x=>[.pl (.c (.r false 4 x.1)),pI x.2.1,pI x.2.2],fun l=>match l with
 |[.pl (.c (.r false 4 l)),.pl (.c (.i .i64 e)),.pl (.c (.i .i64 a))]=>some (l,e,a)
 |_=>none,fun b x e=>by split at e <;> cases e;rfl⟩
def tN (x:ByteArray) (p:Prop):Ct:=mkc rNE b0 (fun r _=>SpR x none r.1 r.2) p
def tL4 (x:ByteArray) (p:Prop):Ct:=mkc rLR b0 (fun r _=>SpR x (some r.1) r.2.1 r.2.2) p
structure SpN (x:ByteArray):Prop where
 t:Tot T1 (tN x True) 22 [pSs x]
structure SpL (x:ByteArray):Prop where
 t:Tot T1 (tL4 x True) 22 [pSs x]
def JbP:Cts:=ctp 23 (kA (aC (aR 4) <|aC aI aN) fun a=>mkc rTE b0 (fun x _=>PsR a.1 a.2.1 x.1 x.2.1 x.2.2) (PsP a.1 a.2.1)) ct0
theorem Jee:Good T1 JbP:=by
 unfold JbP;refine Good.ad1 Jae ?_;rintro a h;exact Jf7 h
noncomputable def ctTn:Cts:=ctp 22 (kA (aC aSs aN) fun a=>tN a.1 (SpN a.1)) JbP
theorem Jhu:Good T1 ctTn:=by
 unfold ctTn;refine Good.ad1 Jee ?_;rintro a ⟨h⟩;exact h
noncomputable def ctTl:Cts:=ctp 22 (kA (aC aSs aN) fun a=>tL4 a.1 (SpL a.1)) JbP
theorem Jhv:Good T1 ctTl:=by
 unfold ctTl;refine Good.ad1 Jee ?_;rintro a ⟨h⟩;exact h
def cTr (x:ByteArray) (p:Prop):Ct:=mkc rTE b0 (fun r _=>TrR x r.1 r.2.1 r.2.2) p
theorem SpR.bad {x:ByteArray}{o:Option (List (List C))}{e a:Int}(h:SpR x o e a) (B:e≠0):TrR x [] e a:=by
 refine⟨?_,fun q=>absurd q B,fun _ hz=>?_⟩
 .by_cases hz:400<x.size
  .have:=(h.b hz).2;omega
  .obtain⟨j0,l,hs,hl,_⟩:=h.s (by omega)
   have:=hl.at hs.l.1 hs.l.2;exact⟨this.1,this.2.1,fun q=>absurd q B⟩
 .obtain⟨j0,l,hs,hl,_⟩:=h.s hz
  exact⟨j0,l,e,a,hs,hl,fun q=>absurd q B⟩
theorem Jc2 (l:List WdS):(fWs l).map wdE=l.map wdO:=by
 unfold fWs;rw[List.map_map];rfl
theorem SpR.good {x:ByteArray}{o:Option (List (List C))}{a:Int}(h:SpR x o 0 a):∃L,o=some L/\PsP L 12/\∀ps e' a',PsR L 12 ps e' a'->TrR x ps e' a':=by
 have E:x.size<=400:=by
  rcases Nat.lt_or_ge 400 x.size with q|q
  .exact absurd rfl (h.b q).1
  .exact q
 obtain⟨G,l,hs,hl,M⟩:=h.s E;obtain⟨ws,F⟩:=hl.f rfl hs.l.1 hs.l.2;have ha:=(hl.at hs.l.1 hs.l.2).2.2 rfl
 have ll:l.length=ws.length+1:=by
  have:=congrArg List.length F.e;rw[List.length_map,List.length_append]at this;exact this
 have O:=F.n;have h0:=hs.l.1;refine⟨fWs l,M rfl,⟨fun e he=>?_,?_,by decide⟩,fun ps e' a' P=>⟨?_,fun q=>?_,fun q _=>?_⟩⟩
 .obtain⟨w,hw,rfl⟩:=List.mem_map.1 he
  refine⟨w,rfl,?_⟩;have pw:=F.p w hw;have B:wdO w ∈ ws ++[⟨0,0,ByteArray.empty⟩]:=by rw[<-F.e];exact List.mem_map_of_mem hw
  have J:(0<=(wdO w).k/\(wdO w).k<=34)/\0<=(wdO w).n/\(wdO w).n<=4611686018427387903:=by
   rcases List.mem_append.1 B with q|q
   .have g:=F.g _ q
    generalize wdO w=v at g
    cases g with
    |nu h0 h1=>exact⟨by dsimp only;omega,h0,h1⟩
    |nm=>exact⟨by dsimp only;omega,by dsimp only;omega⟩
    |kw h0 h1=>exact⟨by dsimp only;omega,by dsimp only;omega⟩
   .rw[List.mem_singleton.1 q];exact⟨by dsimp only;omega,by dsimp only;omega⟩
  exact⟨J.1,pw.1,J.2⟩
 .show(fWs l).length<=1000
  unfold fWs;rw[List.length_map];omega
 .by_cases q:e'=0
  .have:=(P.y q).1;omega
  .refine⟨?_,?_,fun q'=>absurd q' q⟩
   .rcases(P.z q).2 with e|⟨w,hw,e⟩
    .omega
    .obtain⟨w',hw',e2⟩:=List.mem_map.1 hw
     have:=F.p w' hw';rw[Jcw e2]at this;omega
   .rcases(P.z q).2 with e|⟨w,hw,e⟩
    .omega
    .obtain⟨w',hw',e2⟩:=List.mem_map.1 hw
     have:=F.p w' hw';rw[Jcw e2]at this;omega
 .obtain⟨_,t,r,h1,h2,h3⟩:=P.y q
  rw[Jc2]at h1;rw[ha]at hl;exact⟨G,l,t,r,E,hs,hl,h1,h2,h3,P.r,P.n⟩
 .have h1:=(P.z q).1
  rw[Jc2]at h1;exact⟨G,l,0,a,hs,hl,fun _=>h1⟩
theorem Jfb {x:ByteArray}(h:SpN x):Tot T1 (cTr x True) 11 [pSs x]:=vR hPy Jhu [] [false,false,false] Tryz.func11 (SpN x/\∀(x_1:(Int × Int) × Unit),SpR x none x_1.1.1 x_1.1.2->br (decide (x_1.1.1≠0)) (TrR x [] x_1.1.1 x_1.1.2) (PsP [] 12/\∀(x_2:(List (List C) × Int × Int) × Unit),PsR [] 12 x_2.1.1 x_2.1.2.1 x_2.1.2.2->TrR x x_2.1.1 x_2.1.2.1 x_2.1.2.2)) (by kernel_rfl) ⟨h,fun⟨⟨e,a⟩,_⟩ hs=>⟨fun B=>hs.bad (dt B),fun B=>by
 have B:e=0:=Decidable.not_not.1 (df B);subst B;obtain⟨L,q,_⟩:=SpR.good hs
 cases q⟩⟩
theorem Jfc {x:ByteArray}(h:SpL x):Tot T1 (cTr x True) 11 [pSs x]:=vR hPy Jhv [] [false,false,false] Tryz.func11 (SpL x/\∀(x_1:(List (List C) × Int × Int) × Unit),SpR x (some x_1.1.1) x_1.1.2.1 x_1.1.2.2->br (decide (x_1.1.2.1≠0)) (TrR x [] x_1.1.2.1 x_1.1.2.2) (PsP x_1.1.1 12/\∀(x_2:(List (List C) × Int × Int) × Unit),PsR x_1.1.1 12 x_2.1.1 x_2.1.2.1 x_2.1.2.2->TrR x x_2.1.1 x_2.1.2.1 x_2.1.2.2)) (by kernel_rfl) ⟨h,fun⟨⟨L,e,a⟩,_⟩ hs=>⟨fun B=>hs.bad (dt B),fun B=>by
 have B:e=0:=Decidable.not_not.1 (df B);subst B;obtain⟨L,q,h2,E⟩:=SpR.good hs;cases q
 exact⟨h2,fun _ hp=>E _ _ _ hp⟩⟩⟩
theorem jBB (x:ByteArray):Tot T1 (cTr x True) 11 [pSs x]:=by
 obtain⟨⟨⟨o,e,a⟩,u⟩,hs,hd⟩:=Jfo x
 cases o with
 |none=>exact Jfb ⟨⟨⟨(e,a),u⟩,hs,hd⟩⟩
 |some L=>exact Jfc ⟨⟨⟨(L,e,a),u⟩,hs,hd⟩⟩
end V
end Go.Proofs.YtnhbcdnmfafbiaaGreatDoor
namespace Go.Proofs.YtnhbcdnmfafbiaaGreatDoor
namespace V
open Go.Proofs
theorem JcY:∀{ps:List (List C)},Rw fPq Jao ps->We ps (ntl ps)
 |[],_=>.nil
 |e ::ps,h=>by
  obtain⟨y,rfl,_⟩:=h e (List.mem_cons_self ..);refine .cons ?_ (JcY fun q hq=>h q (List.mem_cons_of_mem _ hq));exact .cons (.rfl _) (.cons (.j _) (Wl.refl _))
theorem JfU {ps:List (List C)}(h:Rw fPq Jao ps):WA (.ag [.r false 6 ps]) (.ag [.r false 6 (ntl ps)]):=fun w A mo fp v hv=>by
 obtain⟨arr,e,q⟩:∃arr:Array Value,v= .agg arr/\RL w A [.r false 6 ps] arr.toList []:=hv;refine⟨arr,e,?_⟩;generalize arr.toList=vs at q;show RL w A [.r false 6 (ntl ps)] vs [];generalize hF:([]:List Nat)=G at q
 cases q with
 |cons q1 q2=>
  cases q2;simp only[List.append_nil]at hF;subst hF;exact RL.cons (F:=[]) (F':=[]) (q1.row (JcY h)) .nil
theorem Tot.ps {R:Pz (List Arg)}{po:R.α->Unit->Prop}{p q:Prop}{f:Nat}{ps:List (List C)}(h:Tot T1 (mkc R b0 po p) f [aPs (ntl ps)]) (B:Rw fPq Jao ps):Tot T1 (mkc R b0 po q) f [aPs ps]:=by
 obtain⟨x,hx,hd⟩:=h;exact⟨x,hx,hd.wka (JfU B)⟩
structure In0 (L L':List (List C)):Prop where
 n:L'.length=L.length
 e:∀(j:Nat) (l:LnS),L[j]? =some (fL.f l)->∃p:Int,L'[j]? =some (fL5.f (l.o,l.r,l.x,l.y,p))/\(p=0\/pop l.o=true)
theorem In0.cons {e:List C}{L E:List (List C)}{l:LnS}(G:e=fL.f l) {p:Int}(hp:p=0\/pop l.o=true) (h:In0 L E):In0 (e ::L) (fL5.f (l.o,l.r,l.x,l.y,p) ::E):=by
 refine⟨by rw[List.length_cons,List.length_cons,h.n],fun j l' B=>?_⟩
 cases j with
 |zero=>
  have B:e=fL.f l':=Option.some.inj B;rw[G]at B;have:l=l':=jYR B;subst this;exact⟨p,rfl,hp⟩
 |succ j=>exact h.e j l' B
theorem RL.uiL {w:World}{A:Nat->Prop}:∀{l:List C}{us:List Value}{F:List Nat},RL w A (l ++[.ui]) us F->∃n,RL w A (l ++[I n]) us F
 |[],us,F,h=>by
  cases h with
  |cons c q=>
   cases q
   cases c with
   |ui n=>exact⟨n,.cons (.i _ _) .nil⟩
 |c ::l,us,F,h=>by
  cases h with
  |cons h1 h2=>
   obtain⟨n,h⟩:=RL.uiL h2;exact⟨n,.cons h1 h⟩
theorem RE.in0 {w:World}{A:Nat->Prop}:∀{L:List (List C)}{vs:List Value},Rw fL jKy L->RE w A 5 L vs []->∃L',In0 L L'/\Rw fL5 Tt L'/\RE w A 5 L' vs []
 |[],vs,_,h=>by
  generalize hF:([]:List Nat)=G at h;cases h;exact⟨[],⟨rfl,fun j l h=>by cases h⟩,Rw.nil,.nil _ _⟩
 |e ::L,vs,hr,h=>by
  obtain⟨l,E,ok⟩:=hr e (List.mem_cons_self ..);generalize hF:([]:List Nat)=G at h
  cases h with
  |cons q0 q1 q2=>
   obtain⟨M,O⟩:=List.append_eq_nil_iff.1 hF.symm;subst M O;obtain⟨L',P,i2,i3⟩:=RE.in0 (fun q B=>hr q (List.mem_cons_of_mem _ B)) q2
   obtain⟨p,hp,J⟩:∃p:Int,(p=0\/pop l.o=true)/\RL w A (fL5.f (l.o,l.r,l.x,l.y,p)) (List.take 5 vs) []:=by
    rw[E]at q1;generalize List.take 5 vs=us at q1 ⊢
    rcases ok.p with q|⟨q,B⟩
    .refine⟨0,.inl rfl,?_⟩
     have:fL.f l=fL5.f (l.o,l.r,l.x,l.y,0):=by
      show[I l.o,I l.r,I l.x,I l.y,l.p]=_;rw[q];rfl
     rw[<-this];exact q1
    .have q1:RL w A [I l.o,I l.r,I l.x,I l.y,l.p] us []:=q1
     rw[q]at q1;obtain⟨n,h⟩:=RL.uiL (l:=[I l.o,I l.r,I l.x,I l.y]) q1;exact⟨n,.inr B,h⟩
   refine⟨_,.cons E hp P,fun q B=>?_,.cons (F:=[]) (F':=[]) ?_ J i3⟩
   .rcases List.mem_cons.1 B with rfl|B
    .exact⟨_,rfl,trivial⟩
    .exact i2 q B
   .exact q0
def phi (c:CdS) (s:ByteArray):Prop:=∃L',In0 c.L L'/\ByP ⟨c.F,c.K,L'⟩/\ByR ⟨c.F,c.K,L'⟩ s
theorem RC.rowx {w:World}{A:Nat->Prop}{z:Nat}{l:List (List C)}{v:Value}{P:List (List C)->Prop}(h:RC w A (.r false z l) v []) (hP:P l\/l≠[]) (hl:∀vs,RE w A z l vs []->∃l',P l'/\l'.length=l.length/\RE w A z l' vs []):∃l',P l'/\RC w A (.r false z l') v []:=by
 generalize hF:([]:List Nat)=F at h
 cases h with
 |rn=>exact⟨[],hP.resolve_right (fun q=>q rfl),.rn false z⟩
 |re=>exact⟨[],hP.resolve_right (fun q=>q rfl),.re z _ _⟩
 |rf h1 h2 h3 h4 h5 h6=>
  obtain⟨l',p,e,r⟩:=hl _ h6;exact⟨l',p,by rw[<-e]at h4 h5 ⊢;exact .rf h1 h2 h3 h4 h5 r⟩
theorem JhT {c:CdS}(h:jLh c) {w:World}{A:Nat->Prop}{mo:Nat->Mo}{fp:Nat->List Nat}{v:Value}(B:TV w A mo fp (.ag (fCd.f c)) v):∃L',In0 c.L L'/\ByP ⟨c.F,c.K,L'⟩/\TV w A mo fp (.ag (fCd.f ⟨c.F,c.K,L'⟩)) v:=by
 obtain⟨arr,e,q⟩:∃arr:Array Value,v= .agg arr/\RL w A (fCd.f c) arr.toList []:=B;obtain⟨F,K,L⟩:=c;have q:RL w A [.r false 4 F,.r false 1 K,.r false 5 L] arr.toList []:=q
 suffices s:∃L',(In0 L L'/\Rw fL5 Tt L')/\RL w A [.r false 4 F,.r false 1 K,.r false 5 L'] arr.toList [] by
  obtain⟨L',⟨E,s2⟩,O⟩:=s;exact⟨L',E,⟨fun e he=>(h.F e he).imp fun _ q=>⟨q.1,trivial⟩,fun e he=>(h.K e he).imp fun _ q=>⟨q.1,trivial⟩,s2,h.f,h.k,by have:=E.n;have:=h.l;dsimp only at *;omega⟩,arr,e,O⟩
 generalize arr.toList=vs at q;generalize hF:([]:List Nat)=G at q
 cases q with
 |cons q1 q2=>
  cases q2 with
  |cons q2 q3=>
   cases q3 with
   |cons q3 q4=>
    cases q4;have J:=q1.pl rfl;have M:=q2.pl rfl;subst J M;simp only[List.append_nil,List.nil_append]at hF;subst hF
    obtain⟨L',p,r⟩:=q3.rowx (P:=fun L'=>In0 L L'/\Rw fL5 Tt L') (by
     cases L with
     |nil=>exact .inl ⟨⟨rfl,fun j l h=>by cases h⟩,Rw.nil⟩
     |cons=>exact .inr (by simp)) fun vs hvs=>by
      obtain⟨L',a,b,c⟩:=RE.in0 h.L hvs;exact⟨L',⟨a,b⟩,a.n,c⟩
    exact⟨L',p,RL.cons (F:=[]) (F':=[]) q1 (.cons (F:=[]) (F':=[]) q2 (.cons (F:=[]) (F':=[]) r .nil))⟩
def rUs:Pz (List Arg):=⟨ByteArray->Prop,fun p=>[.pl (.c (.us p))],fun x=>match x with
 |[.pl (.c (.us p))]=>some p
 |_=>none,fun b x e=>by split at e <;> cases e;rfl⟩
theorem JhZ {c:CdS}(h:jLh c):Tot T (mkc rUs b0 (fun p _=>p=phi c) True) 17 [.pl (.ag (fCd.f c))]:=by
 refine⟨(phi c,()),rfl,?_⟩;have hf:jRb T.P 17:=(Jad (c:=⟨[],[],[]⟩) ⟨Rw.nil,Rw.nil,Rw.nil,by simp,by simp,by simp⟩).choose_spec.2.1;refine Does.ref0 hf fun w A mo fp v B=>?_;obtain⟨E,i,p,t⟩:=JhT h B;obtain⟨⟨s,u⟩,hs,hd⟩:=Jad p
 exact⟨_,t,hd.wkr fun w A mo fp v B=>by
  have B:RC w A (.s s) v []:=B;show RC w A (.us (phi c)) v []
  cases B with
  |s=>exact .us ⟨E,i,p,hs⟩⟩
theorem JfZ {c:CdS}(h:Rw fL jKy c.L) {s B:ByteArray}(a:phi c s) (b:phi c B):rdE s=rdE B/\(rdE s=0->(rdC B).F=(rdC s).F/\(rdC B).K=(rdC s).K/\jQ7 (rdC s).L (rdC B).L):=by
 obtain⟨Y,G,M,P⟩:=a;obtain⟨Z,i2,O,V⟩:=b;refine JfK M O rfl rfl ⟨by dsimp only;rw[G.n,i2.n],fun j hj=>?_⟩ P V
 dsimp only at hj ⊢
 have E:j<c.L.length:=by rw[<-G.n];exact hj
 obtain⟨l,hl,ok⟩:=h _ (List.getElem_mem E);have e:c.L[j]? =some (fL.f l):=by rw[List.getElem?_eq_getElem E,hl]
 obtain⟨p,J,a2⟩:=G.e j l e;obtain⟨q,b1,b2⟩:=i2.e j l e;refine⟨l.o,l.r,l.x,l.y,p,q,J,b1,?_⟩;rcases a2 with rfl|a2
 .rcases b2 with rfl|b2
  .exact .inl rfl
  .exact .inr b2
 .exact .inr a2
end V
end Go.Proofs.YtnhbcdnmfafbiaaGreatDoor
set_option maxRecDepth 100000
namespace Go.Proofs.YtnhbcdnmfafbiaaGreatDoor
namespace V
open Go.Proofs
def trP (x:ByteArray) (r:List (List C) × Int × Int):Prop:=TrR x r.1 r.2.1 r.2.2/\Does T1 11 [pSs x] [.pl (.ag [.r false 6 r.1]),pI r.2.1,pI r.2.2] []
noncomputable def trF (x:ByteArray):List (List C) × Int × Int:=Classical.epsilon (trP x)
theorem Jc6 (x:ByteArray):trP x (trF x):=Classical.epsilon_spec (by
 obtain⟨⟨⟨ps,e,a⟩,u⟩,h,hd⟩:=jBB x
 exact⟨(ps,e,a),h,hd⟩)
theorem Jbh (x:ByteArray):TrR x (trF x).1 (trF x).2.1 (trF x).2.2:=(Jc6 x).1
structure TrQ (x:ByteArray) (r:List (List C)) (e a:Int):Prop where
 e:r=(trF x).1/\e=(trF x).2.1/\a=(trF x).2.2
theorem Jfd (x:ByteArray):Tot T1 (mkc rTE b0 (fun r _=>TrQ x r.1 r.2.1 r.2.2) True) 11 [pSs x]:=⟨(((trF x).1,(trF x).2.1,(trF x).2.2),()),⟨rfl,rfl,rfl⟩,(Jc6 x).2⟩
structure PsG (ps:List (List C)):Prop where
 r:Rw fPq Jao ps
 p:Ps (ntl ps)
 n:RnT (ntl ps)
 t:TrA (ntl ps) ((ntl ps).length-1) (teA (ntl ps) ((ntl ps).length-1))
 q:pq' (ntl ps) ((ntl ps).length-1)<=5593
 b:twl (mi 0 (teA (ntl ps) ((ntl ps).length-1)))+1<=100000000
noncomputable def tfF (qs:List (List C)):Int:=Classical.epsilon fun n:Int=>Does T 13 [aPs qs] [pI n,.pl (.c .ui)] []
def ofQ (qs ns:List (List C)):Prop:=OfR (pq' qs (qs.length-1)) ns/\Does T 15 [aPs qs] [.pl (.ag [.r false 13 ns])] []
noncomputable def ofF (qs:List (List C)):List (List C):=Classical.epsilon (ofQ qs)
def cdP (ns:List (List C)) (c:CdS):Prop:=jLh c/\Does T 14 [.pl (.ag [.r false 13 ns])] [.pl (.ag (fCd.f c))] []
noncomputable def cdF (ns:List (List C)):CdS:=@Classical.epsilon _ ⟨⟨[],[],[]⟩⟩ (cdP ns)
def dnP (c d:CdS):Prop:=jLh d/\Does T 16 [.pl (.ag (fCd.f c))] [.pl (.ag (fCd.f d))] []
noncomputable def dnF (c:CdS):CdS:=@Classical.epsilon _ ⟨⟨[],[],[]⟩⟩ (dnP c)
structure Eq1 (a b:List (List C)):Prop where
 e:a=b
structure EqI (a b:Int):Prop where
 e:a=b
structure EqC (a b:CdS):Prop where
 e:a=b
structure EqP (a b:ByteArray->Prop):Prop where
 e:a=b
structure NsP (ns:List (List C)):Prop where
 n:Ns ns
 w:1+wt ns (wr (ns.length-1))+fwt ns (wr (ns.length-1))<=6000
theorem PsG.tf {ps:List (List C)}(h:PsG ps):TfP (ntl ps):=⟨h.p,h.n,by have:=h.q;omega⟩
theorem tfX {ps:List (List C)}(h:PsG ps):Tot T1 (mkc rEU b0 (fun n _=>EqI n (tfF (ntl ps))) True) 13 [aPs ps]:=by
 have sp:Does T 13 [aPs (ntl ps)] [pI (tfF (ntl ps)),.pl (.c .ui)] []:=Classical.epsilon_spec (p:=fun n:Int=>Does T 13 [aPs (ntl ps)] [pI n,.pl (.c .ui)] []) (by
  obtain⟨⟨n,u⟩,_,hd⟩:=jZ8 h.tf
  exact⟨n,hd⟩)
 exact Tot.ps (p:=True) (Tot.vr (p:=True) (q:=True) (B:=b0) ⟨(tfF (ntl ps),()),⟨rfl⟩,sp⟩ rfl rfl fun _=>rfl) h.r
theorem Jcj {ps:List (List C)}(h:PsG ps):ofQ (ntl ps) (ofF (ntl ps)):=Classical.epsilon_spec (by
 obtain⟨⟨n,u⟩,e,hd⟩:=Jf9 (jTT ((ntl ps).length+1)) h.p (Nat.lt_succ_self _) (show pq' (ntl ps) ((ntl ps).length-1)<=1000000 by have:=h.q;omega)
 exact⟨n,e,hd⟩)
theorem ofX {ps:List (List C)}(h:PsG ps):Tot T1 (mkc (rS JbN) b0 (fun n _=>Eq1 n (ofF (ntl ps))) True) 15 [aPs ps]:=Tot.ps (p:=True) (Tot.vr (p:=True) (q:=True) (B:=b0) ⟨(ofF (ntl ps),()),⟨rfl⟩,(Jcj h).2⟩ rfl rfl fun _=>rfl) h.r
theorem JbC {ps:List (List C)}(h:PsG ps):NsP (ofF (ntl ps)):=⟨(Jcj h).1.o,by have:=(Jcj h).1.e;have:=h.q;omega⟩
theorem JbW {ns:List (List C)}(h:NsP ns):cdP ns (cdF ns):=@Classical.epsilon_spec _ (cdP ns) (by
 obtain⟨⟨n,u⟩,e,hd⟩:=Jac h.n h.w
 exact⟨n,e,hd⟩)
theorem cdX {ns:List (List C)}(h:NsP ns):Tot T1 (mkc (rS fCd) b0 (fun c _=>EqC c (cdF ns)) True) 14 [.pl (.ag [.r false 13 ns])]:=Tot.vr (p:=True) (B:=b0) ⟨(cdF ns,()),⟨rfl⟩,(JbW h).2⟩ rfl rfl fun _=>rfl
theorem Jcz {c:CdS}(h:jLh c):dnP c (dnF c):=@Classical.epsilon_spec _ (dnP c) (by
 obtain⟨⟨n,u⟩,e,hd⟩:=Jab h
 exact⟨n,e,hd⟩)
theorem dnX {c:CdS}(h:jLh c):Tot T1 (mkc (rS fCd) b0 (fun d _=>EqC d (dnF c)) True) 16 [.pl (.ag (fCd.f c))]:=Tot.vr (p:=True) (B:=b0) ⟨(dnF c,()),⟨rfl⟩,(Jcz h).2⟩ rfl rfl fun _=>rfl
theorem byX {c:CdS}(h:jLh c):Tot T1 (mkc rUs b0 (fun p _=>EqP p (phi c)) True) 17 [.pl (.ag (fCd.f c))]:=by
 obtain⟨⟨p,u⟩,e,hd⟩:=JhZ h;exact Tot.vr (p:=True) (B:=b0) ⟨(p,u),⟨e⟩,hd⟩ rfl rfl fun _=>rfl
theorem txX {ps:List (List C)}(h:PsG ps):Tot T1 (mkc rSs b0 (fun s _=>TxR (ntl ps) s) True) 12 [aPs ps]:=Tot.ps (p:=True) (Je4 (Jho ((ntl ps).length+1)) (Nat.lt_succ_self _) ⟨h.p,h.t,h.b⟩) h.r
noncomputable def ctSh:Cts:=ctp 11 (kA (aC aSs aN) fun a=>mkc rTE b0 (fun r _=>TrQ a.1 r.1 r.2.1 r.2.2) True) <|ctp 12 (kA (aC (aG fT6) aN) fun a=>mkc rSs b0 (fun s _=>TxR (ntl a.1) s) (PsG a.1)) <|ctp 13 (kA (aC (aG fT6) aN) fun a=>mkc rEU b0 (fun n _=>EqI n (tfF (ntl a.1))) (PsG a.1)) <|ctp 15 (kA (aC (aG fT6) aN) fun a=>mkc (rS JbN) b0 (fun n _=>Eq1 n (ofF (ntl a.1))) (PsG a.1)) <|ctp 14 (kA (aC (aG JbN) aN) fun a=>mkc (rS fCd) b0 (fun c _=>EqC c (cdF a.1)) (NsP a.1)) <|ctp 16 (kA (aC (aG fCd) aN) fun a=>mkc (rS fCd) b0 (fun d _=>EqC d (dnF a.1)) (jLh a.1)) <|ctp 17 (kA (aC (aG fCd) aN) fun a=>mkc rUs b0 (fun p _=>EqP p (phi a.1)) (jLh a.1)) ct0
theorem JbQ:Good T1 ctSh:=by
 unfold ctSh;refine Good.ad1 (Good.ad1 (Good.ad1 (Good.ad1 (Good.ad1 (Good.ad1 (Good.ad1 Jae ?_) ?_) ?_) ?_) ?_) ?_) ?_
 .rintro a h;exact byX h
 .rintro a h;exact dnX h
 .rintro a h;exact cdX h
 .rintro a h;exact ofX h
 .rintro a h;exact tfX h
 .rintro a h;exact txX h
 .rintro a -;exact Jfd _
end V
end Go.Proofs.YtnhbcdnmfafbiaaGreatDoor
set_option maxRecDepth 100000
namespace Go.Proofs.YtnhbcdnmfafbiaaGreatDoor
namespace V
open Go.Proofs
theorem Jc5:∀{u:List Wd},(∀w ∈ u,Gw w)->twl u<=2*W0 wz u
 |[],_=>Nat.le_refl _
 |w ::u,h=>by
  have f:=(h w (List.mem_cons_self ..)).f.n;have l:1<=wz w:=by unfold wz;exact List.length_pos_iff.2 f
  have ih:=Jc5 (u:=u) fun v hv=>h v (List.mem_cons_of_mem _ hv);rw[twl];have e:(wtx w).length=wz w:=rfl
  cases u with
  |nil=>show _<=2*wz w;rw[twl];omega
  |cons v r=>
   show _<=2*(wz w+min (bl w.k) (bl v.k)+W0 wz (v ::r));omega
structure TxT (x:ByteArray) (ps:List (List C)) (t:Te) (ws:List Wd):Prop where
 g:Gr 12 0 t ws
 w:∀w ∈ ws,Gw w
 z:W0 wz ws<=x.size
 n:ws.length<=400
 h:x.size<=400
 p:ntl ps=Jan 0 t
theorem TrR.tx {x:ByteArray}{ps:List (List C)}{a:Int}(h:TrR x ps 0 a):(∃t ws,TxT x ps t ws)/\PsG ps:=by
 obtain⟨P,l,t,r,J,hs,hl,hp,G,hn,B,h2⟩:=h.y rfl;obtain⟨ws,F⟩:=hl.f rfl hs.l.1 hs.l.2;have h0:=hs.l.1;rw[F.e]at hp;have g:=gram F.g hp G;have O:=F.z;have M:=F.n
 have X:TxT x ps t ws:=⟨g,F.g,by omega,by omega,J,hn⟩
 obtain⟨E,a2,a3⟩:=Jdj B h2 g hn;have e:=a3.eq;refine⟨⟨t,ws,X⟩,B,E,a2,by rw[e];exact a3,?_,?_⟩
 .rw[a3.pq];have:=g.pw;have:=X.n;omega
 .rw[e]
  have b:=Jc5 (g.all F.g);have c:=g.s2 (z:=wz) rfl rfl;have:=X.z;omega
def rSE:Pz (List Arg):=⟨ByteArray × Int × Int,fun x=>[pSs x.1,pI x.2.1,pI x.2.2],fun l=>match l with
 |[.pl (.c (.s s)),.pl (.c (.i .i64 e)),.pl (.c (.i .i64 a))]=>some (s,e,a)
 |_=>none,fun b x e=>by split at e <;> cases e;rfl⟩
structure ShR (x s:ByteArray) (e a:Int):Prop where
 q:e=(trF x).2.1
 n:e≠0->s=ByteArray.empty/\a=(trF x).2.2
 y:e=0->a=0/\TxR (ntl (trF x).1) s
theorem jVm (x:ByteArray):Tot T1 (mkc rSE b0 (fun r _=>ShR x r.1 r.2.1 r.2.2) True) 7 [.br [],pSs x]:=vR hPy JbQ [] [false,false,false] Tryz.func7 (True/\∀(x_1:(List (List C) × Int × Int) × Unit),TrQ x x_1.1.1 x_1.1.2.1 x_1.1.2.2->br (decide (x_1.1.2.1≠0)) (ShR x {data:=#[]} x_1.1.2.1 x_1.1.2.2) (PsG x_1.1.1/\∀(x_2:ByteArray × Unit),TxR (ntl x_1.1.1) x_2.1->ShR x x_2.1 0 0)) (by kernel_rfl) (by
 refine⟨trivial,fun⟨⟨ps,e,a⟩,_⟩ ⟨e1,e2,e3⟩=>?_⟩
 dsimp only at e1 e2 e3 ⊢
 refine⟨fun h=>⟨e2,fun _=>⟨rfl,e3⟩,fun q=>absurd q (dt h)⟩,fun h=>?_⟩;have h:e=0:=Decidable.not_not.1 (df h);have t:=Jbh x;rw[<-e1,<-e2,h]at t;refine⟨t.tx.2,fun⟨s,_⟩ hs=>⟨by rw[<-e2,h],fun q=>absurd rfl q,fun _=>⟨rfl,?_⟩⟩⟩
 rw[<-e1];exact hs)
structure CmA (x s:ByteArray) (e a:Int):Prop where
 q:e=(trF x).2.1/\a=(trF x).2.2
noncomputable def JaO (x:ByteArray):Int:=tfF (ntl (trF x).1)
noncomputable def JaA (x:ByteArray):CdS:=dnF (cdF (ofF (ntl (trF x).1)))
structure RfA (x:ByteArray):Prop where
 q:(trF x).2.1≠0
structure RfB (x:ByteArray):Prop where
 q:(trF x).2.1=0
 t:JaO x≠0
structure RfC (x:ByteArray):Prop where
 q:(trF x).2.1=0
 t:JaO x=0
def rSU:Pz (List Arg):=⟨ByteArray × Int,fun x=>[pSs x.1,pI x.2,.pl (.c .ui)],fun l=>match l with
 |[.pl (.c (.s s)),.pl (.c (.i .i64 e)),.pl (.c .ui)]=>some (s,e)
 |_=>none,fun b x e=>by split at e <;> cases e;rfl⟩
def rUE:Pz (List Arg):=⟨(ByteArray->Prop) × Int × Int,fun x=>[.pl (.c (.us x.1)),pI x.2.1,pI x.2.2],fun l=>match l with
 |[.pl (.c (.us s)),.pl (.c (.i .i64 e)),.pl (.c (.i .i64 a))]=>some (s,e,a)
 |_=>none,fun b x e=>by split at e <;> cases e;rfl⟩
structure CmB (x:ByteArray) (e:Int):Prop where
 q:e=JaO x
structure CmC (x:ByteArray) (p:ByteArray->Prop) (e a:Int):Prop where
 q:p=phi (JaA x)/\e=0/\a=0
theorem JbA {x:ByteArray}(h:(trF x).2.1=0) {ps:List (List C)}(e:ps=(trF x).1):PsG ps:=by
 have t:=Jbh x;rw[h]at t;rw[e];exact t.tx.2
theorem Jey {x:ByteArray}(h:(trF x).2.1=0):jLh (JaA x):=(Jcz (JbW (JbC (JbA h rfl))).1).1
theorem Jeu {x:ByteArray}(h:RfA x):Tot T1 (mkc rSE b0 (fun r _=>CmA x r.1 r.2.1 r.2.2) True) 8 [.br [],pSs x]:=vR hPy JbQ [] [false,false,false] Tryz.func8 (True/\∀(x_1:(List (List C) × Int × Int) × Unit),TrQ x x_1.1.1 x_1.1.2.1 x_1.1.2.2->br (decide (x_1.1.2.1≠0)) (CmA x {data:=#[]} x_1.1.2.1 x_1.1.2.2) (PsG x_1.1.1/\∀(x:Int × Unit),EqI x.1 (tfF (ntl x_1.1.1))->br (decide (x.1≠0)) False (PsG x_1.1.1/\∀(x:List (List C) × Unit),Eq1 x.1 (ofF (ntl x_1.1.1))->NsP x.1/\∀(x_2:CdS × Unit),EqC x_2.1 (cdF x.1)->jLh x_2.1/\∀(x:CdS × Unit),EqC x.1 (dnF x_2.1)->jLh x.1/\∀(x_3:(ByteArray->Prop) × Unit),EqP x_3.1 (phi ({F:=x.1.F,K:=x.1.K,L:=x.1.L},()).1)->False))) (by kernel_rfl) ⟨trivial,fun⟨⟨ps,e,a⟩,_⟩ ⟨e1,e2,e3⟩=>⟨fun _=>⟨e2,e3⟩,fun q=>absurd (Decidable.not_not.1 (df q)) (by dsimp only at e2 ⊢;rw[e2];exact h.q)⟩⟩
theorem Jet {x:ByteArray}(h:RfB x):Tot T1 (mkc rSU b0 (fun r _=>CmB x r.2) True) 8 [.br [],pSs x]:=vR hPy JbQ [] [false,false,false] Tryz.func8 (True/\∀(x_1:(List (List C) × Int × Int) × Unit),TrQ x x_1.1.1 x_1.1.2.1 x_1.1.2.2->br (decide (x_1.1.2.1≠0)) False (PsG x_1.1.1/\∀(x_2:Int × Unit),EqI x_2.1 (tfF (ntl x_1.1.1))->br (decide (x_2.1≠0)) (CmB x x_2.1) (PsG x_1.1.1/\∀(x:List (List C) × Unit),Eq1 x.1 (ofF (ntl x_1.1.1))->NsP x.1/\∀(x_3:CdS × Unit),EqC x_3.1 (cdF x.1)->jLh x_3.1/\∀(x:CdS × Unit),EqC x.1 (dnF x_3.1)->jLh x.1/\∀(x_4:(ByteArray->Prop) × Unit),EqP x_4.1 (phi ({F:=x.1.F,K:=x.1.K,L:=x.1.L},()).1)->False))) (by kernel_rfl) (by
 refine⟨trivial,fun⟨⟨ps,e,a⟩,_⟩ ⟨e1,e2,e3⟩=>⟨fun q=>absurd (e2.trans h.q) (dt q),fun q=>⟨(JbA h.q e1),fun⟨n,_⟩ ⟨en⟩=>?_⟩⟩⟩
 dsimp only at e1 en ⊢
 rw[e1]at en
 exact⟨fun _=>⟨en⟩,fun q=>absurd (Decidable.not_not.1 (df q)) (by rw[en];exact h.t)⟩)
theorem Jes {x:ByteArray}(h:RfC x):Tot T1 (mkc rUE b0 (fun r _=>CmC x r.1 r.2.1 r.2.2) True) 8 [.br [],pSs x]:=vR hPy JbQ [] [false,false,false] Tryz.func8 (True/\∀(x_1:(List (List C) × Int × Int) × Unit),TrQ x x_1.1.1 x_1.1.2.1 x_1.1.2.2->br (decide (x_1.1.2.1≠0)) False (PsG x_1.1.1/\∀(x_2:Int × Unit),EqI x_2.1 (tfF (ntl x_1.1.1))->br (decide (x_2.1≠0)) False (PsG x_1.1.1/\∀(x_3:List (List C) × Unit),Eq1 x_3.1 (ofF (ntl x_1.1.1))->NsP x_3.1/\∀(x_4:CdS × Unit),EqC x_4.1 (cdF x_3.1)->jLh x_4.1/\∀(x_5:CdS × Unit),EqC x_5.1 (dnF x_4.1)->jLh x_5.1/\∀(x_6:(ByteArray->Prop) × Unit),EqP x_6.1 (phi ({F:=x_5.1.F,K:=x_5.1.K,L:=x_5.1.L},()).1)->CmC x (x_6.1,0,0).1 0 0))) (by kernel_rfl) (by
 refine⟨trivial,fun⟨⟨ps,e,a⟩,_⟩ ⟨e1,e2,e3⟩=>⟨fun q=>absurd (e2.trans h.q) (dt q),fun q=>⟨(JbA h.q e1),fun⟨n,_⟩ ⟨en⟩=>?_⟩⟩⟩;have G:=JbA h.q e1
 dsimp only at e1 en G ⊢
 subst e1;refine⟨fun q=>absurd (en.trans h.t) (dt q),fun q=>⟨G,fun⟨ns,_⟩ ⟨ens⟩=>?_⟩⟩
 dsimp only at ens ⊢
 subst ens;refine⟨JbC G,fun⟨c,_⟩ ⟨ec⟩=>?_⟩
 dsimp only at ec ⊢
 subst ec;refine⟨(JbW (JbC G)).1,fun⟨d,_⟩ ⟨ed⟩=>?_⟩
 dsimp only at ed ⊢
 subst ed
 exact⟨(Jcz (JbW (JbC G)).1).1,fun⟨p,_⟩ ⟨ep⟩=>⟨ep,rfl,rfl⟩⟩)
end V
end Go.Proofs.YtnhbcdnmfafbiaaGreatDoor
