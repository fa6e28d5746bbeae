import Derived.Test.YtnhbcdnmfafbiaaGreatDoorM13
import Derived.Test.YtnhbcdnmfafbiaaGreatDoorM31
import Derived.WalkKit
import Derived.WalkSpells
import Derived.WalkLawsBesides
import Derived.Deep.Quiet
import Derived.Deep.LoopGhost
import Derived.Deep.Cut
import Derived.Lib.Hide
import Derived.Laws.MakeOwn
import Derived.Laws.OwnMore
import Derived.OwnWalk
import Derived.Handy
set_option linter.unusedVariables false
set_option linter.unusedSimpArgs false
set_option maxHeartbeats 20000000
set_option maxRecDepth 100000
namespace Go.Proofs.YtnhbcdnmfafbiaaGreatDoor
namespace V
open Go.Proofs
theorem jLn {ps:List (List C)}{n:Int}(hn:0<=n) (i:Int):jJO ps n i<n:=by
 unfold jJO
 split
 .rename_i h;exact h.2.2
 .omega
noncomputable def exk (k:Int):Nat:=if k=9 then 24 else if k=8\/k=10\/k=12 then 12 else 0
noncomputable def pqF (ps:List (List C)):Nat->Int->Nat
 |0,_=>5
 |f+1,n=>if n<0 then 5 else 5+2*(jJI ps n).m.length+(jJI ps n).s.length+exk (jJI ps n).k+jJN (fun i=>pqF ps f (jJO ps n i)) (jJI ps n).s.length
noncomputable def pq' (ps:List (List C)) (n:Int):Nat:=pqF ps (n+1).toNat n
theorem jWu (ps:List (List C)):∀(f:Nat) (k:Int),(k+1).toNat<=f->pqF ps f k=pqF ps (k+1).toNat k:=by
 intro f
 induction f using Nat.strongRecOn with
 |_ f ih=>
  intro k hk
  by_cases h0:k<0
  .have e:(k+1).toNat=0:=by omega
   rw[e]
   cases f with
   |zero=>rfl
   |succ f=>simp only[pqF];rw[if_pos h0]
  .have e:(k+1).toNat=k.toNat+1:=by omega
   rw[e]
   cases f with
   |zero=>omega
   |succ f=>
    simp only[pqF];rw[if_neg h0,if_neg h0]
    have:∀i:Nat,pqF ps f (jJO ps k i)=pqF ps k.toNat (jJO ps k i):=fun i=>by
     have hl:=jLn (ps:=ps) (n:=k) (by omega) i;rw[ih f (by omega) _ (by omega)]
     by_cases hf:k.toNat<f+1
     .rw[ih k.toNat (by omega) (jJO ps k i) (by omega)]
     .omega
    rw[jLj this]
noncomputable def jJ3 (ps:List (List C)) (n:Int) (j:Nat):Nat:=jJN (fun i=>pq' ps (jJO ps n i)) j
theorem jPg (ps:List (List C)) (n:Int) (j:Nat):jJ3 ps n (j+1)=jJ3 ps n j+pq' ps (jJO ps n j):=rfl
theorem jK6 (ps:List (List C)) (n:Int) {j m:Nat}(h:j<=m):jJ3 ps n j<=jJ3 ps n m:=jKO _ h
theorem jKr {ps:List (List C)}{n:Int}(hn:0<=n):pq' ps n=5+2*(jJI ps n).m.length+(jJI ps n).s.length+exk (jJI ps n).k+jJ3 ps n (jJI ps n).s.length:=by
 unfold pq' jJ3;rw[show(n+1).toNat=n.toNat+1 by omega];simp only[pqF];rw[if_neg (by omega)]
 congr 1
 refine jLj fun i=>?_;have hl:=jLn (ps:=ps) hn i;exact jWu ps _ _ (by omega)
theorem jPj (ps:List (List C)) {n:Int}(h:n<0):pq' ps n=5:=by
 unfold pq';rw[show(n+1).toNat=0 by omega];rfl
theorem jWs (ps:List (List C)) (n:Int):5<=pq' ps n:=by
 by_cases h:0<=n
 .rw[jKr h];omega
 .rw[jPj ps (by omega)];exact Nat.le_refl _
theorem jSg {ps:List (List C)}{n i:Int}(h:(jJI ps n).s.length<=i):jJO ps n i= -1:=by
 unfold jJO;rw[if_neg (by omega)]
theorem pq2 (ps:List (List C)) (n:Int):pq' ps (jJO ps n 0)+pq' ps (jJO ps n 1)<=jJ3 ps n (jJI ps n).s.length+10:=by
 have k0:jJ3 ps n 1=jJ3 ps n 0+pq' ps (jJO ps n 0):=rfl;have E:jJ3 ps n 2=jJ3 ps n 1+pq' ps (jJO ps n 1):=rfl;have z:jJ3 ps n 0=0:=rfl;have o:∀i:Int,(jJI ps n).s.length<=i->pq' ps (jJO ps n i)=5:=fun i hi=>by rw[jSg hi,jPj ps (by omega)]
 by_cases h0:(jJI ps n).s.length<=0
 .have:=o 0 (by omega);have:=o 1 (by omega);omega
 by_cases B:(jJI ps n).s.length<=1
 .have:=o 1 (by omega)
  have:=jK6 ps n (j:=1) (m:=(jJI ps n).s.length) (by omega);omega
 have:=jK6 ps n (j:=2) (m:=(jJI ps n).s.length) (by omega);omega
noncomputable def tw (ns:List (List C)) (n:Int):Nat:=wt ns n+fwt ns n
theorem jPG {ns:List (List C)}(m:List (List C)) {n:Int}(h:n<ns.length):jm (ns ++m) n=jm ns n:=by
 by_cases h0:n<0
 .rw[jM9 (.inl h0),jM9 (.inl h0)]
 .have e:(ns ++m)[n.toNat]? =ns[n.toNat]?:=List.getElem?_append_left (by omega)
  by_cases hx:∃x:N,ns[n.toNat]? =some (fN.f x)
  .obtain⟨x,hx⟩:=hx
   rw[jNY (by omega) hx,jNY (by omega) (e.trans hx)]
  .have a:jm ns n=nd0:=by unfold jm;rw[dif_neg fun h=>hx h.2]
   have b:jm (ns ++m) n=nd0:=by unfold jm;rw[dif_neg fun h=>hx (by rw[<-e];exact h.2)]
   rw[a,b]
theorem jP0 {ns:List (List C)}(m:List (List C)) {n:Int}(h:n<ns.length) (i:Int):jnF (ns ++m) n i=jnF ns n i:=by
 unfold jnF;rw[jPG m h]
theorem jRe {ns:List (List C)}(m:List (List C)):∀(f:Nat) (n:Int),n<ns.length->wtF (ns ++m) f n=wtF ns f n
 |0,_,_=>rfl
 |f+1,n,h=>by
  simp only[wtF]
  by_cases h0:n<0
  .rw[if_pos h0,if_pos h0]
  .rw[if_neg h0,if_neg h0,jPG m h]
   have:∀i:Nat,wtF (ns ++m) f (jnF (ns ++m) n i)=wtF ns f (jnF ns n i):=fun i=>by
    have hl:=jKC (ns:=ns) (n:=n) (by omega) i;rw[jP0 m h,jRe m f _ (by omega)]
   rw[jLj this]
theorem jRd {ns:List (List C)}(m:List (List C)) {n:Int}(h:n<ns.length):wt (ns ++m) n=wt ns n:=jRe m _ n h
theorem jTu {ns:List (List C)}(m:List (List C)):∀(f:Nat) (n:Int),n<ns.length->fwF (ns ++m) f n=fwF ns f n
 |0,_,_=>rfl
 |f+1,n,h=>by
  simp only[fwF]
  by_cases h0:n<0
  .rw[if_pos h0,if_pos h0]
  .have hl:∀i:Int,jnF ns n i<n:=fun i=>jKC (ns:=ns) (n:=n) (by omega) i
   have:∀i:Int,fwF (ns ++m) f (jnF (ns ++m) n i)=fwF ns f (jnF ns n i):=fun i=>by
    have:=hl i;rw[jP0 m h,jTu m f _ (by omega)]
   rw[if_neg h0,if_neg h0,jPG m h,jLj fun i=>this i,this 0,jP0 m h,jRd m (by have:=hl 0;omega)]
theorem jRw {ns:List (List C)}(m:List (List C)) {n:Int}(h:n<ns.length):tw (ns ++m) n=tw ns n:=by
 unfold tw fwt;rw[jRd m h,jTu m _ n h]
theorem jRE {f g:Nat->Nat}:∀{n:Nat},(∀i,i<n->f i<=g i)->jJN f n<=jJN g n
 |0,_=>Nat.le_refl _
 |n+1,h=>Nat.add_le_add (jRE fun i hi=>h i (by omega)) (h n (by omega))
theorem jRF (f g:Nat->Nat):∀n,jJN (fun i=>f i+g i) n=jJN f n+jJN g n
 |0=>rfl
 |n+1=>by show jJN _ n+(f n+g n)=(jJN f n+f n)+(jJN g n+g n);rw[jRF f g n];omega
structure Ks (ns:List (List C)) (g:Nat->Nat) (s:List (List C)):Prop where
 k:∀j,j<s.length->∃y:Int,s[j]? =some [I y]/\inI y/\y<ns.length/\tw ns y<=g j
theorem jPF (ns:List (List C)) (x:N):jm (ns ++[fN.f x]) ns.length=x:=jNY (by omega) (by
 rw[show(ns.length:Int).toNat=ns.length by omega,List.getElem?_append_right (Nat.le_refl _),Nat.sub_self];rfl)
theorem jS5 {ns:List (List C)}{x:N}{g:Nat->Nat}(h:Ks ns g x.s) {j:Nat}(E:j<x.s.length):tw (ns ++[fN.f x]) (jnF (ns ++[fN.f x]) ns.length j)<=g j:=by
 obtain⟨y,G,h2,B,J⟩:=h.k j E;have e:jLs x.s j=y:=jL3 G;unfold jnF;rw[jPF,show(j:Int).toNat=j by omega,e,if_pos ⟨by omega,by omega,B⟩,jRw _ B];exact J
theorem jUQ {ns:List (List C)}{x:N}{g:Nat->Nat}(h:Ks ns g x.s) (hk:x.k≠12):tw (ns ++[fN.f x]) ns.length<=4+x.b.length+x.s.length+jJN g x.s.length:=by
 have e:=jPF ns x;unfold tw;rw[jLT (by omega) (by rw[e];exact hk),jMH (by omega) (by rw[e];exact hk),e]
 have:jJT (ns ++[fN.f x]) ns.length x.s.length+jKc (ns ++[fN.f x]) ns.length x.s.length<=jJN g x.s.length:=by
  unfold jJT jKc;rw[<-jRF];exact jRE fun i hi=>jS5 h hi
 omega
theorem jUS {ns:List (List C)}{x:N}{g:Nat->Nat}(h:Ks ns g x.s) (hk:x.k=12) (hs:x.s.length=1):tw (ns ++[fN.f x]) ns.length<=6+2*x.b.length+g 0:=by
 have e:=jPF ns x;have k0:=jS5 h (j:=0) (by omega);unfold tw at k0 ⊢;rw[jTs (by omega) (by rw[e];exact hk),e]
 have w:wt (ns ++[fN.f x]) ns.length=4+x.b.length+x.s.length:=by
  unfold wt;rw[show((ns.length:Int)+1).toNat=ns.length+1 by omega];simp only[wtF];rw[if_neg (by omega),e,if_pos hk];omega
 rw[w];have:((0:Nat):Int)=0:=rfl;rw[this]at k0;omega
end V
end Go.Proofs.YtnhbcdnmfafbiaaGreatDoor
set_option maxRecDepth 100000
namespace Go.Proofs.YtnhbcdnmfafbiaaGreatDoor
namespace V
open Go.Proofs
structure Wst (q:Nat) (w w':Wa):Prop where
 ps:w'.ps=w.ps
 ns:∃m,w'.ns=w.ns ++m/\Rw fN jKd m/\m.length<=q
 b:∀b,WaB w (b+q)->WaB w' b
theorem WaB.up {w:Wa}{b b':Nat}(h:WaB w b) (B:b'<=b):WaB w b':=⟨h.sg,by have:=h.sl;omega,h.n0,by have:=h.n1;omega⟩
theorem Wst.up {q q':Nat}{w w':Wa}(h:Wst q w w') (E:q<=q'):Wst q' w w':=by
 obtain⟨m,B,h2,G⟩:=h.ns;exact⟨h.ps,⟨m,B,h2,by omega⟩,fun b hb=>h.b b (hb.up (by omega))⟩
theorem Wst.refl (w:Wa):Wst 0 w w:=⟨rfl,⟨[],by simp,Rw.nil,by simp⟩,fun b h=>h⟩
theorem Wst.trans {q q':Nat}{w w1 w2:Wa}(h:Wst q w w1) (B:Wst q' w1 w2):Wst (q+q') w w2:=by
 obtain⟨m,J,h2,O⟩:=h.ns;obtain⟨m',E,G,M⟩:=B.ns;refine⟨B.ps.trans h.ps,⟨m ++m',by rw[E,J,List.append_assoc],h2.app G,by rw[List.length_append];omega⟩,fun b hb=>B.b b (h.b (b+q') (hb.up (by omega)))⟩
theorem Wst.len {q:Nat}{w w':Wa}(h:Wst q w w'):w.ns.length<=w'.ns.length/\w'.ns.length<=w.ns.length+q:=by
 obtain⟨m,B,h2,E⟩:=h.ns;rw[B,List.length_append];omega
theorem Wst.tw {q:Nat}{w w':Wa}(h:Wst q w w') {n:Int}(hn:n<w.ns.length):tw w'.ns n=tw w.ns n:=by
 obtain⟨m,B,h2,E⟩:=h.ns;rw[B,jRw m hn]
theorem Wst.nsok {q:Nat}{w w':Wa}(h:Wst q w w') (hn:Ns w.ns) (hl:w.ns.length+q<=1000000):Ns w'.ns:=by
 obtain⟨m,B,h2,E⟩:=h.ns;rw[B];exact⟨hn.r.app h2,by rw[List.length_append];omega⟩
theorem LvR.st {w w':Wa}(h:LvR w w'):Wst 0 w w':=by
 obtain⟨k,rfl⟩:=h.e;refine⟨rfl,⟨[],by simp,Rw.nil,by simp⟩,fun b hb=>⟨fun e he=>hb.sg e (List.mem_of_mem_take he),?_,hb.n0,hb.n1⟩⟩;have:=hb.sl;show(w.sg.take k).length+b<=_;rw[List.length_take];omega
theorem BdR.st {w w':Wa}{k:Nat}{l:List (List C)}(h:BdR w k l w'):Wst k w w':=⟨h.e.1,⟨[],by rw[h.e.2];simp,Rw.nil,by simp⟩,h.r⟩
theorem jJ5.st {w w':Wa}{x:N}{i:Int}(h:jJ5 w x i w') (hx:jKd x):Wst 1 w w':=by
 obtain⟨f,rfl⟩:=h.e;refine⟨rfl,⟨_,rfl,Rw.one (S:=fN) (x:={x with f:=f}) ⟨hx.b,hx.s,hx.i⟩,by simp⟩,fun b hb=>⟨hb.sg,by have:=hb.sl;show w.sg.length+b<=_;omega,hb.n0,by have:=hb.n1;show w.nx+b<=_;omega⟩⟩
structure jMO (w:Wa) (n:Int):Prop where
 ps:Ps w.ps
 ns:Ns w.ns
 b:WaB w (pq' w.ps n)
 l:w.ns.length+pq' w.ps n<=1000000
structure WkM (m:Nat) (w:Wa) (n:Int):Prop where
 m:(n+1).toNat<m
 p:jMO w n
structure WkR (q:Nat) (w:Wa) (i:Int) (w':Wa):Prop where
 s:Wst q w w'
 e:i+1=w'.ns.length
 z:0<=i
 t:tw w'.ns i<=q
theorem jJ5.wk {B w w':Wa}{q q':Nat}{x:N}{i:Int}{g:Nat->Nat}(h:jJ5 w x i w') (h0:Wst q B w) (hx:jKd x) (hk:x.k≠12) (hs:Ks w.ns g x.s) (G:q+1<=q') (J:4+x.b.length+x.s.length+jJN g x.s.length<=q'):WkR q' B i w':=by
 refine⟨(h0.trans (h.st hx)).up G,?_,?_,?_⟩
 all_goals
  have E:=h.i;obtain⟨f,rfl⟩:=h.e
 .rw[E];show _=(((w.ns ++_).length:Nat):Int);rw[List.length_append];rfl
 .omega
 .rw[E];exact Nat.le_trans (jUQ (x:={x with f:=f}) hs hk) J
theorem jJ5.wf {B w w':Wa}{q q':Nat}{x:N}{i:Int}{g:Nat->Nat}(h:jJ5 w x i w') (h0:Wst q B w) (hx:jKd x) (hk:x.k=12) (hl:x.s.length=1) (hs:Ks w.ns g x.s) (G:q+1<=q') (J:6+2*x.b.length+g 0<=q'):WkR q' B i w':=by
 refine⟨(h0.trans (h.st hx)).up G,?_,?_,?_⟩
 all_goals
  have E:=h.i;obtain⟨f,rfl⟩:=h.e
 .rw[E];show _=(((w.ns ++_).length:Nat):Int);rw[List.length_append];rfl
 .omega
 .rw[E];exact Nat.le_trans (jUS (x:={x with f:=f}) hs hk hl) J
theorem Ks.nr {ns:List (List C)}{g:Nat->Nat}{s:List (List C)}(h:Ks ns g s) (hl:s.length<=1000000):Nr s:=⟨fun e he=>by
 obtain⟨j,E⟩:=List.mem_iff_getElem?.1 he;obtain⟨y,B,h2,_⟩:=h.k j (List.getElem?_eq_some_iff.1 E).1;rw[E]at B;injection B with B
 exact⟨y,B,h2⟩,hl⟩
theorem Ks.one {ns:List (List C)}{y:Int}{q:Nat}(B:y<ns.length) (h0:0<=y) (hn:ns.length<=1000000) (E:tw ns y<=q):Ks ns (fun _=>q) [[I y]]:=⟨fun j hj=>by
 have:j=0:=by simpa using hj
 subst this
 exact⟨y,rfl,⟨by omega,by omega⟩,B,E⟩⟩
theorem Ks.two {ns:List (List C)}{y z:Int}{q r:Nat}(B:y<ns.length) (h0:0<=y) (E:z<ns.length) (h2:0<=z) (hn:ns.length<=1000000) (J:tw ns y<=q) (G:tw ns z<=r):Ks ns (fun j=>if j=0 then q else r) [[I y],[I z]]:=⟨fun j hj=>by
 have:j=0\/j=1:=by simp at hj;omega
 rcases this with rfl|rfl
 .exact⟨y,rfl,⟨by omega,by omega⟩,B,J⟩
 .exact⟨z,rfl,⟨by omega,by omega⟩,E,G⟩⟩
structure NmR (l:List (List C)):Prop where
 r:Rw fSt Tt l
def fT6:Pz (List C):=⟨List (List C),fun l=>[.r false 6 l],fun l=>match l with
 |[.r false 6 l]=>some l
 |_=>none,fun b x e=>by split at e <;> cases e;rfl⟩
def cAd (w:Wa) (x:N) (p:Prop):Ct:=mkc rI bWa (fun i w'=>jJ5 w x i w') p
noncomputable def cWk (w:Wa) (n:Int) (p:Prop):Ct:=mkc rI bWa (fun i w'=>WkR (pq' w.ps n) w i w') p
noncomputable def ctK (m:Nat):Cts:=ctp 29 (kA (aC (aP fWa) <|aC aI aN) fun a=>cWk a.1 a.2.1 (WkM m a.1 a.2.1)) <|
 ctp 56 (kA (aC (aP fWa) <|aC (aG fN) aN) fun a=>cAd a.1 a.2.1 (Ns a.1.ns/\jKd a.2.1)) <|
 ctp 55 (kA (aC (aQ fWa) <|aC (aR 1) aN) fun a=>mkc (rR 1) b0 (fun l _=>N1 l) ((∃b,WaB a.1 b)/\NmR a.2.1)) <|
 ctp 104 (kA (aC (aR 1) aN) fun a=>mkc (rR 1) b0 (fun l _=>N1 l) (Nr a.1)) <|
 ctp 103 (kA (aC (aP fWa) <|aC aI aN) fun a=>mkc r0 bWa (fun _ w'=>LvR a.1 w') True) <|
 ctp 102 (kA (aC (aP fWa) <|aC (aR 1) aN) fun a=>mkc (rR 1) bWa (fun l w'=>BdR a.1 a.2.1.length l w') (WaB a.1 a.2.1.length/\NmR a.2.1)) <|
 ctp 54 (kA (aC (aG fT6) <|aC aI <|aC aI aN) fun a=>cPk a.1 a.2.1 a.2.2.1 (Ps a.1)) ctP
def slH:Hy:=⟨hW false,[52],[],[]⟩
theorem jVg {m:Nat}(ctK_ok:Good T (ctK m)) {w:Wa}{n:Int}(hn:0<=n) (hm:(n+1).toNat<=m) (hk:(jJI w.ps n).k=8\/(jJI w.ps n).k=10) (h:jMO w n):Tot T (cWk w n True) 51 [pWa w,pI n]:=vF slH (ctK_ok) Tryz.func51 (Ps w.ps/\∀(x:PtS × Unit),PtX w.ps n x.1->Ps w.ps/\∀(x_1:Int × Unit),PkX w.ps n 0 x_1.1->WkM m w x_1.1/\∀(x_2:Int × Wa),WkR (pq' w.ps x_1.1) w x_2.1 x_2.2->(WaB x_2.2 x.1.m.length/\NmR x.1.m)/\∀(x_3:List (List C) × Wa),BdR x_2.2 x.1.m.length x_3.1 x_3.2->Ps x_3.2.ps/\∀(x_4:Int × Unit),PkX x_3.2.ps n 1 x_4.1->WkM m x_3.2 x_4.1/\∀(x_5:Int × Wa),WkR (pq' x_3.2.ps x_4.1) x_3.2 x_5.1 x_5.2->True/\∀(x_6:Unit × Wa),LvR x_5.2 x_6.2->(Ns x_6.2.ns/\jKd {k:=x.1.k,w:=0,n:=0,b:=x_3.1,s:=[[I x_2.1],[I x_5.1]],f:={a:=0,b:=0,c:=0,d:=0,e:=0,f:=0,g:=0}})/\∀(x_7:Int × Wa),jJ5 x_6.2 {k:=x.1.k,w:=0,n:=0,b:=x_3.1,s:=[[I x_2.1],[I x_5.1]],f:={a:=0,b:=0,c:=0,d:=0,e:=0,f:=0,g:=0}} x_7.1 x_7.2->WkR (pq' w.ps n) w x_7.1 x_7.2) (by kernel_rfl) (by
 have e:=jKr (ps:=w.ps) hn;have M:=pq2 w.ps n;have ek:exk (jJI w.ps n).k=12:=by rcases hk with hk|hk <;> rw[hk] <;> rfl
 have V:=jLn (ps:=w.ps) hn 0;have Y:=jLn (ps:=w.ps) hn 1;have hl:=h.l;have nl:=h.ns.n;rw[ek]at e;refine⟨h.ps,fun⟨x,_⟩ ⟨ex,hx⟩=>?_⟩
 dsimp only at ex hx ⊢
 subst ex;refine⟨h.ps,fun⟨k0,_⟩ ⟨ek,_⟩=>?_⟩
 dsimp only at ek ⊢
 subst ek;refine⟨⟨by omega,h.ps,h.ns,h.b.up (by omega),by omega⟩,fun⟨i,w1⟩ r1=>?_⟩
 dsimp only at r1 ⊢
 refine⟨⟨r1.s.b _ (h.b.up (by omega)),⟨hx.m⟩⟩,fun⟨l,w2⟩ r2=>?_⟩
 dsimp only at r2 ⊢
 have s2:=r1.s.trans r2.st;rw[s2.ps];refine⟨h.ps,fun⟨k1,_⟩ ⟨ek,_⟩=>?_⟩
 dsimp only at ek ⊢
 subst ek;have n2:=s2.nsok h.ns (by omega);have m2:=s2.len;refine⟨⟨by omega,by rw[s2.ps];exact h.ps,n2,by rw[s2.ps];exact s2.b _ (h.b.up (by omega)),by rw[s2.ps];omega⟩,fun⟨j,w3⟩ r3=>⟨trivial,fun⟨_,w4⟩ r4=>?_⟩⟩
 dsimp only at r3 r4 ⊢
 have B:=r3.s.trans r4.st;have s:=s2.trans B;have n4:=s.nsok h.ns (by omega);have m4:=B.len;have J:=r4.st.len;have ml:=s.len;have O:=r1.e;have E:=r1.z;have Z:=r1.s.len;have G:=r2.st.len;have P:=r3.e;have z3:=r3.z;have ks:=Ks.two (ns:=w4.ns) (y:=i) (z:=j) (q:=pq' w.ps (jJO w.ps n 0)) (r:=pq' w.ps (jJO w.ps n 1)) (by omega) E (by omega) z3 n4.n (by rw[B.tw (by omega),r2.st.tw (by omega)];exact r1.t) (by rw[r4.st.tw (by omega)];exact r3.t)
 have nd:jKd {k:=(jJI w.ps n).k,w:=0,n:=0,b:=l,s:=[[I i],[I j]],f:={a:=0,b:=0,c:=0,d:=0,e:=0,f:=0,g:=0}}:=⟨r2.nr,ks.nr (by simp),by constructor <;> dsimp only <;> omega⟩
 refine⟨⟨n4,nd⟩,fun⟨t,w5⟩ r5=>?_⟩;have bl:=r2.n;refine jJ5.wk r5 s nd ?_ ks (by dsimp only at *;omega) ?_
 .dsimp only;omega
 .dsimp only[jJN,List.length_cons,List.length_nil]
  rw[if_pos rfl,if_neg (by omega)]
  omega)
def slH2:Hy:=⟨hW false,[39,64],[],[]⟩
theorem jVh {m:Nat}(ctK_ok:Good T (ctK m)) {w:Wa}{n:Int}(hn:0<=n) (hm:(n+1).toNat<=m) (hk:(jJI w.ps n).k=9) (h:jMO w n):Tot T (cWk w n True) 52 [pWa w,pI n]:=vF slH2 (ctK_ok) Tryz.func52 (Ps w.ps/\∀(x:PtS × Unit),PtX w.ps n x.1->(WaB w x.1.m.length/\NmR x.1.m)/\∀(x_1:List (List C) × Wa),BdR w x.1.m.length x_1.1 x_1.2->Ps x_1.2.ps/\∀(x:Int × Unit),PkX x_1.2.ps n 0 x.1->WkM m x_1.2 x.1/\∀(x_2:Int × Wa),WkR (pq' x_1.2.ps x.1) x_1.2 x_2.1 x_2.2->(Ns x_2.2.ns/\jKd {k:=12,w:=0,n:=0,b:=x_1.1,s:=[[I x_2.1]],f:={a:=0,b:=0,c:=0,d:=0,e:=0,f:=0,g:=0}})/\∀(x:Int × Wa),jJ5 x_2.2 {k:=12,w:=0,n:=0,b:=x_1.1,s:=[[I x_2.1]],f:={a:=0,b:=0,c:=0,d:=0,e:=0,f:=0,g:=0}} x.1 x.2->True/\∀(x_3:Unit × Wa),LvR x.2 x_3.2->Ps x_3.2.ps/\∀(x_4:Int × Unit),PkX x_3.2.ps n 1 x_4.1->WkM m x_3.2 x_4.1/\∀(x_5:Int × Wa),WkR (pq' x_3.2.ps x_4.1) x_3.2 x_5.1 x_5.2->True/\∀(x_6:Unit × Wa),LvR x_5.2 x_6.2->Nr x_1.1/\∀(x_7:List (List C) × Unit),N1 x_7.1->(Ns x_6.2.ns/\jKd {k:=8,w:=0,n:=0,b:=x_7.1,s:=[[I x.1],[I x_5.1]],f:={a:=0,b:=0,c:=0,d:=0,e:=0,f:=0,g:=0}})/\∀(x_8:Int × Wa),jJ5 x_6.2 {k:=8,w:=0,n:=0,b:=x_7.1,s:=[[I x.1],[I x_5.1]],f:={a:=0,b:=0,c:=0,d:=0,e:=0,f:=0,g:=0}} x_8.1 x_8.2->WkR (pq' w.ps n) w x_8.1 x_8.2) (by kernel_rfl) (by
 have e:=jKr (ps:=w.ps) hn;have V:=pq2 w.ps n;have ek:exk (jJI w.ps n).k=24:=by rw[hk];rfl
 have Z:=jLn (ps:=w.ps) hn 0;have l1:=jLn (ps:=w.ps) hn 1;have hl:=h.l;have nl:=h.ns.n;rw[ek]at e;refine⟨h.ps,fun⟨x,_⟩ ⟨ex,hx⟩=>?_⟩
 dsimp only at ex hx ⊢
 subst ex;refine⟨⟨h.b.up (by omega),⟨hx.m⟩⟩,fun⟨l,w1⟩ r1=>?_⟩
 dsimp only at r1 ⊢
 have B:=r1.st;have bl:=r1.n;rw[B.ps];refine⟨h.ps,fun⟨k0,_⟩ ⟨ek,_⟩=>?_⟩
 dsimp only at ek ⊢
 subst ek;have n1:=B.nsok h.ns (by omega);have m1:=B.len;refine⟨⟨by omega,by rw[B.ps];exact h.ps,n1,by rw[B.ps];exact B.b _ (h.b.up (by omega)),by rw[B.ps];omega⟩,fun⟨i,w2⟩ r2=>?_⟩
 dsimp only at r2 ⊢
 have s2:=B.trans r2.s;have n2:=s2.nsok h.ns (by omega);have m2:=s2.len;have i2:=r2.e;have z2:=r2.z;have ks:=Ks.one (ns:=w2.ns) (y:=i) (q:=pq' w.ps (jJO w.ps n 0)) (by omega) z2 n2.n r2.t
 have nd:jKd {k:=12,w:=0,n:=0,b:=l,s:=[[I i]],f:={a:=0,b:=0,c:=0,d:=0,e:=0,f:=0,g:=0}}:=⟨r1.nr,ks.nr (by simp),by constructor <;> dsimp only <;> omega⟩
 refine⟨⟨n2,nd⟩,fun⟨a,w3⟩ r3=>⟨trivial,fun⟨_,w4⟩ r4=>?_⟩⟩
 dsimp only at r3 r4 ⊢
 have G:=jJ5.wf (q':=(jJI w.ps n).m.length+pq' w.ps (jJO w.ps n 0)+6+(jJI w.ps n).m.length) r3 s2 nd rfl rfl ks (by omega) (by dsimp only;omega);have E:=G.s.trans r4.st;have n4:=E.nsok h.ns (by omega);have m4:=E.len;rw[E.ps];refine⟨h.ps,fun⟨k1,_⟩ ⟨ek,_⟩=>?_⟩
 dsimp only at ek ⊢
 subst ek;refine⟨⟨by omega,by rw[E.ps];exact h.ps,n4,by rw[E.ps];exact E.b _ (h.b.up (by omega)),by rw[E.ps];omega⟩,fun⟨j,w5⟩ r5=>⟨trivial,fun⟨_,w6⟩ r6=>⟨r1.nr,fun⟨fl,_⟩ hf=>?_⟩⟩⟩
 dsimp only at r5 r6 hf ⊢
 have J:=r5.s.trans r6.st;have s:=E.trans J;have n6:=s.nsok h.ns (by omega);have m6:=J.len;have O:=r5.s.len;have P:=r6.st.len;have M:=r4.st.len;have a3:=G.e;have z3:=G.z;have Y:=r5.e;have z5:=r5.z;have ks:=Ks.two (ns:=w6.ns) (y:=a) (z:=j) (q:=(jJI w.ps n).m.length+pq' w.ps (jJO w.ps n 0)+6+(jJI w.ps n).m.length) (r:=pq' w.ps (jJO w.ps n 1)) (by omega) z3 (by omega) z5 n6.n (by rw[J.tw (by omega),r4.st.tw (by omega)];exact G.t) (by rw[r6.st.tw (by omega)];exact r5.t)
 have nd:jKd {k:=8,w:=0,n:=0,b:=fl,s:=[[I a],[I j]],f:={a:=0,b:=0,c:=0,d:=0,e:=0,f:=0,g:=0}}:=⟨hf.r,ks.nr (by simp),by constructor <;> dsimp only <;> omega⟩
 refine⟨⟨n6,nd⟩,fun⟨t,w7⟩ r7=>?_⟩;have fn:=hf.n;refine jJ5.wk r7 s nd (by dsimp only;omega) ks (by dsimp only at *;omega) ?_
 dsimp only[jJN,List.length_cons,List.length_nil]
 rw[if_pos rfl,if_neg (by omega)]
 omega)
def slH3:Hy:=⟨hW false,[44],[(5,[(8,0)])],[]⟩
theorem jVt {m:Nat}(ctK_ok:Good T (ctK m)) {w:Wa}{n:Int}(hn:0<=n) (hm:(n+1).toNat<=m) (hk:(jJI w.ps n).k=12) (h:jMO w n):Tot T (cWk w n True) 53 [pWa w,pI n]:=vF slH3 (ctK_ok) Tryz.func53 (Ps w.ps/\∀(x:PtS × Unit),PtX w.ps n x.1->(WaB w x.1.m.length/\NmR x.1.m)/\∀(x_1:List (List C) × Wa),BdR w x.1.m.length x_1.1 x_1.2->pln x_1.1/\1+List.length x_1.1<=4000000000/\pln ([I ((-1))] ::x_1.1)/\Ps x_1.2.ps/\∀(x:Int × Unit),PkX x_1.2.ps n 0 x.1->WkM m x_1.2 x.1/\∀(x_2:Int × Wa),WkR (pq' x_1.2.ps x.1) x_1.2 x_2.1 x_2.2->True/\∀(x:Unit × Wa),LvR x_2.2 x.2->(Ns x.2.ns/\jKd {k:=12,w:=0,n:=0,b:=[I ((-1))] ::x_1.1,s:=[[I x_2.1]],f:={a:=0,b:=0,c:=0,d:=0,e:=0,f:=0,g:=0}})/\∀(x_3:Int × Wa),jJ5 x.2 {k:=12,w:=0,n:=0,b:=[I ((-1))] ::x_1.1,s:=[[I x_2.1]],f:={a:=0,b:=0,c:=0,d:=0,e:=0,f:=0,g:=0}} x_3.1 x_3.2->WkR (pq' w.ps n) w x_3.1 x_3.2) (by kernel_rfl) (by
 have e:=jKr (ps:=w.ps) hn;have M:=pq2 w.ps n;have Z:=jWs w.ps (jJO w.ps n 1);have ek:exk (jJI w.ps n).k=12:=by rw[hk];rfl
 have O:=jLn (ps:=w.ps) hn 0;have hl:=h.l;have nl:=h.ns.n;rw[ek]at e;refine⟨h.ps,fun⟨x,_⟩ ⟨ex,hx⟩=>?_⟩
 dsimp only at ex hx ⊢
 subst ex;refine⟨⟨h.b.up (by omega),⟨hx.m⟩⟩,fun⟨l,w1⟩ r1=>?_⟩
 dsimp only at r1 ⊢
 have B:=r1.st;have bl:=r1.n;have E:Rw fI inI ([I (-1)] ::l):=Rw.app (Rw.one (S:=fI) (x:=(-1:Int)) ⟨by omega,by omega⟩) r1.nr.r;have G:=h.b.n1;have J:=h.b.n0;refine⟨Rw.pln r1.nr.r,by omega,Rw.pln E,?_⟩;rw[B.ps];refine⟨h.ps,fun⟨k0,_⟩ ⟨ek,_⟩=>?_⟩
 dsimp only at ek ⊢
 subst ek;have n1:=B.nsok h.ns (by omega);have P:=B.len;refine⟨⟨by omega,by rw[B.ps];exact h.ps,n1,by rw[B.ps];exact B.b _ (h.b.up (by omega)),by rw[B.ps];omega⟩,fun⟨i,w2⟩ r2=>⟨trivial,fun⟨_,w3⟩ r3=>?_⟩⟩
 dsimp only at r2 r3 ⊢
 have s2:=B.trans (r2.s.trans r3.st);have n2:=s2.nsok h.ns (by omega);have V:=s2.len;have Y:=r3.st.len;have i2:=r2.e;have z2:=r2.z;have ks:=Ks.one (ns:=w3.ns) (y:=i) (q:=pq' w.ps (jJO w.ps n 0)) (by omega) z2 n2.n (by rw[r3.st.tw (by omega)];exact r2.t)
 have nd:jKd {k:=12,w:=0,n:=0,b:=[I (-1)] ::l,s:=[[I i]],f:={a:=0,b:=0,c:=0,d:=0,e:=0,f:=0,g:=0}}:=⟨⟨E,by rw[List.length_cons];omega⟩,ks.nr (by simp),by constructor <;> dsimp only <;> omega⟩
 refine⟨⟨n2,nd⟩,fun⟨a,w4⟩ r4=>?_⟩
 exact jJ5.wf r4 s2 nd rfl rfl ks (by omega) (by dsimp only[List.length_cons];omega))
end V
end Go.Proofs.YtnhbcdnmfafbiaaGreatDoor
set_option maxRecDepth 100000
namespace Go.Proofs.YtnhbcdnmfafbiaaGreatDoor
namespace V
open Go.Proofs
structure WlI (w:Wa) (n:Int) (w':Wa) (n':Int) (x:PtS) (y:N) (i:Int):Prop where
 q1:n'=n
 q2:x=jJI w.ps n
 q3:Ix (jJI w.ps n).s.length i
 q4:Wst (jJ3 w.ps n i.toNat) w w'
 q5:y.k=x.k/\y.b=[]/\inI y.n
 q6:y.s.length=i.toNat
 q7:Ks w'.ns (fun j=>pq' w.ps (jJO w.ps n j)) y.s
structure WlP (m:Nat) (k:Int) (w:Wa) (n:Int):Prop where
 q1:0<=n
 q2:(n+1).toNat<=m
 q3:(jJI w.ps n).k=k
 q4:jMO w n
def fNo:Pz (List C):=⟨N,fun x=>I x.k :: .ui ::I x.w ::I x.n :: .r false 1 x.b :: .r true 1 x.s ::fS.f x.f,fun l=>match l with
 | .i .i64 k :: .ui :: .i .i64 w :: .i .i64 n :: .r false 1 b :: .r true 1 s ::f=>match fS.un f with
   |some f=>some ⟨k,w,n,b,s,f⟩
   |none=>none
 |_=>none,fun b x e=>by
  split at e
  .split at e
   .rename_i h;cases e;rw[fS.ok _ _ h];rfl
   .cases e
  .cases e⟩
def wlT:Rl Av:=.cons 0 (tA 0) <| .cons 1 tI <| .cons 5 (tA 5) <| .cons 6 (tA 6) <| .cons 7 tI .nil
def wlRt:Rl Rt:=.cons 0 (rX 0 fWa) <| .cons 5 (rX 1 fPt) <| .cons 6 (rX 1 fNo) .nil
noncomputable def wlH (w:Wa) (n:Int):Hy:=⟨hW false,[],[(16,[(6,5)])],[(12,.iv wlT wlRt (fun a=>WlI w n a.2.1 a.1.2.1 a.2.2.1 a.2.2.2.1 a.1.2.2.2.2.1) fun a=>ixM (jJI w.ps n).s.length a.1.2.2.2.2.1)]⟩
noncomputable def jQG (m:Nat):Cts:=ctp 51 (kA (aC (aP fWa) <|aC aI aN) fun a=>cWk a.1 a.2.1 (∃k,(k=8\/k=10)/\WlP m k a.1 a.2.1)) <|ctp 52 (kA (aC (aP fWa) <|aC aI aN) fun a=>cWk a.1 a.2.1 (WlP m 9 a.1 a.2.1)) <|ctp 53 (kA (aC (aP fWa) <|aC aI aN) fun a=>cWk a.1 a.2.1 (WlP m 12 a.1 a.2.1)) (ctK m)
theorem Ks.snoc {ns B:List (List C)}{g:Nat->Nat}{s:List (List C)}(h:Ks ns g s) (hl:ns.length<=B.length) (G:∀y:Int,y<ns.length->tw B y=tw ns y) {y:Int}(h0:0<=y) (E:y<B.length) (hn:B.length<=1000000) (hy:tw B y<=g s.length):Ks B g (s ++[[I y]]):=⟨fun j hj=>by
 rw[List.length_append,List.length_singleton]at hj
 by_cases hs:j<s.length
 .obtain⟨z,a1,a2,a3,a4⟩:=h.k j hs
  exact⟨z,by rw[List.getElem?_append_left hs];exact a1,a2,by omega,by rw[G z a3];exact a4⟩
 .have:j=s.length:=by omega
  subst this
  exact⟨y,by rw[List.getElem?_append_right (Nat.le_refl _),Nat.sub_self];rfl,⟨by omega,by omega⟩,E,hy⟩⟩
theorem Ks.nil (ns:List (List C)) (g:Nat->Nat):Ks ns g []:=⟨fun j hj=>absurd hj (Nat.not_lt_zero _)⟩
theorem jWt (ps:List (List C)) (n:Int):5+(jJI ps n).s.length+jJ3 ps n (jJI ps n).s.length<=pq' ps n:=by
 by_cases hn:0<=n
 .rw[jKr hn];omega
 .rw[jPj ps (by omega),jM0 (.inl (by omega))];exact Nat.le_refl _
theorem jU6 {m:Nat}(ctKl_ok:Good T (jQG m)) {w:Wa}{n:Int}(hm:(n+1).toNat<=m) (h:jMO w n):Tot T (cWk w n True) 29 [pWa w,pI n]:=vF (wlH w n) (ctKl_ok) Tryz.func29 (Ps w.ps/\∀(x:PtS × Unit),PtX w.ps n x.1->br (decide (x.1.k=8)) (true=true/\(∃(y:Int),(y=8\/y=10)/\WlP m y w n)/\∀(x:Int × Wa),WkR (pq' w.ps n) w x.1 x.2->WkR (pq' w.ps n) w x.1 x.2) (br (decide (x.1.k=10)) ((∃(y:Int),(y=8\/y=10)/\WlP m y w n)/\∀(x:Int × Wa),WkR (pq' w.ps n) w x.1 x.2->WkR (pq' w.ps n) w x.1 x.2) (br (decide (x.1.k=9)) (WlP m 9 w n/\∀(x:Int × Wa),WkR (pq' w.ps n) w x.1 x.2->WkR (pq' w.ps n) w x.1 x.2) (br (decide (x.1.k=12)) (WlP m 12 w n/\∀(x:Int × Wa),WkR (pq' w.ps n) w x.1 x.2->WkR (pq' w.ps n) w x.1 x.2) (WlI w n w n x.1 {k:=x.1.k,w:=x.1.w,n:=x.1.n,b:=[],s:=[],f:={a:=0,b:=0,c:=0,d:=0,e:=0,f:=0,g:=0}} 0/\∀(a:(Unit × Int × Unit × Unit × Int × Unit) × Wa × PtS × N × Unit),WlI w n a.2.1 a.1.2.1 a.2.2.1 a.2.2.2.1 a.1.2.2.2.2.1->br (decide (a.1.2.2.2.2.1<↑a.2.2.1.s.length)) (Ps a.2.1.ps/\∀(x:Int × Unit),PkX a.2.1.ps a.1.2.1 a.1.2.2.2.2.1 x.1->WkM m a.2.1 x.1/\∀(x_1:Int × Wa),WkR (pq' a.2.1.ps x.1) a.2.1 x_1.1 x_1.2->a.2.2.2.1.s.length+1<=4000000000/\WlI w n x_1.2 a.1.2.1 a.2.2.1 {k:=a.2.2.2.1.k,w:=a.2.2.2.1.w,n:=a.2.2.2.1.n,b:=a.2.2.2.1.b,s:=a.2.2.2.1.s ++(List.replicate 1 [iz IntKind.i64]).set 0 [I x_1.1],f:=a.2.2.2.1.f} (wr (a.1.2.2.2.2.1+1))/\ixM (jJI w.ps n).s.length (wr (a.1.2.2.2.2.1+1))<ixM (jJI w.ps n).s.length a.1.2.2.2.2.1) (pln a.2.2.2.1.s/\br (decide (a.2.2.1.k=5)) (((∃(y:Nat),WaB a.2.1 y)/\NmR a.2.2.1.m)/\∀(x:List (List C) × Unit),N1 x.1->(Ns a.2.1.ns/\jKd {k:=a.2.2.2.1.k,w:=a.2.2.2.1.w,n:=a.2.2.2.1.n,b:=x.1,s:=a.2.2.2.1.s,f:=a.2.2.2.1.f})/\∀(x_1:Int × Wa),jJ5 a.2.1 {k:=a.2.2.2.1.k,w:=a.2.2.2.1.w,n:=a.2.2.2.1.n,b:=x.1,s:=a.2.2.2.1.s,f:=a.2.2.2.1.f} x_1.1 x_1.2->WkR (pq' w.ps n) w x_1.1 x_1.2) ((Ns a.2.1.ns/\jKd a.2.2.2.1)/\∀(x:Int × Wa),jJ5 a.2.1 a.2.2.2.1 x.1 x.2->WkR (pq' w.ps n) w x.1 x.2))))))) (by kernel_rfl) (by
 have hl:=h.l;have pg:=jWt w.ps n;have nl:=h.ns.n;refine⟨h.ps,fun⟨x,_⟩ ⟨ex,hx⟩=>?_⟩
 dsimp only at ex hx ⊢
 subst ex
 have po:∀{k:Int},decide ((jJI w.ps n).k=k)=true->k≠0->WlP m k w n:=fun {k} B h2=>⟨by
  have B:=dt B
  by_cases hn:0<=n
  .exact hn
  .rw[jM0 (.inl (by omega))]at B
   exact absurd B.symm h2,hm,dt B,h⟩
 refine⟨fun hk=>⟨rfl,⟨8,.inl rfl,po hk (by omega)⟩,fun _ h=>h⟩,fun _=>⟨fun hk=>⟨⟨10,.inr rfl,po hk (by omega)⟩,fun _ h=>h⟩,fun _=>⟨fun hk=>⟨po hk (by omega),fun _ h=>h⟩,fun _=>⟨fun hk=>⟨po hk (by omega),fun _ h=>h⟩,fun E=>?_⟩⟩⟩⟩;have E:=df E;refine⟨⟨rfl,rfl,⟨by omega,by omega⟩,Wst.refl w,⟨rfl,rfl,hx.i⟩,rfl,Ks.nil _ _⟩,fun⟨⟨_,n',_,_,i,_⟩,w1,x,y,_⟩ ⟨q1,q2,q3,q4,q5,q6,q7⟩=>?_⟩
 dsimp only at q1 q2 q3 q4 q5 q6 q7 ⊢
 subst q1 q2;obtain⟨y1,M,O⟩:=q5;have sn:=hx.s.n;have lo:=q3.lo;have hi:=q3.hi;have pl:=jK6 w.ps n' (j:=i.toNat) (m:=(jJI w.ps n').s.length) (by omega);have n1:=q4.nsok h.ns (by omega);have m1:=q4.len;refine⟨fun hb=>?_,fun hb=>?_⟩
 .have hb':=dt hb
  have n0:0<=n':=by
   by_cases hn:0<=n'
   .exact hn
   .rw[jM0 (.inl (by omega))]at hb'
    exact absurd hb' (by simp[pt0];omega)
  have nx:=q3.nx (by omega) hb;have J:(wr (i+1)).toNat=i.toNat+1:=by unfold wr;rw[IntKind.wrap_i64];omega
  have V:((i.toNat:Nat):Int)=i:=by omega
  have G:=jPg w.ps n' i.toNat;have h3:=jK6 w.ps n' (j:=i.toNat+1) (m:=(jJI w.ps n').s.length) (by omega);rw[V]at G;rw[q4.ps];refine⟨h.ps,fun⟨k,_⟩ ⟨ek,_⟩=>?_⟩
  dsimp only at ek ⊢
  subst ek;have l0:=jLn (ps:=w.ps) n0 i;refine⟨⟨by omega,by rw[q4.ps];exact h.ps,n1,by rw[q4.ps];exact q4.b _ (h.b.up (by omega)),by rw[q4.ps];omega⟩,fun⟨j,w2⟩ r=>?_⟩
  dsimp only at r ⊢
  have s2:=q4.trans r.s;have n2:=s2.nsok h.ns (by omega);have m2:=s2.len;have Y:=r.s.len;have rj:=r.e;have rz:=r.z;refine⟨by omega,⟨rfl,rfl,nx.1,by rw[J,G];exact s2,⟨y1,M,O⟩,?_,?_⟩,nx.2⟩
  .show(y.s ++[[I j]]).length=_
   rw[List.length_append,List.length_singleton,J,q6]
  .exact q7.snoc Y.1 (fun z hz=>r.s.tw hz) rz (by omega) n2.n (by rw[q6];show _<=pq' w.ps (jJO w.ps n' (i.toNat:Nat));rw[V];exact r.t)
 .have hb:=df hb
  have P:i.toNat=(jJI w.ps n').s.length:=by omega
  have sr:=q7.nr (by omega);have Z:jJN (fun j=>pq' w.ps (jJO w.ps n' j)) y.s.length=jJ3 w.ps n' (jJI w.ps n').s.length:=by rw[q6,P];rfl
  have yk:y.k≠12:=by rw[y1];exact E
  rw[P]at q4;refine⟨Rw.pln sr.r,fun _=>⟨⟨⟨0,q4.b 0 (h.b.up (by omega))⟩,⟨hx.m⟩⟩,fun⟨l,_⟩ hf=>?_⟩,fun _=>?_⟩
  .dsimp only at hf ⊢
   have nd:jKd {k:=y.k,w:=y.w,n:=y.n,b:=l,s:=y.s,f:=y.f}:=⟨hf.r,sr,O⟩
   have fn:=hf.n;refine⟨⟨n1,nd⟩,fun⟨t,w2⟩ r=>jJ5.wk r q4 nd yk q7 (by omega) ?_⟩
   dsimp only
   rw[Z];omega
  .have nd:jKd y:=⟨by rw[M];exact Nr.nil,sr,O⟩
   refine⟨⟨n1,nd⟩,fun⟨t,w2⟩ r=>jJ5.wk r q4 nd yk q7 (by omega) ?_⟩;rw[Z,M,List.length_nil]
   omega)
end V
end Go.Proofs.YtnhbcdnmfafbiaaGreatDoor
set_option maxRecDepth 100000
namespace Go.Proofs.YtnhbcdnmfafbiaaGreatDoor
namespace V
open Go.Proofs
theorem ctKl_ok {m:Nat}(h:Good T (ctK m)):Good T (jQG m):=by
 unfold jQG;refine Good.add (Good.add (Good.add h ?_) ?_) ?_
 .rintro a ⟨h1,h2,h3,h4⟩;exact jVt h h1 h2 h3 h4
 .rintro a ⟨h1,h2,h3,h4⟩;exact jVh h h1 h2 h3 h4
 .rintro a ⟨k,hk,h1,h2,h3,h4⟩;exact jVg h h1 h2 (by rw[h3];exact hk) h4
theorem ctK_ok:∀m,Good T (ctK m)
 |0=>by
  unfold ctK;refine Good.add (Good.add (Good.add (Good.add (Good.add (Good.add (Good.add jOs ?_) ?_) ?_) ?_) ?_) ?_) ?_
  .rintro a h;exact jPl h _ _
  .rintro a ⟨h1,⟨h2⟩⟩;exact bind_ok h1 h2
  .rintro a -;exact jRK _ _
  .rintro a h;exact jTA h
  .rintro a ⟨⟨b,h1⟩,⟨h2⟩⟩;exact jSI h1 h2
  .rintro a ⟨h1,h2⟩;exact jUl h1 h2
  .rintro a ⟨h1,h2⟩;exact absurd h1 (Nat.not_lt_zero _)
 |m+1=>by
  have ih:=ctKl_ok (ctK_ok m);unfold ctK;refine Good.add (Good.add (Good.add (Good.add (Good.add (Good.add (Good.add jOs ?_) ?_) ?_) ?_) ?_) ?_) ?_
  .rintro a h;exact jPl h _ _
  .rintro a ⟨h1,⟨h2⟩⟩;exact bind_ok h1 h2
  .rintro a -;exact jRK _ _
  .rintro a h;exact jTA h
  .rintro a ⟨⟨b,h1⟩,⟨h2⟩⟩;exact jSI h1 h2
  .rintro a ⟨h1,h2⟩;exact jUl h1 h2
  .rintro a ⟨h1,h2⟩;exact jU6 ih (by omega) h2
noncomputable def jQw (m:Nat):Cts:=ctp 25 (kA (aC (aG fT6) aN) fun a=>mkc rI b0 (fun k _=>k=wr (a.1.length-1)) True) (ctK m)
theorem jTT (m:Nat):Good T (jQw m):=by
 unfold jQw;refine Good.add (ctK_ok m) ?_;rintro a -;exact jSc _
def JbN:Pz (List C):=⟨List (List C),fun l=>[.r false 13 l],fun l=>match l with
 |[.r false 13 l]=>some l
 |_=>none,fun b x e=>by split at e <;> cases e;rfl⟩
def slH0:Hy:=⟨hW false,[],[],[]⟩
structure OfR (q:Nat) (ns:List (List C)):Prop where
 o:Ns ns
 e:1+wt ns (wr (ns.length-1))+fwt ns (wr (ns.length-1))<=q+1
theorem Jf9 {m:Nat}(jTT:Good T (jQw m)) {ps:List (List C)}(h:Ps ps) (hm:ps.length<m) (E:pq' ps (ps.length-1)<=1000000):Tot T (mkc (rS JbN) b0 (fun ns _=>OfR (pq' ps (ps.length-1)) ns) True) 15 [aPs ps]:=vR slH0 (jTT) [(2,0)] [false] Tryz.func15 (True/\∀(x:Int × Unit),x.1=wr (↑ps.length-1)->WkM m {ps:=ps,ns:=[],sg:=[],nx:=0} x.1/\∀(x_1:Int × Wa),WkR (pq' ps x.1) {ps:=ps,ns:=[],sg:=[],nx:=0} x_1.1 x_1.2->pln x_1.2.ns/\OfR (pq' ps (↑ps.length-1)) x_1.2.ns) (by kernel_rfl) (by
 have pl:=h.n;have e:wr ((ps.length:Int)-1)=ps.length-1:=by unfold wr;rw[IntKind.wrap_i64];omega
 refine⟨trivial,fun⟨k,_⟩ ek=>?_⟩
 dsimp only at ek ⊢
 rw[e]at ek;subst ek;refine⟨⟨by omega,h,⟨Rw.nil,by simp⟩,⟨Rw.nil,by simp only[List.length_nil];omega,by dsimp only;omega,by dsimp only;omega⟩,by simp only[List.length_nil];omega⟩,fun⟨i,w⟩ r=>?_⟩
 dsimp only at r ⊢
 have n1:=r.s.nsok (w:={ps:=ps,ns:=[],sg:=[],nx:=0}) ⟨Rw.nil,by simp⟩ (by simp only[List.length_nil];omega);refine⟨n1.r.plx fun _=>rfl,n1,?_⟩;have re:=r.e;have J:=r.z;have rt:=r.t;have G:=n1.n;have B:wr ((w.ns.length:Int)-1)=i:=by unfold wr;rw[IntKind.wrap_i64];omega
 rw[B];unfold tw at rt
 omega)
end V
end Go.Proofs.YtnhbcdnmfafbiaaGreatDoor
set_option maxRecDepth 100000
namespace Go.Proofs.YtnhbcdnmfafbiaaGreatDoor
namespace V
open Go.Proofs
structure Tn where
 (k:Int)
 (s:List (List C))
 (f:Int)
def fTn:Pz (List C):=⟨Tn,fun x=>[I x.k,.r false 1 x.s,I x.f],fun l=>match l with
 |[.i .i64 k,.r false 1 s,.i .i64 f]=>some ⟨k,s,f⟩
 |_=>none,fun b x e=>by split at e <;> cases e;rfl⟩
theorem jQi {x y:Tn}(e:fTn.f x=fTn.f y):x=y:=by
 obtain⟨k,s,f⟩:=x;obtain⟨k',E,B⟩:=y;simp only[fTn,I,List.cons.injEq,C.i.injEq,C.r.injEq,true_and,and_true]at e;obtain⟨rfl,rfl,rfl⟩:=e;rfl
def pGr (ns:List (List C)):Arg:=.bp [.r true 3 ns]
def qGr (ns:List (List C)):Arg:=.br [.r true 3 ns]
def bGr:Pz (List (List C)):=bS (fO 3)
structure Nk (l:List (List C)):Prop where
 r:Rw fI Tt l
 n:l.length<=1000000
theorem Nk.nil:Nk []:=⟨Rw.nil,by simp⟩
theorem Nk.ati {l:List (List C)}(h:Nk l) (n:Int):0<=n->n<l.length->∃x,l[n.toNat]? =some [I x]:=h.r.ati n
structure Gn (l:List (List C)):Prop where
 r:Rw fTn (fun x=>Nk x.s) l
 n:l.length<=1000000
theorem Gn.at {l:List (List C)}(h:Gn l) {j:Nat}{x:Tn}(B:l[j]? =some (fTn.f x)):Nk x.s:=by
 obtain⟨y,e,hy⟩:=h.r.of B;rw[jQi e];exact hy
def tn0:Tn:=⟨0,[],0⟩
noncomputable def tnv (ns:List (List C)) (n:Int):Tn:=open Classical in if h:0<=n/\∃x:Tn,ns[n.toNat]? =some (fTn.f x) then h.2.choose else tn0
theorem jOP {ns:List (List C)}{n:Int}{x:Tn}(h0:0<=n) (h:ns[n.toNat]? =some (fTn.f x)):tnv ns n=x:=by
 have B:0<=n/\∃x:Tn,ns[n.toNat]? =some (fTn.f x):=⟨h0,x,h⟩
 unfold tnv;rw[dif_pos B];exact jQi (Option.some.inj (B.2.choose_spec.symm.trans h))
theorem jRC {ns:List (List C)}{n:Int}(h:n<0\/n>=ns.length):tnv ns n=tn0:=by
 unfold tnv;rw[dif_neg];rintro ⟨h0,x,hx⟩;have:=(List.getElem?_eq_some_iff.1 hx).1;omega
noncomputable def fov (ns:List (List C)) (n:Int):Int:=if 0<=n/\n<ns.length then(tnv ns n).f else n
def hG:Hx:=⟨fun z=>cond (Nat.beq z 3) (eS fTn) eI,false,fun _=>none,false,false⟩
def hGy:Hy:=⟨hG,[],[],[]⟩
theorem jYt (ns:List (List C)) (n:Int):Tot T (mkc rB b0 (fun b _=>b=(decide (0<=n) && decide (n<ns.length))) True) 240 [qGr ns,pI n]:=vF hGy jJV Tryz.func240 (br (decide (n>=0)) (decide (n<↑ns.length)=(decide (0<=n) && decide (n<↑ns.length))) (false=(decide (0<=n) && decide (n<↑ns.length)))) (by kernel_rfl) (by
 refine⟨fun h=>?_,fun h=>?_⟩
 .have h:=dt h
  rw[decide_eq_true (show 0<=n by omega)];rfl
 .have h:=df h
  rw[decide_eq_false (show ¬0<=n by omega)];rfl)
def cGh (ns:List (List C)) (n:Int):Ct:=mkc rB b0 (fun b _=>b=(decide (0<=n) && decide (n<ns.length))) True
def jQN:Cts:=ctp 240 (kA (aC (aQ (fO 3)) <|aC aI aN) fun a=>cGh a.1 a.2.1) ct0
theorem jTZ:Good T jQN:=by
 unfold jQN;refine Good.add jJV ?_;rintro a -;exact jYt _ _
def cGf (ns:List (List C)) (n:Int) (p:Prop):Ct:=mkc rI b0 (fun i _=>i=fov ns n) p
theorem jTq {ns:List (List C)}(h:Gn ns) (n:Int):Tot T (cGf ns n True) 230 [qGr ns,pI n]:=vF hGy jTZ Tryz.func230 (True/\∀(x:Bool × Unit),x.1=(decide (0<=(ns,n,()).2.1) && decide ((ns,n,()).2.1<↑(List.length (ns,n,()).1)))->br (!x.1) (n=fov ns n) (0<=n/\n.toNat<ns.length/\(∃(y:Tn),ns[n.toNat]? =some (fTn.f y))/\∀(x:Tn),ns[n.toNat]? =some (fTn.f x)->x.f=fov ns n)) (by kernel_rfl) (by
 refine⟨trivial,fun⟨b,_⟩ hb=>?_⟩
 dsimp only at hb ⊢
 subst hb;refine⟨fun h1=>?_,fun h1=>?_⟩
 .unfold fov
  rw[if_neg (by simp at h1;omega)]
 .have h1:0<=n/\n<ns.length:=by simpa using h1
  refine⟨h1.1,by omega,h.r.ati n h1.1 h1.2,fun x hx=>?_⟩;unfold fov
  rw[if_pos h1,jOP h1.1 hx])
structure Mn (ns:List (List C)) (n:Int) (x:Tn):Prop where
 e:x=tnv ns (fov ns n)
 s:Nk x.s
def jQM:Cts:=ctp 230 (kA (aC (aQ (fO 3)) <|aC aI aN) fun a=>cGf a.1 a.2.1 (Gn a.1)) jQN
theorem jOw:Good T jQM:=by
 unfold jQM;refine Good.add jTZ ?_;rintro a h;exact jTq h _
theorem jTp {ns:List (List C)}(h:Gn ns) (n:Int):Tot T (mkc (rS fTn) b0 (fun x _=>Mn ns n x) True) 231 [qGr ns,pI n]:=vF hGy jOw Tryz.func231 (Gn ns/\∀(x:Int × Unit),x.1=fov ns n->True/\∀(x_1:Bool × Unit),x_1.1=(decide (0<=(ns,x.1,()).2.1) && decide ((ns,x.1,()).2.1<↑(List.length (ns,x.1,()).1)))->br (!x_1.1) (Mn ns n {k:=0,s:=[],f:=0}) (0<=x.1/\Int.toNat x.1<ns.length/\(∃(y:Tn),ns[Int.toNat x.1]? =some (fTn.f y))/\∀(x_2:Tn),ns[Int.toNat x.1]? =some (fTn.f x_2)->Mn ns n x_2)) (by kernel_rfl) (by
 refine⟨h,fun⟨f,_⟩ hf=>⟨trivial,fun⟨b,_⟩ hb=>?_⟩⟩
 dsimp only at hf hb ⊢
 subst hf hb;refine⟨fun h1=>⟨?_,Nk.nil⟩,fun h1=>?_⟩
 .rw[jRC (by
   simp at h1;omega)]
  rfl
 .have h1:0<=fov ns n/\fov ns n<ns.length:=by simpa using h1
  exact⟨h1.1,by omega,h.r.ati _ h1.1 h1.2,fun x hx=>⟨(jOP h1.1 hx).symm,h.at hx⟩⟩)
def hGa:Hy:=⟨hG,[],[(3,[(8,0)])],[]⟩
structure GaR (ns:List (List C)) (k:Int) (s:List (List C)) (i:Int) (ns':List (List C)):Prop where
 i:i=ns.length
 e:ns'=ns ++[fTn.f ⟨k,s,ns.length⟩]
def cGa (ns:List (List C)) (k:Int) (s:List (List C)) (p:Prop):Ct:=mkc rI bGr (fun i ns'=>GaR ns k s i ns') p
theorem jYv {ns:List (List C)}(k:Int) {s:List (List C)}(h:Gn ns) (hs:Nk s):Tot T (cGa ns k s True) 90 [pGr ns,pI k,.pl (.c (.r false 1 s))]:=vF hGa jOw Tryz.func90 (pln s/\0+s.length<=4000000000/\pln s/\ns.length+1<=4000000000/\GaR ns k s (↑ns.length) (ns ++(List.replicate 1 [iz IntKind.i64,rf 1,iz IntKind.i64]).set 0 (ovl (ovl (ovl [iz IntKind.i64,rf 1,iz IntKind.i64] 0 [I k]) 1 [.r false 1 (List.replicate 0 [iz IntKind.i64] ++s)]) 2 [I ↑ns.length]))) (by kernel_rfl) (by
 have:=h.n;have:=hs.n
 exact⟨Rw.pln hs.r,by omega,Rw.pln hs.r,by omega,rfl,rfl⟩)
def jn1 (o f:Int) (x:Tn):Tn:={x with f:=if x.f=o then f else x.f}
def jnC (o f:Int) (c:List C):List C:=match fTn.un c with
 |some x=>fTn.f (jn1 o f x)
 |none=>c
def jnT:Rl Av:=.cons 0 (tA 0) <| .cons 1 tI <| .cons 2 tI <| .cons 6 tI .nil
def jnRt:Rl Rt:=.cons 0 (rX 0 (fO 3)) .nil
structure JnI (ns:List (List C)) (o f:Int) (ns':List (List C)) (o' f' i:Int):Prop where
 q1:o'=o
 q2:f'=f
 q3:Ix ns.length i
 q4:ns'.length=ns.length
 q5:∀j:Nat,ns'[j]? =if j<i.toNat then(ns[j]?).map (jnC o f) else ns[j]?
def jnH (ns:List (List C)) (o f:Int):Hy:=⟨hG,[],[],[(1,.iv jnT jnRt (fun a=>JnI ns o f a.2.1 a.1.2.1 a.1.2.2.1 a.1.2.2.2.1) fun a=>ixM ns.length a.1.2.2.2.1)]⟩
def cGj (ns:List (List C)) (o f:Int) (p:Prop):Ct:=mkc r0 bGr (fun _ ns'=>ns'=ns.map (jnC o f)) p
theorem jYs {ns:List (List C)}(o f:Int) (h:Gn ns):Tot T (cGj ns o f True) 232 [pGr ns,pI o,pI f]:=vF (jnH ns o f) jOw Tryz.func232 (JnI ns o f ns o f 0/\∀(a:(Unit × Int × Int × Int × Unit) × List (List C) × Unit),JnI ns o f a.2.1 a.1.2.1 a.1.2.2.1 a.1.2.2.2.1->br (decide (a.1.2.2.2.1<↑(List.length a.2.1))) (0<=a.1.2.2.2.1/\Int.toNat a.1.2.2.2.1<List.length a.2.1/\(∃(y:Tn),a.2.1[Int.toNat a.1.2.2.2.1]? =some (fTn.f y))/\∀(x:Tn),a.2.1[Int.toNat a.1.2.2.2.1]? =some (fTn.f x)->br (decide (x.f=a.1.2.1)) (0<=a.1.2.2.2.1/\Int.toNat a.1.2.2.2.1<List.length a.2.1/\(∃(y:Tn),a.2.1[Int.toNat a.1.2.2.2.1]? =some (fTn.f y))/\∀(x:Tn),a.2.1[Int.toNat a.1.2.2.2.1]? =some (fTn.f x)->JnI ns o f (List.set a.2.1 (Int.toNat a.1.2.2.2.1) (ovl (fTn.f x) 2 [I a.1.2.2.1])) a.1.2.1 a.1.2.2.1 (wr (a.1.2.2.2.1+1))/\ixM ns.length (wr (a.1.2.2.2.1+1))<ixM ns.length a.1.2.2.2.1) (JnI ns o f a.2.1 a.1.2.1 a.1.2.2.1 (wr (a.1.2.2.2.1+1))/\ixM ns.length (wr (a.1.2.2.2.1+1))<ixM ns.length a.1.2.2.2.1)) (a.2.1=List.map (jnC o f) ns)) (by kernel_rfl) (by
 have hn:=h.n;refine⟨⟨rfl,rfl,⟨by omega,by omega⟩,rfl,fun j=>by rw[if_neg (by omega)]⟩,fun⟨⟨_,o',f',i,_⟩,ns',_⟩ ⟨q1,q2,q3,q4,q5⟩=>?_⟩
 dsimp only at q1 q2 q3 q4 q5 ⊢
 subst q1 q2;rw[q4];have lo:=q3.lo;have hi:=q3.hi;refine⟨fun hb=>?_,fun hb=>?_⟩
 .have hb':=dt hb
  have nx:=q3.nx (by omega) hb;have w1:(wr (i+1)).toNat=i.toNat+1:=by unfold wr;rw[IntKind.wrap_i64];omega
  have e:=q5 i.toNat;rw[if_neg (by omega)]at e;rw[e];have at':=h.r.ati i lo hb';refine⟨lo,by omega,at',fun x hx=>⟨fun h1=>⟨lo,by omega,at',fun y hy=>⟨⟨rfl,rfl,nx.1,by rw[List.length_set];exact q4,fun j=>?_⟩,nx.2⟩⟩,fun h1=>⟨⟨rfl,rfl,nx.1,q4,fun j=>?_⟩,nx.2⟩⟩⟩
  .rw[w1]
   by_cases B:j=i.toNat
   .subst B
    have E:x=y:=jQi (Option.some.inj (hx.symm.trans hy));rw[if_pos (by omega),List.getElem?_set_self (by omega),hy];show _=some (fTn.f (jn1 o' f' y));unfold jn1;rw[if_pos (by rw[<-E];exact dt h1)];rfl
   .rw[List.getElem?_set_ne (Ne.symm B),q5 j]
    by_cases h2:j<i.toNat
    .rw[if_pos h2,if_pos (by omega)]
    .rw[if_neg h2,if_neg (by omega)]
  .rw[w1,q5 j]
   by_cases B:j=i.toNat
   .subst B
    rw[if_neg (by omega),if_pos (by omega),hx];show _=some (fTn.f (jn1 o' f' x));unfold jn1;rw[if_neg (df h1)]
   .by_cases h2:j<i.toNat
    .rw[if_pos h2,if_pos (by omega)]
    .rw[if_neg h2,if_neg (by omega)]
 .have hb:=df hb
  apply List.ext_getElem?;intro j;rw[q5 j,List.getElem?_map]
  by_cases h2:j<i.toNat
  .rw[if_pos h2]
  .rw[if_neg h2,List.getElem?_eq_none (by omega)];rfl)
def frs (ns:List (List C)):List Int:=ns.filterMap fun c=>(fTn.un c).map Tn.f
def dc:List Int->Nat
 |[]=>0
 |x ::l=>if x ∈ l then dc l else dc l+1
theorem jQm (g:Int->Int):∀l,dc (l.map g)<=dc l
 |[]=>Nat.le_refl _
 |x ::l=>by
  have ih:=jQm g l;rw[List.map_cons];unfold dc
  by_cases h:x ∈ l
  .rw[if_pos h,if_pos (List.mem_map_of_mem h)];exact ih
  .rw[if_neg h];split <;> omega
theorem jQn {g:Int->Int}{o f:Int}(hn:o≠f) (E:g o=g f):∀l,o ∈ l->f ∈ l->dc (l.map g)<dc l
 |[],h,_=>by cases h
 |x ::l,B,hf=>by
  have hm:=jQm g l;rw[List.map_cons];unfold dc
  by_cases h:x ∈ l
  .have ho':o ∈ l:=by rcases List.mem_cons.1 B with rfl|B;exact h;exact B
   have G:f ∈ l:=by rcases List.mem_cons.1 hf with rfl|hf;exact h;exact hf
   rw[if_pos h,if_pos (List.mem_map_of_mem h)];exact jQn hn E l ho' G
  .rw[if_neg h]
   rcases List.mem_cons.1 B with e|B
   .rcases List.mem_cons.1 hf with e'|hf
    .exact absurd (e.trans e'.symm) hn
    .rw[if_pos (by rw[<-e,E];exact List.mem_map_of_mem hf)];omega
   .rcases List.mem_cons.1 hf with e'|hf
    .rw[if_pos (by rw[<-e',<-E];exact List.mem_map_of_mem B)];omega
    .have:=jQn hn E l B hf
     split <;> omega
theorem jQb (o f:Int):∀ns:List (List C),frs (ns.map (jnC o f))=(frs ns).map fun v=>if v=o then f else v
 |[]=>rfl
 |c ::l=>by
  have ih:=jQb o f l;unfold frs at *;rw[List.map_cons,List.filterMap_cons,List.filterMap_cons]
  cases h :fTn.un c with
  |none=>rw[show jnC o f c=c by unfold jnC;rw[h],h];exact ih
  |some x=>
   have e:jnC o f c=fTn.f (jn1 o f x):=by unfold jnC;rw[h]
   rw[e,show fTn.un (fTn.f (jn1 o f x))=some (jn1 o f x)from rfl];simp only[Option.map_some,ih];rfl
theorem jX6 {ns:List (List C)}(o f:Int) (h:Gn ns):Gn (ns.map (jnC o f)):=⟨fun e he=>by
 obtain⟨c,B,rfl⟩:=List.mem_map.1 he;obtain⟨x,rfl,hx⟩:=h.r c B
 exact⟨jn1 o f x,rfl,hx⟩,by rw[List.length_map];exact h.n⟩
theorem jTv {ns:List (List C)}(h:Gn ns) {a:Int}(hk:(tnv ns (fov ns (fov ns a))).k≠0):fov ns a ∈ frs ns:=by
 by_cases ha:0<=a/\a<ns.length
 .obtain⟨x,hx⟩:=h.r.ati a ha.1 ha.2
  have e:fov ns a=x.f:=by unfold fov;rw[if_pos ha,jOP ha.1 hx]
  rw[e];exact List.mem_filterMap.2 ⟨_,List.mem_of_getElem? hx,rfl⟩
 .have e:fov ns a=a:=by unfold fov;rw[if_neg ha]
  rw[e,e,jRC (by omega)]at hk;exact absurd rfl hk
structure MgR (ns:List (List C)) (ns':List (List C)):Prop where
 g:Gn ns'
 l:ns'.length=ns.length
 d:dc (frs ns')<=dc (frs ns)
theorem MgR.refl {ns:List (List C)}(h:Gn ns):MgR ns ns:=⟨h,rfl,Nat.le_refl _⟩
theorem MgR.trans {a b c:List (List C)}(h:MgR a b) (B:MgR b c):MgR a c:=⟨B.g,B.l.trans h.l,Nat.le_trans B.d h.d⟩
theorem MgR.jn {ns:List (List C)}(o f:Int) (h:Gn ns):MgR ns (ns.map (jnC o f)):=⟨jX6 o f h,by rw[List.length_map],by rw[jQb];exact jQm _ _⟩
structure MgP (m:Nat) (ns:List (List C)):Prop where
 g:Gn ns
 d:dc (frs ns)<m
def cGg (ns:List (List C)) (p:Prop):Ct:=mkc rB bGr (fun _ ns'=>MgR ns ns') p
def jNt:Cts:=ctp 232 (kA (aC (aP (fO 3)) <|aC aI <|aC aI aN) fun a=>cGj a.1 a.2.1 a.2.2.1 (Gn a.1)) <|ctp 231 (kA (aC (aQ (fO 3)) <|aC aI aN) fun a=>mkc (rS fTn) b0 (fun x _=>Mn a.1 a.2.1 x) (Gn a.1)) jQM
theorem jNs:Good T jNt:=by
 unfold jNt;refine Good.add (Good.add jOw ?_) ?_
 .rintro a h;exact jTp h _
 .rintro a h;exact jYs _ _ h
def jNr (m:Nat):Cts:=ctp 233 (kA (aC (aP (fO 3)) <|aC (aR 1) <|aC (aR 1) aN) fun a=>cGg a.1 (MgP m a.1/\Nk a.2.1/\Nk a.2.2.1)) jNt
def jOv (m:Nat):Cts:=ctp 218 (kA (aC (aP (fO 3)) <|aC aI <|aC aI aN) fun a=>cGg a.1 (MgP m a.1)) jNt
theorem jTn {m:Nat}(B:Good T (jNr m)) {ns:List (List C)}(a b:Int) (h:MgP (m+1) ns):Tot T (cGg ns True) 218 [pGr ns,pI a,pI b]:=vF hGy (B) Tryz.func218 (Gn ns/\∀(x:Int × Unit),x.1=fov ns a->Gn ns/\∀(x_1:Int × Unit),x_1.1=fov ns b->br (decide (x.1=x_1.1)) (MgR ns ns) (Gn ns/\∀(x_2:Tn × Unit),Mn ns x.1 x_2.1->Gn ns/\∀(x_3:Tn × Unit),Mn ns x_1.1 x_3.1->br (decide (x_2.1.k=0)) (Gn ns/\∀(x_4:Unit × List (List C)),x_4.2=List.map (jnC x.1 x_1.1) ns->MgR ns x_4.2) (Gn ns/\∀(x_4:Unit × List (List C)),x_4.2=List.map (jnC x_1.1 x.1) ns->br (decide (x_3.1.k=0)) (MgR ns x_4.2) (br (decide (x_2.1.k=x_3.1.k)) ((MgP m x_4.2/\Nk x_2.1.s/\Nk x_3.1.s)/\∀(x:Bool × List (List C)),MgR x_4.2 x.2->MgR ns x.2) (MgR ns x_4.2))))) (by kernel_rfl) (by
 have g:=h.g;have hd:=h.d;refine⟨g,fun⟨x,_⟩ hx=>⟨g,fun⟨y,_⟩ hy=>?_⟩⟩
 dsimp only at hx hy ⊢
 subst hx hy;refine⟨fun _=>MgR.refl g,fun E=>⟨g,fun⟨u,_⟩ hu=>⟨g,fun⟨v,_⟩ hv=>?_⟩⟩⟩
 dsimp only at hu hv ⊢
 have E:=df E;refine⟨fun _=>⟨g,fun⟨_,n1⟩ e1=>?_⟩,fun hk=>⟨g,fun⟨_,n1⟩ e1=>?_⟩⟩
 .dsimp only at e1 ⊢
  subst e1;exact MgR.jn _ _ g
 .dsimp only at e1 ⊢
  subst e1;have j:=MgR.jn (fov ns b) (fov ns a) g;refine⟨fun _=>j,fun hk2=>⟨fun _=>⟨⟨⟨j.g,?_⟩,hu.s,hv.s⟩,fun⟨_,n2⟩ h2=>j.trans h2⟩,fun _=>j⟩⟩;have G:=jTv g (a:=a) (by rw[<-hu.e];exact df hk);have a2:=jTv g (a:=b) (by rw[<-hv.e];exact df hk2);have:=jQn (g:=fun v=>if v=fov ns b then fov ns a else v) (Ne.symm E) (by simp) (frs ns) a2 G;rw[jQb]
  omega)
def gmT:Rl Av:=.cons 0 (tA 0) <| .cons 1 (tR 1) <| .cons 2 (tR 1) <| .cons 7 tI .nil
structure GmI (ns l r:List (List C)) (ns' l' r':List (List C)) (i:Int):Prop where
 q1:l'=l
 q2:r'=r
 q3:Ix l.length i
 q4:MgR ns ns'
def gmH (ns l r:List (List C)):Hy:=⟨hG,[],[],[(4,.iv gmT jnRt (fun a=>GmI ns l r a.2.1 a.1.2.1 a.1.2.2.1 a.1.2.2.2.1) fun a=>ixM l.length a.1.2.2.2.1)]⟩
theorem jTo {m:Nat}(jOu:Good T (jOv m)) {ns l r:List (List C)}(h:MgP m ns) (hl:Nk l) (E:Nk r):Tot T (cGg ns True) 233 [pGr ns,.pl (.c (.r false 1 l)),.pl (.c (.r false 1 r))]:=vF (gmH ns l r) (jOu) Tryz.func233 (br (decide ((l.length:Int)≠(r.length:Int))) (MgR ns ns) (GmI ns l r ns l r 0/\∀(a:(Unit × List (List C) × List (List C) × Int × Unit) × List (List C) × Unit),GmI ns l r a.2.1 a.1.2.1 a.1.2.2.1 a.1.2.2.2.1->br (decide (a.1.2.2.2.1<↑(List.length a.1.2.1))) (br (decide (a.1.2.2.2.1<↑(List.length a.1.2.2.1))) (0<=a.1.2.2.2.1/\(∃(y:Int),a.1.2.1[Int.toNat a.1.2.2.2.1]? =some [I y])/\∀(x:Int),a.1.2.1[Int.toNat a.1.2.2.2.1]? =some [I x]->0<=a.1.2.2.2.1/\(∃(y:Int),a.1.2.2.1[Int.toNat a.1.2.2.2.1]? =some [I y])/\∀(x:Int),a.1.2.2.1[Int.toNat a.1.2.2.2.1]? =some [I x]->MgP m a.2.1/\∀(x:Bool × List (List C)),MgR a.2.1 x.2->br (!x.1) (MgR ns x.2) (GmI ns l r x.2 a.1.2.1 a.1.2.2.1 (wr (a.1.2.2.2.1+1))/\ixM l.length (wr (a.1.2.2.2.1+1))<ixM l.length a.1.2.2.2.1)) (MgR ns a.2.1)) (false=false/\MgR ns a.2.1))) (by kernel_rfl) (by
 refine⟨fun _=>MgR.refl h.g,fun B=>?_⟩;have B:=df B;have hn:=hl.n;refine⟨⟨rfl,rfl,⟨by omega,by omega⟩,MgR.refl h.g⟩,fun⟨⟨_,l',r',i,_⟩,ns',_⟩ ⟨q1,q2,q3,q4⟩=>?_⟩
 dsimp only at q1 q2 q3 q4 ⊢
 subst q1 q2;have lo:=q3.lo
 refine⟨fun hb=>⟨fun hb2=>⟨lo,hl.ati i lo (dt hb),fun x _=>⟨lo,E.ati i lo (dt hb2),fun y _=>⟨⟨q4.g,Nat.lt_of_le_of_lt q4.d h.d⟩,fun⟨b,n2⟩ h2=>⟨fun _=>q4.trans h2,fun _=>⟨⟨rfl,rfl,(q3.nx (by omega) hb).1,q4.trans h2⟩,(q3.nx (by omega) hb).2⟩⟩⟩⟩⟩,fun _=>q4⟩,fun _=>⟨rfl,q4⟩⟩)
theorem jOu:∀m,Good T (jOv m)
 |0=>by
  unfold jOv;refine Good.add jNs ?_;rintro a ⟨_,h⟩;exact absurd h (Nat.not_lt_zero _)
 |m+1=>by
  have ih:=jOu m
  have i2:Good T (jNr m):=by
   unfold jNr;refine Good.add jNs ?_;rintro a ⟨B,h2,E⟩;exact jTo ih B h2 E
  unfold jOv;refine Good.add jNs ?_;rintro a h;exact jTn i2 _ _ h
theorem jW4 {ns:List (List C)}(h:Gn ns) (a b:Int):Tot T (cGg ns True) 218 [pGr ns,pI a,pI b]:=by
 have i2:Good T (jNr (dc (frs ns))):=by
  unfold jNr;refine Good.add jNs ?_;rintro a ⟨B,h2,E⟩;exact jTo (jOu _) B h2 E
 exact jTn i2 a b ⟨h,Nat.lt_succ_self _⟩
end V
end Go.Proofs.YtnhbcdnmfafbiaaGreatDoor
set_option maxRecDepth 100000
namespace Go.Proofs.YtnhbcdnmfafbiaaGreatDoor
namespace V
open Go.Proofs Go.RowKit
structure Ln (m:Nat) (w w':World):Prop where
 low:Below 0 w w'
 kp:∀g,g<w.heap.size->g≠m->w'.heap[g]? =w.heap[g]?
theorem Ln.refl (m:Nat) (w:World):Ln m w w:=⟨Below.refl _ _,fun _ _ _=>rfl⟩
theorem Ln.trans {m:Nat}{w w1 w2:World}(h:Ln m w w1) (B:Ln m w1 w2):Ln m w w2:=⟨h.low.trans B.low,fun g hg hm=>(B.kp g (Nat.lt_of_lt_of_le hg h.low.size) hm).trans (h.kp g hg hm)⟩
theorem Lie.on {w w':World}{A:Nat->Prop}{k o:Nat}{l:List C}{F:List Nat}{arr:Array Value}{ty:TypeId}{fz:Nat × Nat}(h:Lie false w A k o l F arr ty fz) (hk:w'.heap[k]? =w.heap[k]?) (B:∀g,A g->w'.heap[g]? =w.heap[g]?) (hF:∀g ∈ F,w'.heap[g]? =w.heap[g]?):Lie false w' A k o l F arr ty fz:=⟨hk.trans h.blk,(fun e=>(by cases e)),h.le,h.rl.st (fun g hg=>⟨hg,B g hg⟩) hF⟩
section
variable {ns:List (List C)}{W:World}{A:Nat->Prop}{k o:Nat}{F:List Nat}{arr:Array Value}{ty:TypeId}{fz:Nat × Nat}
theorem pv_i {x:Int}(i:Nat) (y:Av) (v:Value) (B:[Av.c (I x)][i]? =some y) (h2:[Value.int .i64 x][i]? =some v):PV W A y v:=by
 cases i with
 |zero=>cases B;cases h2;exact RC.i _ _
 |succ i=>cases B
theorem jYJ (h:Gn ns) (J:∀k,A k->k<W.heap.size) (M:Lie false W A k o [.r true 3 ns] F arr ty fz) (B:(k ::F).Nodup) (x:Int):Calls Tryz.prog 230 #[.pointer (some ⟨k,o,none⟩),.int .i64 x] W fun e w'=>e= .returned (.int .i64 (fov ns x))/\Below 0 W w'/\∀g,g<W.heap.size->w'.heap[g]? =W.heap[g]?:=by
 obtain⟨⟨y,_⟩,hy,hd⟩:=jTq h x;have hy:y=fov ns x:=hy;subst hy;refine(Does.callsR (T:=T) (fun _=>rfl) (xs:=[.c (I x)]) hd J M B (vs:=[.int .i64 x]) rfl (fun i y v E h2=>pv_i i y v E h2) (fun y hy=>by rw[List.mem_singleton.1 hy];exact⟨rfl,rfl⟩)).mono ?_;rintro e w' ⟨v,A',mo,fp,rfl,E,h2,_,_,_,G⟩;have G:RC w' A' (.i .i64 (fov ns x)) v []:=G;cases G;exact⟨rfl,E,h2⟩
theorem jW5 (h:Gn ns) (M:∀k,A k->k<W.heap.size) (O:Lie false W A k o [.r true 3 ns] F arr ty fz) (E:(k ::F).Nodup) (x:Int):Calls Tryz.prog 231 #[.pointer (some ⟨k,o,none⟩),.int .i64 x] W fun e w'=>∃kv A',e= .returned (.agg #[.int .i64 (tnv ns (fov ns x)).k,kv,.int .i64 (tnv ns (fov ns x)).f])/\Below 0 W w'/\(∀g,g<W.heap.size->w'.heap[g]? =W.heap[g]?)/\(∀g,A' g->g<w'.heap.size/\(A g\/W.heap.size<=g))/\RC w' A' (.r false 1 (tnv ns (fov ns x)).s) kv []/\Nk (tnv ns (fov ns x)).s:=by
 obtain⟨⟨y,_⟩,hy,hd⟩:=jTp h x;obtain⟨P,V⟩:Mn ns x y:=hy;subst P;refine(Does.callsR (T:=T) (fun _=>rfl) (xs:=[.c (I x)]) hd M O E (vs:=[.int .i64 x]) rfl (fun i y v J h2=>pv_i i y v J h2) (fun y hy=>by rw[List.mem_singleton.1 hy];exact⟨rfl,rfl⟩)).mono ?_;rintro e w' ⟨v,A',mo,fp,rfl,J,h2,_,Y,Z,B⟩;obtain⟨ar,rfl,B⟩:∃ar:Array Value,v= .agg ar/\RL w' A' [I (tnv ns (fov ns x)).k,.r false 1 (tnv ns (fov ns x)).s,I (tnv ns (fov ns x)).f] ar.toList []:=B
 have:∃kv,ar=#[.int .i64 (tnv ns (fov ns x)).k,kv,.int .i64 (tnv ns (fov ns x)).f]/\RC w' A' (.r false 1 (tnv ns (fov ns x)).s) kv []:=by
  generalize hz:ar.toList=z at B;generalize hG:([]:List Nat)=G at B
  cases B with
  |cons q1 q2=>
   cases q2 with
   |cons q2 q3=>
    cases q3 with
    |cons q3 q4=>
     cases q4;cases q1;cases q3;have:=q2.pl rfl;subst this;refine⟨_,?_,q2⟩;apply Array.toList_inj.1;rw[hz]
 obtain⟨kv,rfl,q⟩:=this;exact⟨kv,A',rfl,J,h2,fun g hg=>⟨Y g hg,Z g hg⟩,q,V⟩
end
def ints (s:List (List C)):List Int:=s.filterMap fI.un
def lpL (g:List Int->Int->Bool × List Int):List Int->List Int->Bool × List Int
 |mk,[]=>(false,mk)
 |mk,y ::ys=>if(g mk y).1 then(true,(g mk y).2) else lpL g (g mk y).2 ys
noncomputable def lpF (ns:List (List C)):Nat->List Int->Int->Bool × List Int
 |0,mk,_=>(false,mk)
 |f+1,mk,x=>if 0<=fov ns x/\fov ns x<mk.length then(if mk.getD (fov ns x).toNat 0=0 then(let r:=lpL (lpF ns f) (mk.set (fov ns x).toNat 1) (ints (tnv ns (fov ns (fov ns x))).s);if r.1 then(true,r.2) else(false,r.2.set (fov ns x).toNat 2)) else(decide (mk.getD (fov ns x).toNat 0=1),mk)) else(false,mk)
def uns (mk:List Int):Nat:=mk.countP fun x=>x == 0
theorem juA:∀{mk:List Int}{j:Nat}{z:Int},mk[j]? =some 0->z≠0->uns (mk.set j z)+1=uns mk
 |[],j,z,h,_=>by simp at h
 |x ::l,0,z,h,hz=>by
  simp at h;subst h;unfold uns;rw[List.set_cons_zero,List.countP_cons_of_neg (by simpa using hz),List.countP_cons_of_pos (by simp)]
 |x ::l,j+1,z,h,hz=>by
  have:=juA (mk:=l) (j:=j) (z:=z) (by simpa using h) hz;unfold uns at *;rw[List.set_cons_succ,List.countP_cons,List.countP_cons];omega
theorem jBh {mk:List Int}{j:Nat}{z:Int}(B:z≠0):uns (mk.set j z)<=uns mk:=by
 cases h :mk[j]? with
 |none=>rw[List.set_eq_of_length_le (List.getElem?_eq_none_iff.1 h)];exact Nat.le_refl _
 |some x=>
  by_cases hx:x=0
  .subst hx;have:=juA h B;omega
  .have hl:=(List.getElem?_eq_some_iff.1 h).1
   unfold uns;rw[List.countP_set hl];have:¬(z == 0)=true:=by simpa using B
   rw[if_neg this];omega
def Gd (g:List Int->Int->Bool × List Int):Prop:=∀mk y,(g mk y).2.length=mk.length/\uns (g mk y).2<=uns mk
theorem jSN {g:List Int->Int->Bool × List Int}(h:Gd g):∀(ys mk:List Int),(lpL g mk ys).2.length=mk.length/\uns (lpL g mk ys).2<=uns mk
 |[],mk=>⟨rfl,Nat.le_refl _⟩
 |y ::ys,mk=>by
  have B:=h mk y;have h2:=jSN h ys (g mk y).2;unfold lpL
  split
  .exact B
  .exact⟨h2.1.trans B.1,Nat.le_trans h2.2 B.2⟩
theorem jSO (ns:List (List C)):∀f,Gd (lpF ns f)
 |0,mk,y=>⟨rfl,Nat.le_refl _⟩
 |f+1,mk,x=>by
  have h:=jSN (jSO ns f) (ints (tnv ns (fov ns (fov ns x))).s) (mk.set (fov ns x).toNat 1);have B:=jBh (mk:=mk) (j:=(fov ns x).toNat) (z:=1) (by omega);rw[List.length_set]at h;simp only[lpF]
  split
  .split
   .split
    .exact⟨h.1,by dsimp only;omega⟩
    .have h2:=jBh (mk:=(lpL (lpF ns f) (mk.set (fov ns x).toNat 1) (ints (tnv ns (fov ns (fov ns x))).s)).2) (j:=(fov ns x).toNat) (z:=2) (by omega)
     exact⟨by rw[List.length_set];exact h.1,by dsimp only;omega⟩
   .exact⟨rfl,Nat.le_refl _⟩
  .exact⟨rfl,Nat.le_refl _⟩
theorem jTg {s:List (List C)}(h:Nk s):s=(ints s).map fun i=>[I i]:=by
 have B:=h.r;clear h
 induction s with
 |nil=>rfl
 |cons e s ih=>
  obtain⟨x,E,_⟩:=B e (List.mem_cons_self ..);subst E;have:=ih (fun q hq=>B q (List.mem_cons_of_mem _ hq));exact congrArg (fI.f x ::·) this
def mV (mk:List Int):Array Value:=(mk.map fun z=>Value.int .i64 z).toArray
theorem jPQ {mk:List Int}{j:Nat}{x:Int}(h:mk[j]? =some x):(mV mk)[j]? =some (.int .i64 x):=by
 unfold mV;rw[List.getElem?_toArray,List.getElem?_map,h];rfl
structure Sc (ns:List (List C)) (A:Nat->Prop) (k o:Nat) (F:List Nat) (arr:Array Value) (ty:TypeId) (fz:Nat × Nat) (sb gm n N:Nat):Prop where
 g:Gn ns
 nd:(k ::F).Nodup
 a:∀g,A g->g<N
 k:k<N
 f:∀g ∈ F,g<N
 s:N<=sb
 m:N<=gm
 ne:sb≠gm
 n:n<=1000000
structure Sw (ns:List (List C)) (A:Nat->Prop) (k o:Nat) (F:List Nat) (arr:Array Value) (ty:TypeId) (fz:Nat × Nat) (sb gm n:Nat) (W:World) (mk:List Int):Prop where
 l:Lie false W A k o [.r true 3 ns] F arr ty fz
 b:W.heap[sb]? =some (.cells #[.pointer (some ⟨k,o,none⟩),.slice (some ⟨gm,0,none⟩) n n] 248 (0,0))
 m:W.heap[gm]? =some (.cells (mV mk) 3 (0,0))
 n:mk.length=n
theorem jKi {w:World}{g:Nat}{B:Obj}(h:w.heap[g]? =some B):g<w.heap.size:=(Array.getElem?_eq_some_iff.1 h).1
section
variable {ns:List (List C)}{A:Nat->Prop}{k o:Nat}{F:List Nat}{arr:Array Value}{ty:TypeId}{fz:Nat × Nat}{sb gm n N:Nat}
theorem Sw.on {W B:World}{mk:List Int}(c:Sc ns A k o F arr ty fz sb gm n N) (h:Sw ns A k o F arr ty fz sb gm n W mk) (hW:∀g,g<W.heap.size->B.heap[g]? =W.heap[g]?):Sw ns A k o F arr ty fz sb gm n B mk:=by
 have E:=jKi h.b;have h2:=jKi h.m;have:=c.s;exact⟨h.l.on (hW _ (by have:=c.k;omega)) (fun g hg=>hW _ (by have:=c.a g hg;omega)) (fun g hg=>hW _ (by have:=c.f g hg;omega)),(hW _ E).trans h.b,(hW _ h2).trans h.m,h.n⟩
theorem Sw.set {W:World}{mk:List Int}(c:Sc ns A k o F arr ty fz sb gm n N) (h:Sw ns A k o F arr ty fz sb gm n W mk) (j:Nat) (z:Int):Sw ns A k o F arr ty fz sb gm n (W.setCell ⟨gm,j,none⟩ (.int .i64 z)) (mk.set j z)/\Ln gm W (W.setCell ⟨gm,j,none⟩ (.int .i64 z)):=by
 have kp:∀g,g≠gm->(W.setCell ⟨gm,j,none⟩ (.int .i64 z)).heap[g]? =W.heap[g]?:=fun g hg=>Below.heap_setCell _ _ _ _ hg;have hN:=c.m;refine⟨⟨h.l.on (kp _ (by have:=c.k;omega)) (fun g hg=>kp _ (by have:=c.a g hg;omega)) (fun g hg=>kp _ (by have:=c.f g hg;omega)),(kp _ c.ne).trans h.b,?_,by rw[List.length_set];exact h.n⟩,⟨(Below.refl _ _).setCell (p:=⟨gm,j,none⟩) (Nat.zero_le _) _,fun g _ hg=>kp g hg⟩⟩;have e:(mV mk).setIfInBounds j (.int .i64 z)=mV (mk.set j z):=by unfold mV;rw[List.map_set];simp
 have hm:=h.m;have hl:=jKi h.m;rw[<-e];simp only[World.setCell];rw[Array.getElem?_modify,if_pos rfl,hm];rfl
def LC (ns:List (List C)) (A:Nat->Prop) (k o:Nat) (F:List Nat) (arr:Array Value) (ty:TypeId) (fz:Nat × Nat) (sb gm n:Nat) (c:Nat):Prop:=∀(W:World) (mk:List Int) (x:Int),Sw ns A k o F arr ty fz sb gm n W mk->uns mk<c->Calls Tryz.prog 219 #[.pointer (some ⟨sb,0,none⟩),.int .i64 x] W fun e W'=>e= .returned (.bool (lpF ns c mk x).1)/\Sw ns A k o F arr ty fz sb gm n W' (lpF ns c mk x).2/\Ln gm W W'
theorem jR5 {w:World}{A:Nat->Prop}:∀{l:List Int}{vs:List Value}{F:List Nat},RE w A 1 (l.map fun i=>[I i]) vs F->∀(i:Nat) (x:Int),l[i]? =some x->vs[i]? =some (.int .i64 x)
 |[],_,_,_,i,x,h=>by cases h
 |y ::l,vs,F,h,i,x,hi=>by
  cases h with
  |cons h1 h2 h3=>
   cases vs with
   |nil=>simp at h1
   |cons v vs=>
    cases i with
    |zero=>
     simp at hi;subst hi;have h2:RL w A [I y] [v] _:=h2
     cases h2 with
     |cons q _=>cases q;rfl
    |succ i=>exact jR5 h3 i x hi
theorem jXR {w:World}{A:Nat->Prop}{s:List (List C)}{B:Value}(hs:Nk s) (h:RC w A (.r false 1 s) B []):∃al ck,B= .slice al s.length ck/\s.length<=ck+s.length/\∀(i:Nat) (x:Int),(ints s)[i]? =some x->∃g off,al=some ⟨g,off,none⟩/\A g/\w.cell? ⟨g,off+i,none⟩=some (.int .i64 x):=by
 have e:=jTg hs;generalize hF:([]:List Nat)=G at h
 cases h with
 |rn=>exact⟨none,0,rfl,by simp,fun i x hi=>by have hi:([]:List Int)[i]? =some x:=hi;simp at hi⟩
 |re _ a cap=>exact⟨a,cap,rfl,by simp,fun i x hi=>by have hi:([]:List Int)[i]? =some x:=hi;simp at hi⟩
 |rf h0 h1 h2 h3 h4 h5=>
  rename_i g off cap arr ty fz
  refine⟨_,cap,rfl,by omega,fun i x hi=>⟨g,off,rfl,h0,?_⟩⟩;rw[e]at h5;have:=jR5 h5 i x hi;rw[cell_of h1,<-Array.getElem?_toList,<-List.getElem?_drop];exact this
theorem jYd {s:List (List C)}(h:Nk s):(ints s).length=s.length:=by
 have:=congrArg List.length (jTg h);rw[List.length_map]at this;exact this.symm
theorem jSM {g:List Int->Int->Bool × List Int}{mi B:List Int}{y:Int}{r:Bool}{m':List Int}(h:g mi y=(r,m')):lpL g mi (y ::B)=if r then(true,m') else lpL g m' B:=by
 simp only[lpL,h]
theorem fr0 {w:World}{g:Nat}{ar:Array Value}{ty:TypeId}(h:w.heap[g]? =some (.cells ar ty (0,0))) (j:Nat):w.frozen? ⟨g,j,none⟩=false:=by
 simp[World.frozen?,h]
theorem lies {w:World}{A:Nat->Prop}{k o:Nat}{s:C}{F:List Nat}{arr:Array Value}{ty:TypeId}{fz:Nat × Nat}(h:Lie false w A k o [s] F arr ty fz):k<w.heap.size:=jKi h.blk
theorem jEX (sc:Sc ns A k o F arr ty fz sb gm n N) {c:Nat}(IH:LC ns A k o F arr ty fz sb gm n c):LC ns A k o F arr ty fz sb gm n (c+1):=by
 intro w mk x hS hu;have h8:∀g,A g->g<w.heap.size:=fun g hg=>by have:=sc.a g hg;have:=sc.s;have:=jKi hS.b;omega
 obtain⟨p,hp⟩:∃p,fov ns x=p:=⟨_,rfl⟩
 have CF:=Lib.hid (jYJ sc.g h8 hS.l sc.nd x);rw[hp]at CF;have s0:w.cell? ⟨sb,0,none⟩=some (.pointer (some ⟨k,o,none⟩)):=(cell_of hS.b 0).trans rfl;have y2:=jKi hS.b;have HS:=Lib.hid hS;have HP:=Lib.hid hp;have HU:=Lib.hid hu;have y7:=Lib.hid IH;have E:=Lib.hid sc;have H6:=sc.n;have x9:=hS.n;have h7:=Lib.hid x9;clear hS hp hu IH h8 sc x9
 by_cases h0:0<=p/\p<(n:Nat)
 .obtain⟨l,rfl⟩:∃l:Nat,p=l:=⟨p.toNat,by omega⟩
  have hl:l<n:=by omega
  obtain⟨z,hz⟩:∃z,mk[l]? =some z:=⟨_,List.getElem?_eq_getElem (by rw[h7.out];exact hl)⟩
  have g1:(l:Int)<(n:Int):=by omega
  have u1:decide ((l:Int)<(0:Int))=false:=by simp
  have u2:decide (((n:Nat):Int)<=(l:Int))=false:=by simp;omega
  have k2:mk.getD (l:Int).toNat 0=z:=by rw[Int.toNat_natCast,List.getD_eq_getElem?_getD,hz];rfl
  by_cases k5:z=0
  .subst k5
   have HL:Hid (lpF ns (c+1) mk x=(let r:=lpL (lpF ns c) (mk.set l 1) (ints (tnv ns (fov ns l)).s);if r.1 then(true,r.2) else(false,r.2.set l 2))):=by
    show _=_;rw[lpF,HP.out,h7.out,if_pos ⟨by omega,by omega⟩,k2,if_pos rfl,Int.toNat_natCast]
   have HZ:=Lib.hid hz;clear k2 hz
   go_enter Tryz.func219,Tryz.ntmps219
   go_upto_region 7 with(go_at_call 230;refine CF.out.mono ?_;rintro _ w1 ⟨rfl,O,G⟩;have B:=Sw.on E.out HS.out G;have s1:w1.cell? ⟨sb,1,none⟩=some (.slice (some ⟨gm,0,none⟩) n n):=(cell_of B.b 1).trans rfl;have cz:w1.cell? ⟨gm,l,none⟩=some (.int .i64 0):=(cell_of B.m l).trans (jPQ HZ.out);have yz:w1.frozen? ⟨gm,l,none⟩=false:=fr0 B.m l;have h5:=jKi B.b;have k9:=jKi B.m;have P:=Lib.hid B;have y6:=Lib.hid O;have y8:=Lib.hid G;clear B O G)
   obtain⟨Z,p2⟩:=P.out.set E.out l 1;have hN:=h7.out;have r3:=juA (z:=1) HZ.out (by omega)
   obtain⟨M,hM⟩:∃M,mk.set l 1=M:=⟨_,rfl⟩
   rw[hM]at Z r3;have H4:Hid (M.length=n):=by show _=_;rw[<-hM,List.length_set,hN]
   have z7:=Lib.hid r3;have h9:Hid (lpF ns (c+1) mk x=(let r:=lpL (lpF ns c) M (ints (tnv ns (fov ns l)).s);if r.1 then(true,r.2) else(false,r.2.set l 2))):=by show _=_;rw[<-hM];exact HL.out
   generalize w1.setCell ⟨gm,l,none⟩ (.int .i64 1)=W1 at Z p2 ⊢;have a0:W1.cell? ⟨sb,0,none⟩=some (.pointer (some ⟨k,o,none⟩)):=(cell_of Z.b 0).trans rfl;have B:=jKi Z.b;have h8:∀g,A g->g<W1.heap.size:=fun g hg=>by have:=E.out.a g hg;have:=E.out.s;omega
   have CM:=Lib.hid (jW5 E.out.g h8 Z.l E.out.nd (l:Int));have v6:=Lib.hid Z
   have r6:Hid (Ln gm w W1):=(Ln.trans ⟨y6.out,fun g hg _=>y8.out g hg⟩ p2)
   obtain⟨tn,y3⟩:∃tn,tnv ns (fov ns l)=tn:=⟨_,rfl⟩
   rw[y3]at CM h9;have H3:∀v w,Sem.run Tryz.prog (Instr.field 196 (.agg #[.int .i64 tn.k,v,.int .i64 tn.f]) 1) w= .ok v w:=fun v w=>by kernel_rfl
   clear Z p2 r3 hM hN y3 h8 HL CF cz yz s1 k9 h5 s0 y2
   go_upto_region 8 with(go_at_call 231;refine CM.out.mono ?_;rintro _ w2 ⟨kv,A',rfl,x3,x7,x1,y0,k4⟩;obtain⟨al,ck,rfl,_,k1⟩:=jXR k4 y0;have H0:=k4.n;have r4:=Lib.hid x3;have k6:=Lib.hid x7;have y5:=Lib.hid x1;have v1:=Lib.hid k4;have r5:=Lib.hid k1;clear x3 x7 x1 y0 k4 k1)
   have z6:=Lib.hid (Sw.on E.out v6.out k6.out)
   obtain⟨Y,r1⟩:∃Y,List.length tn.s=Y:=⟨_,rfl⟩
   obtain⟨K,hK⟩:∃K,ints tn.s=K:=⟨_,rfl⟩
   have r9:Hid (K.length=Y):=by show _=_;rw[<-hK,<-r1];exact jYd v1.out
   rw[r1]at H0 ⊢;rw[hK]at r5 h9;clear CM a0 B r1 hK v1
   go_loopg [7,55] Y (fun gh s7 s55 (wr:World)=>∃(i:Nat) (mi:List Int),i<=Y/\gh=Y-i/\s55= .int .i64 (i:Nat)/\Sw ns A k o F arr ty fz sb gm n wr mi/\uns mi<=uns M/\Ln gm w2 wr/\lpL (lpF ns c) M K=lpL (lpF ns c) mi (K.drop i))
   case atStart=>
    exact⟨0,M,by omega,rfl,rfl,z6.out,Nat.le_refl _,Ln.refl _ _,rfl⟩
   case round=>
    obtain⟨i,mi,hi,H5,rfl,J,y4,x6,x8⟩:=hrel;have v8:=Lib.hid J;have x0:=Lib.hid y4;have h6:=Lib.hid x6;have k7:=Lib.hid x8;clear J y4 x6 x8
    by_cases H1:i<Y
    .have g2:(i:Int)<(Y:Int):=by omega
     obtain⟨y,hy⟩:∃y,K[i]? =some y:=⟨_,List.getElem?_eq_getElem (by rw[r9.out];exact H1)⟩
     obtain⟨gk,off,rfl,x2,x4⟩:=r5.out i y hy
     have k3:gk<w2.heap.size/\gk≠gm:=by
      have h1:=y5.out gk x2;have h2:=jKi v6.out.m;have h3:=E.out.m;refine⟨h1.1,fun e=>?_⟩;subst e;rcases h1.2 with h4|h4
      .have:=E.out.a _ h4;omega
      .omega
     have c1:wr.cell? ⟨gk,off+i,none⟩=some (.int .i64 y):=by
      rw[<-x4];exact World.cell?_of_block (w:=w2) (a:=⟨gk,off+i,none⟩) (h6.out.kp gk k3.1 k3.2)
     have z8:gk<wr.heap.size:=Nat.lt_of_lt_of_le k3.1 h6.out.low.size;have CL:=Lib.hid (y7.out wr mi y v8.out (by have:=x0.out;have:=z7.out;have:=HU.out;omega))
     have r8:Hid (K.drop i=y ::K.drop (i+1)):=by
      have q9:=(List.getElem?_eq_some_iff.1 hy).1;rw[List.getElem?_eq_getElem q9]at hy;injection hy with h2
      show _=_;rw[List.drop_eq_getElem_cons q9,h2]
     obtain⟨⟨rr,m4⟩,r2⟩:∃q,lpF ns c mi y=q:=⟨_,rfl⟩
     rw[r2]at CL;have k8:=Lib.hid r2;clear r2 hy x2 x4 k3
     go_wp2_with (go_at_call 219;refine CL.out.mono ?_;rintro _ w4 ⟨rfl,y1,x5⟩;have v7:=Lib.hid y1;have r7:=Lib.hid x5;clear y1 x5)
     .rename_i V
      have V:rr=true:=V;subst V;go_returns
      have e:lpF ns (c+1) mk x=(true,m4):=by
       rw[h9.out,k7.out,r8.out,jSM k8.out];rfl
      rw[e];exact⟨rfl,v7.out,((r6.out.trans ⟨r4.out,fun g hg _=>k6.out g hg⟩).trans h6.out).trans r7.out⟩
     .rename_i V
      have V:rr=false:=V;subst V
      go_roundg (Y-(i+1))
      case measure=>omega
      case rel=>
       refine⟨i+1,m4,by omega,rfl,by go_num,v7.out,?_,h6.out.trans r7.out,?_⟩
       .have:=(jSO ns c mi y).2
        rw[k8.out]at this;have:=x0.out
        dsimp only at *
        omega
       .rw[k7.out,r8.out,jSM k8.out]
        rfl
    .have:i=Y:=by omega
     subst this;have J:=v8.out;have s1:wr.cell? ⟨sb,1,none⟩=some (.slice (some ⟨gm,0,none⟩) n n):=(cell_of J.b 1).trans rfl;have y2:=jKi J.b;have z8:=jKi J.m
     obtain⟨y,hy⟩:∃y,mi[l]? =some y:=⟨_,List.getElem?_eq_getElem (by rw[J.n];exact hl)⟩
     have cz:wr.cell? ⟨gm,l,none⟩=some (.int .i64 y):=(cell_of J.m l).trans (jPQ hy);have yz:wr.frozen? ⟨gm,l,none⟩=false:=fr0 J.m l;obtain⟨Z,p2⟩:=J.set E.out l 2;have y9:=Lib.hid Z;have z1:=Lib.hid p2;clear Z p2 J hy
     go_wp2_with fail
     go_returns
     have e:lpF ns (c+1) mk x=(false,mi.set l 2):=by
      rw[h9.out,k7.out,List.drop_eq_nil_of_le (by rw[r9.out];exact Nat.le_refl _)];rfl
     rw[e];exact⟨rfl,y9.out,((r6.out.trans ⟨r4.out,fun g hg _=>k6.out g hg⟩).trans h6.out).trans z1.out⟩
  .have u3:(z == 0)=false:=by rw[beq_eq_false_iff_ne];exact k5
   have u4:(z != 0)=true:=by rw[bne_iff_ne];exact k5
   have HL:Hid (lpF ns (c+1) mk x=(decide (z=1),mk)):=by
    show _=_;rw[lpF,HP.out,h7.out,if_pos ⟨by omega,by omega⟩,k2,if_neg k5]
   have HZ:=Lib.hid hz
   obtain⟨rz,H2⟩:∃rz,(z == 1)=rz:=⟨_,rfl⟩
   have HR:Hid (decide (z=1)=rz):=by
    show _=_;rw[<-H2]
    by_cases e:z=1 <;> simp[e]
   clear k2 hz
   go_enter Tryz.func219,Tryz.ntmps219
   go_wp2_with (go_at_call 230;refine CF.out.mono ?_;rintro _ w1 ⟨rfl,O,G⟩;have B:=Sw.on E.out HS.out G;have s1:w1.cell? ⟨sb,1,none⟩=some (.slice (some ⟨gm,0,none⟩) n n):=(cell_of B.b 1).trans rfl;have cz:w1.cell? ⟨gm,l,none⟩=some (.int .i64 z):=(cell_of B.m l).trans (jPQ HZ.out);have h5:=jKi B.b;have k9:=jKi B.m;have P:=Lib.hid B;clear B)
   go_returns;rw[HL.out,HR.out];exact⟨rfl,P.out,O,fun g hg _=>G g hg⟩
 .have u0:lpF ns (c+1) mk x=(false,mk):=by
   simp only[lpF];rw[HP.out,h7.out,if_neg h0]
  have HL:=Lib.hid u0;clear u0
  by_cases h1:p<0
  .have u1:decide (p<(0:Int))=true:=by simpa using h1
   go_enter Tryz.func219,Tryz.ntmps219
   go_wp2_with (go_at_call 230;refine CF.out.mono ?_;rintro _ w1 ⟨rfl,O,G⟩;have B:=Sw.on E.out HS.out G;have s1:w1.cell? ⟨sb,1,none⟩=some (.slice (some ⟨gm,0,none⟩) n n):=(cell_of B.b 1).trans rfl;have h5:=jKi B.b;have P:=Lib.hid B;clear B)
   go_returns;rw[HL.out];exact⟨rfl,P.out,O,fun g hg _=>G g hg⟩
  .have u1:decide (p<(0:Int))=false:=by simpa using h1
   have u2:decide (((n:Nat):Int)<=p)=true:=by simp;omega
   go_enter Tryz.func219,Tryz.ntmps219
   go_wp2_with (go_at_call 230;refine CF.out.mono ?_;rintro _ w1 ⟨rfl,O,G⟩;have B:=Sw.on E.out HS.out G;have s1:w1.cell? ⟨sb,1,none⟩=some (.slice (some ⟨gm,0,none⟩) n n):=(cell_of B.b 1).trans rfl;have h5:=jKi B.b;have P:=Lib.hid B;clear B)
   go_returns;rw[HL.out];exact⟨rfl,P.out,O,fun g hg _=>G g hg⟩
theorem jEY (sc:Sc ns A k o F arr ty fz sb gm n N):∀c,LC ns A k o F arr ty fz sb gm n c
 |0=>fun W mk x _ h=>absurd h (Nat.not_lt_zero _)
 |c+1=>jEX sc (jEY sc c)
end
end V
end Go.Proofs.YtnhbcdnmfafbiaaGreatDoor
