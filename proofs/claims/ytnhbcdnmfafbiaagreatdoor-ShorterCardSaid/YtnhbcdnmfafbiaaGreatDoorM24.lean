import Derived.Test.YtnhbcdnmfafbiaaGreatDoorM23
set_option linter.unusedVariables false
set_option linter.unusedSimpArgs false
set_option maxHeartbeats 20000000
namespace Go.Proofs.YtnhbcdnmfafbiaaGreatDoor
namespace V
def br1 (u:List Wd):List Wd:=wK 23 ::(u ++[wK 24])
mutual
def bar:Te->List Wd
 | .n k w m ns ks=>brF k w m ns (mis k 0 ks)
def mi:Nat->Te->List Wd
 |r,.n k w m ns ks=>if r<=rk k then brF k w m ns (mis k 0 ks) else br1 (brF k w m ns (mis k 0 ks))
def mis:Int->Nat->List Te->List (List Wd)
 |_,_,[]=>[]
 |k,i,t ::ts=>mi (wnt k i) t ::mis k (i+1) ts
end
def rkT:Te->Nat
 | .n k _ _ _ _=>rk k
theorem Jbn (r:Nat) (t:Te):mi r t=if r<=rkT t then bar t else br1 (bar t):=by
 cases t;rw[mi,bar,rkT]
theorem Jbm (k:Int):∀(i:Nat) (ts:List Te),(mis k i ts).length=ts.length
 |i,[]=>by rw[mis];rfl
 |i,t ::ts=>by rw[mis,List.length_cons,List.length_cons,Jbm k (i+1) ts]
theorem JbD (k:Int):∀(i:Nat) (ts:List Te) (j:Nat) {t:Te},ts[j]? =some t->(mis k i ts)[j]? =some (mi (wnt k (i+j)) t)
 |i,t' ::ts,0,t,h=>by cases h;rw[mis];rfl
 |i,t' ::ts,j+1,t,h=>by
  rw[mis];have:=JbD k (i+1) ts j (t:=t) h;rw[show i+(j+1)=i+1+j by omega];exact this
theorem Gr.mi' {d:Int}{r:Nat}{t:Te}{u:List Wd}(h:Gr d r t u):Gr d (rkT t) t (bar t)/\(rkT t<r->0<d/\Gr (d-1) (rkT t) t (bar t)):=by
 induction h with
 |@nd d k w m ns ks us sh hd hl hk0 ih=>
  refine⟨?_,fun h=>absurd h (Nat.lt_irrefl _)⟩;rw[bar];refine .nd sh hd (Jbm k 0 ks) fun i t v a b=>?_;rw[JbD k 0 ks i a,Nat.zero_add]at b;cases b;have hi:i<us.length:=by rw[hl];exact(List.getElem?_eq_some_iff.1 a).1
  have g:=ih i t us[i] a (List.getElem?_eq_getElem hi);rw[Jbn]
  split
  .rename_i hr;exact .up hr g.1
  .rename_i hr
   have B:=g.2 (by omega);exact .up ((hk0 i t us[i] a (List.getElem?_eq_getElem hi)).le7) (.br B.1 (.up (Nat.zero_le _) B.2))
 |up h _ ih=>exact⟨ih.1,fun hr=>ih.2 (by omega)⟩
 |br h _ ih=>exact⟨ih.1.mono (by omega),fun _=>⟨h,ih.1⟩⟩
theorem Gr.mi {d:Int}{r:Nat}{t:Te}{u:List Wd}(h:Gr d r t u):Gr d r t (mi r t):=by
 have g:=h.mi';rw[Jbn]
 split
 .rename_i hr;exact .up hr g.1
 .rename_i hr
  have B:=g.2 (by omega);exact .up h.le7 (.br B.1 (.up (Nat.zero_le _) B.2))
def bl (k:Int):Nat:=if k<18 then 1 else 0
theorem Jau (k:Int):bl k<=1:=by unfold bl;split <;> omega
def lk:List Wd->Int
 |[]=>0
 |[w]=>w.k
 |_ ::r=>lk r
def W0 (z:Wd->Nat):List Wd->Nat
 |[]=>0
 |[w]=>z w
 |w ::v ::r=>z w+min (bl w.k) (bl v.k)+W0 z (v ::r)
theorem JaY (x:List Wd) {y:List Wd}(h:y≠[]):lk (x ++y)=lk y:=by
 induction x with
 |nil=>rfl
 |cons w x ih=>
  rw[List.cons_append];have n:x ++y≠[]:=fun e=>h (List.append_eq_nil_iff.1 e).2;rw[<-ih]
  cases e :x ++y with
  |nil=>exact absurd e n
  |cons=>rfl
theorem jUp (z:Wd->Nat) {x y:List Wd}(hx:x≠[]) (hy:y≠[]):W0 z (x ++y)=W0 z x+min (bl (lk x)) (bl (hk y))+W0 z y:=by
 induction x with
 |nil=>exact absurd rfl hx
 |cons w x ih=>
  cases x with
  |nil=>
   cases y with
   |nil=>exact absurd rfl hy
   |cons v y=>rfl
  |cons v x=>
   have:=ih (by simp);show z w+min (bl w.k) (bl v.k)+W0 z (v ::x ++y)=z w+min (bl w.k) (bl v.k)+W0 z (v ::x)+min (bl (lk (v ::x))) (bl (hk y))+W0 z y;omega
structure S2 (z:Wd->Nat) (x' x:List Wd):Prop where
 n1:x'≠[]
 n2:x≠[]
 le:W0 z x'+(bl (hk x')-bl (hk x))+(bl (lk x')-bl (lk x))<=W0 z x
def S3 (z:Wd->Nat) (x' x:List Wd):Prop:=(x'=[]/\x=[])\/S2 z x' x
section
variable {z:Wd->Nat}
theorem S3.refl (x:List Wd):S3 z x x:=by
 by_cases h:x=[]
 .exact .inl ⟨h,h⟩
 .exact .inr ⟨h,h,by omega⟩
theorem S2.app {B x E y:List Wd}(h:S2 z B x) (h2:S2 z E y):S2 z (B ++E) (x ++y):=by
 refine⟨by simp[h.n1],by simp[h.n2],?_⟩;rw[jUp z h.n1 h2.n1,jUp z h.n2 h2.n2,jqz h.n1,jqz h.n2,JaY _ h2.n1,JaY _ h2.n2];have a:=h.le;have b:=h2.le;have:=Jau (hk B);have:=Jau (hk x);have:=Jau (lk B);have:=Jau (lk x);have:=Jau (hk E);have:=Jau (hk y);have:=Jau (lk E);have:=Jau (lk y);omega
theorem S3.app {B x E y:List Wd}(h:S3 z B x) (h2:S3 z E y):S3 z (B ++E) (x ++y):=by
 rcases h with⟨rfl,rfl⟩|h
 .exact h2
 .rcases h2 with⟨rfl,rfl⟩|h2
  .rw[List.append_nil,List.append_nil];exact .inr h
  .exact .inr (h.app h2)
theorem S2.brk {B x:List Wd}(h:S2 z B x) (E:z (wK 23)=1) (h2:z (wK 24)=1):S2 z B (br1 x):=by
 refine⟨h.n1,by simp[br1],?_⟩
 have J:W0 z (br1 x)=1+W0 z x+1:=by
  show W0 z ([wK 23] ++(x ++[wK 24]))=_;rw[jUp z (by simp) (by simp),jUp z h.n2 (by simp)];have G:W0 z [wK 23]=1:=E;have a2:W0 z [wK 24]=1:=h2;have a3:bl (lk [wK 23])=0:=rfl;have a4:bl (hk [wK 24])=0:=rfl;rw[G,a2,a3,a4];omega
 have a:=h.le;have:=Jau (hk B);have:=Jau (lk B);rw[J];omega
end
structure Rl2 (R:List Wd->List Wd->Prop):Prop where
 refl:∀x,R x x
 app:∀{x' x y' y},R x' x->R y' y->R (x' ++y') (x ++y)
 brk:∀{x' x},x'≠[]->x≠[]->R x' x->R x' (br1 x)
section
variable {R:List Wd->List Wd->Prop}(H:Rl2 R)
include H
theorem Rl2.cons {w:Wd}{B x:List Wd}(h:R B x):R (w ::B) (w ::x):=H.app (H.refl [w]) h
theorem Rl2.jn {s:List Wd}:∀{us' us:List (List Wd)},us'.length=us.length->(∀(i:Nat) (x' x:List Wd),us'[i]? =some x'->us[i]? =some x->R x' x)->R (V.jn s us') (V.jn s us)
 |[],[],_,_=>H.refl _
 |[a'],[a],_,h=>h 0 a' a rfl rfl
 |a' ::b' ::us',a ::b ::us,hl,h=>by
  rw[Jax,Jax];exact H.app (h 0 a' a rfl rfl) (H.app (H.refl s) (Rl2.jn (by simp at hl ⊢;exact hl) fun i x' x p q=>h (i+1) x' x p q))
 |[],_ ::_,hl,_=>absurd hl (by simp)
 |_ ::_,[],hl,_=>absurd hl (by simp)
 |[_],_ ::_ ::_,hl,_=>absurd hl (by simp)
 |_ ::_ ::_,[_],hl,_=>absurd hl (by simp)
theorem Rl2.brF {k w m:Int}{ns:List ByteArray}{B us:List (List Wd)}(hl:B.length=us.length) (h:∀(i:Nat) (x' x:List Wd),B[i]? =some x'->us[i]? =some x->R x' x):R (V.brF k w m ns B) (V.brF k w m ns us):=by
 have a:∀i,R (ua B i) (ua us i):=fun i=>by
  unfold ua
  by_cases hi:i<us.length
  .have:=h i B[i] us[i] (List.getElem?_eq_getElem (by omega)) (List.getElem?_eq_getElem hi)
   rw[List.getElem?_eq_getElem hi,List.getElem?_eq_getElem (show i<B.length by omega)];exact this
  .rw[List.getElem?_eq_none (by omega),List.getElem?_eq_none (by omega)];exact H.refl _
 have j:∀s,R (V.jn s B) (V.jn s us):=fun s=>H.jn hl h;unfold V.brF
 split
 .exact H.refl _
 .split
  .exact H.refl _
  .split
   .exact H.cons (H.app (j _) (H.refl _))
   .split
    .exact H.cons (H.app (H.refl _) (H.cons (H.app (a 0) (H.cons (a 1)))))
    .split
     .exact H.cons (H.app (a 0) (H.cons (H.app (a 1) (H.cons (a 2)))))
     .split
      .exact H.cons (H.app (H.refl _) (H.cons (a 0)))
      .split
       .exact j _
       .split
        .exact H.app (j _) (H.refl _)
        .exact H.app (H.refl _) (j _)
theorem Gr.rel' {d:Int}{r:Nat}{t:Te}{u:List Wd}(h:Gr d r t u):R (bar t) u/\(rkT t<r->R (br1 (bar t)) u):=by
 induction h with
 |@nd d k w m ns ks us sh hd hl hk0 ih=>
  refine⟨?_,fun h=>absurd h (Nat.lt_irrefl _)⟩;rw[bar]
  exact H.brF (by rw[Jbm,hl]) fun i x' x p q=>by
   have hi:i<ks.length:=by rw[<-Jbm k 0 ks];exact(List.getElem?_eq_some_iff.1 p).1
   rw[JbD k 0 ks i (List.getElem?_eq_getElem hi),Nat.zero_add]at p;cases p;have e:=ih i ks[i] x (List.getElem?_eq_getElem hi) q;rw[Jbn]
   split
   .exact e.1
   .exact e.2 (by omega)
 |up h _ ih=>exact⟨ih.1,fun hr=>ih.2 (by omega)⟩
 |br h hg ih=>exact⟨H.brk hg.mi'.1.hd.n hg.hd.n ih.1,fun _=>H.cons (H.app ih.1 (H.refl _))⟩
theorem Gr.rel {d:Int}{r:Nat}{t:Te}{u:List Wd}(h:Gr d r t u):R (V.mi r t) u:=by
 have g:=h.rel' H;rw[Jbn]
 split
 .exact g.1
 .exact g.2 (by omega)
end
theorem Gr.s2 {z:Wd->Nat}(B:z (wK 23)=1) (h2:z (wK 24)=1) {d:Int}{r:Nat}{t:Te}{u:List Wd}(h:Gr d r t u):W0 z (V.mi r t)<=W0 z u:=by
 have g:=h.rel (R:=S3 z) ⟨S3.refl,S3.app,fun n1 n2 h=>.inr ((h.resolve_left fun e=>n1 e.1).brk B h2)⟩;rcases g with⟨E,G⟩|g
 .rw[E,G];exact Nat.le_refl _
 .have:=g.le;omega
theorem Gr.all {P:Wd->Prop}{d:Int}{r:Nat}{t:Te}{u:List Wd}(h:Gr d r t u) (hp:∀w ∈ u,P w):∀w ∈ V.mi r t,P w:=by
 refine h.rel (R:=fun x' x=>(∀w ∈ x,P w)->∀w ∈ x',P w) ⟨fun x h=>h,fun h1 h2 h w hw=>?_,fun _ _ h hx=>h fun w hw=>hx w ?_⟩ hp
 .rcases List.mem_append.1 hw with hw|hw
  .exact h1 (fun w hw=>h w (List.mem_append_left _ hw)) w hw
  .exact h2 (fun w hw=>h w (List.mem_append_right _ hw)) w hw
 .exact List.mem_cons_of_mem _ (List.mem_append_left _ hw)
def ex2 (k:Int):Nat:=if k=9 then 24 else if k=8\/k=10\/k=12 then 12 else 0
mutual
def pw:Te->Nat
 | .n k w m ns ks=>5+2*ns.length+ks.length+ex2 k+pws ks
def pws:List Te->Nat
 |[]=>0
 |t ::ts=>pw t+pws ts
end
def sln:List (List Wd)->Nat
 |[]=>0
 |u ::us=>u.length+sln us
theorem JbJ (s:List Wd):∀us:List (List Wd),(jn s us).length=sln us+s.length*(us.length-1)
 |[]=>rfl
 |[u]=>by simp[jn,sln]
 |u ::v ::us=>by
  rw[Jax,List.length_append,List.length_append,JbJ s (v ::us)];simp only[sln,List.length_cons];rw[show us.length+1+1-1=(us.length+1-1)+1 by omega,Nat.mul_add];omega
theorem Jdc:∀ns:List ByteArray,sln (ns.map fun x=>[sW x])=ns.length
 |[]=>rfl
 |x ::ns=>by simp only[List.map_cons,sln,Jdc ns,List.length_cons,List.length_nil];omega
theorem Jdh:∀{ks:List Te}{us:List (List Wd)},us.length=ks.length->(∀(i:Nat) (t:Te) (u:List Wd),ks[i]? =some t->us[i]? =some u->pw t+7<=14*u.length)->pws ks+7*ks.length<=14*sln us
 |[],[],_,_=>by simp[pws]
 |t ::ks,u ::us,hl,h=>by
  have a:=h 0 t u rfl rfl;have b:=Jdh (ks:=ks) (us:=us) (by simpa using hl) fun i t u p q=>h (i+1) t u p q;rw[pws,sln,List.length_cons];omega
 |[],_ ::_,hl,_=>absurd hl (by simp)
 |_ ::_,[],hl,_=>absurd hl (by simp)
theorem Gr.pw {d:Int}{r:Nat}{t:Te}{u:List Wd}(h:Gr d r t u):V.pw t+7<=14*u.length:=by
 induction h with
 |up h _ ih=>exact ih
 |br h _ ih=>simp only[List.length_cons,List.length_append,List.length_nil];omega
 |@nd d k w m ns ks us sh hd hl hk0 ih=>
  have g:=Jdh hl ih;rw[V.pw];generalize hn:ks.length=n at sh hl g;generalize pws ks=p at g;have B:=JbJ [] us;have E:=fun w=>JbJ [w] us
  have u2:us.length=2->(ua us 0).length+(ua us 1).length=sln us:=fun h=>by
   match us,h with
   |[a,b],_=>simp[ua,sln]
  have u3:us.length=3->(ua us 0).length+(ua us 1).length+(ua us 2).length=sln us:=fun h=>by
   match us,h with
   |[a,b,c],_=>simp[ua,sln];omega
  have u1:us.length=1->(ua us 0).length=sln us:=fun h=>by
   match us,h with
   |[a],_=>simp[ua,sln]
  have G:us.length=0->sln us=0:=fun h=>by
   match us,h with
   |[],_=>rfl
  rw[hl]at B u1 u2 u3 G;simp only[hl,List.length_cons,List.length_nil,Nat.one_mul,Nat.zero_mul]at B E
  cases sh with
  |num|nm|tru|fls|rd|unt=>simp[brF,ex2,kwW,B,G rfl]at g ⊢;omega
  |tup=>simp[brF,ex2,E]at g ⊢;omega
  |let1|letr=>have:=u2 rfl;simp[brF,ex2,lnW]at g ⊢;omega
  |lett=>
   have:=u2 rfl;have:=JbJ [wK 25] (ns.map fun x=>[sW x]);simp only[List.length_map,List.length_cons,List.length_nil,Nat.one_mul]at this;have e:=Jdc ns;simp[brF,ex2,lnW]at g ⊢;omega
  |ite=>have:=u3 rfl;simp[brF,ex2]at g ⊢;omega
  |fn=>have:=u1 rfl;simp[brF,ex2]at g ⊢;omega
  |neg|nt|prn|len|arr|put=>simp[brF,ex2,kwW,B]at g ⊢;omega
  |prd|sum|cmp|seq|idx=>simp[brF,ex2,E]at g ⊢;omega
  |call=>simp[brF,ex2,kwW,B]at g ⊢;omega
end V
end Go.Proofs.YtnhbcdnmfafbiaaGreatDoor
