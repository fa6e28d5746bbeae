import Derived.Test.YtnhbcdnmfafbiaaGreatDoorM24
set_option linter.unusedVariables false
set_option linter.unusedSimpArgs false
set_option maxHeartbeats 20000000
namespace Go.Proofs.YtnhbcdnmfafbiaaGreatDoor
namespace V
def gp (a b:Int):Prop:=a<18\/a=24\/b<18\/b=23\/b=31\/(a=23/\b=24)
def Adj:List Wd->Prop
 |[]=>True
 |[_]=>True
 |a ::b ::r=>gp a.k b.k/\Adj (b ::r)
theorem Adj.app {x y:List Wd}(hx:Adj x) (hy:Adj y) (h:x≠[]->y≠[]->gp (lk x) (hk y)):Adj (x ++y):=by
 induction x with
 |nil=>exact hy
 |cons a x ih=>
  cases x with
  |nil=>
   cases y with
   |nil=>trivial
   |cons b y=>exact⟨h (by simp) (by simp),hy⟩
  |cons b x=>exact⟨hx.1,ih hx.2 fun _ h2=>h (by simp) h2⟩
structure Ak (u:List Wd):Prop where
 n:u≠[]
 a:Adj u
 l:lk u<18\/lk u=24
 h:hk u<18\/hk u=23\/hk u=31
 z:∀w ∈ u,w.k≠0
theorem Jcl {x y:List Wd}(h:∀w ∈ x,w.k≠0) (B:∀w ∈ y,w.k≠0):∀w ∈ x ++y,w.k≠0:=fun w hw=>(List.mem_append.1 hw).elim (h w) (B w)
theorem Jbj {v:Wd}{y:List Wd}(h:v.k≠0) (E:∀w ∈ y,w.k≠0):∀w ∈ v ::y,w.k≠0:=fun w B=>by
 rcases List.mem_cons.1 B with rfl|B
 .exact h
 .exact E w B
theorem Jcm {v:Wd}(h:v.k≠0):∀w ∈ [v],w.k≠0:=Jbj h fun w hw=>by cases hw
theorem Ak.app {x y:List Wd}(hx:Ak x) (hy:Ak y):Ak (x ++y):=⟨by simp[hx.n],hx.a.app hy.a fun _ _=>by have:=hx.l;unfold gp;omega,by rw[JaY _ hy.n];exact hy.l,by rw[jqz hx.n];exact hx.h,Jcl hx.z hy.z⟩
theorem Ak.w {w:Wd}(h:w.k<18) (h0:w.k≠0):Ak [w]:=⟨by simp,trivial,.inl h,.inl h,Jcm h0⟩
theorem Ak.s (x:ByteArray):Ak [sW x]:=Ak.w (show(2:Int)<18 by decide) (show(2:Int)≠0 by decide)
theorem Ak.cw {w:Wd}(h:(w.k<18/\w.k≠0)\/w.k=31) {u:List Wd}(B:Ak u):Ak (w ::u):=⟨by simp,Adj.app (x:=[w]) trivial B.a fun _ _=>by have:=B.h;unfold gp;omega,by rw[show w ::u=[w] ++u from rfl,JaY _ B.n];exact B.l,by show w.k<18\/w.k=23\/w.k=31;omega,Jbj (by omega) B.z⟩
theorem Ak.mid {x y:List Wd}{w:Wd}(h0:w.k≠0) (hx:Ak x) (hy:Ak y):Ak (x ++w ::y):=by
 have a:Adj (w ::y):=Adj.app (x:=[w]) trivial hy.a fun _ _=>by have:=hy.h;unfold gp;omega
 exact⟨by simp,hx.a.app a fun _ _=>by have:=hx.l;unfold gp;omega,by rw[show x ++w ::y=(x ++[w]) ++y by simp,JaY _ hy.n];exact hy.l,by rw[jqz hx.n];exact hx.h,Jcl hx.z (Jbj h0 hy.z)⟩
theorem Ak.cl {x:List Wd}(hx:Ak x):Ak (x ++[wK 24]):=⟨by simp,hx.a.app trivial fun _ _=>by have:=hx.l;unfold gp;omega,by rw[JaY _ (by simp)];exact .inr rfl,by rw[jqz hx.n];exact hx.h,Jcl hx.z (Jcm (by decide))⟩
theorem Ak.op {x:List Wd}(hx:Ak x):Ak (wK 23 ::(x ++[wK 24])):=⟨by simp,Adj.app (x:=[wK 23]) trivial hx.cl.a fun _ _=>by have h:hk (x ++[wK 24])<18\/hk (x ++[wK 24])=23\/hk (x ++[wK 24])=31:=hx.cl.h;show gp 23 (hk (x ++[wK 24]));unfold gp;omega,by rw[show wK 23 ::(x ++[wK 24])=(wK 23 ::x) ++[wK 24] from rfl,JaY _ (by simp)];exact .inr rfl,.inr (.inl rfl),Jbj (by decide) hx.cl.z⟩
theorem Ak.jn {s:List Wd}(hs:s=[]\/∃w:Wd,s=[w]/\w.k≠0):∀{us:List (List Wd)},us≠[]->(∀u ∈ us,Ak u)->Ak (V.jn s us)
 |[],h,_=>absurd rfl h
 |[u],_,h=>h u (by simp)
 |u ::v ::us,_,h=>by
  rw[Jax];have ih:=Ak.jn hs (us:=v ::us) (by simp) fun x hx=>h x (List.mem_cons_of_mem _ hx)
  rcases hs with rfl|⟨w,rfl,h0⟩
  .exact(h u (by simp)).app ih
  .exact(h u (by simp)).mid h0 ih
theorem JdQ:∀l:List ByteArray,jn [] (l.map fun x=>[sW x])=l.map sW
 |[]=>rfl
 |x ::l=>by rw[List.map_cons,Jbe,JdQ l];rfl
theorem Ak.nms {ns:List ByteArray}(h:ns≠[]):Ak (ns.map sW):=by
 rw[<-JdQ ns];refine Ak.jn (.inl rfl) (by simpa using h) fun u hu=>?_;obtain⟨x,_,rfl⟩:=List.mem_map.1 hu;exact Ak.s x
theorem Gr.ak {d:Int}{r:Nat}{t:Te}{u:List Wd}(h:Gr d r t u):Ak u:=by
 induction h with
 |up _ _ ih=>exact ih
 |br _ _ ih=>exact ih.op
 |@nd d k w m ns ks us sh hd hl hk0 ih=>
  have al:∀u ∈ us,Ak u:=fun u hu=>by
   obtain⟨i,hi,rfl⟩:=List.mem_iff_getElem.1 hu;exact ih i ks[i] us[i] (List.getElem?_eq_getElem (by omega)) (List.getElem?_eq_getElem hi)
  generalize ks.length=n at sh hl;have ne:∀{n'},n=n'->1<=n'->us≠[]:=fun e h1 e2=>by subst e;rw[e2]at hl;simp at hl;omega
  cases sh with
  |num m=>exact Ak.w (show(1:Int)<18 by decide) (show(1:Int)≠0 by decide)
  |nm x=>exact Ak.s x
  |tru|fls|rd=>
   match us,hl with
   |[],_=>exact Ak.w (by decide) (by decide)
  |unt=>
   match us,hl with
   |[],_=>exact⟨by decide,⟨.inr (.inr (.inr (.inr (.inr ⟨rfl,rfl⟩)))),trivial⟩,.inr rfl,.inr (.inl rfl),Jbj (by decide) (Jcm (by decide))⟩
  |tup h=>exact(Ak.jn (.inr ⟨_,rfl,by decide⟩) (ne rfl (by omega)) al).op
  |let1 x=>
   match us,hl with
   |[u,v],_=>exact Ak.cw (.inl ⟨by decide,by decide⟩) (Ak.mid (x:=[sW x]) (by decide) (Ak.s x) ((al u (by simp)).mid (by decide) (al v (by simp))))
  |letr h=>
   match us,hl with
   |[u,v],_=>exact Ak.cw (.inl ⟨by decide,by decide⟩) (Ak.mid (by decide) (Ak.cw (.inl ⟨by decide,by decide⟩) (Ak.nms (fun e=>by rw[e]at h;simp at h))) ((al u (by simp)).mid (by decide) (al v (by simp))))
  |lett h=>
   match us,hl with
   |[u,v],_=>exact Ak.cw (.inl ⟨by decide,by decide⟩) (Ak.mid (by decide) (Ak.op (Ak.jn (.inr ⟨_,rfl,by decide⟩) (fun e=>by rw[List.map_eq_nil_iff.1 e]at h;simp at h) fun u hu=>by obtain⟨x,_,rfl⟩:=List.mem_map.1 hu;exact Ak.s x)) ((al u (by simp)).mid (by decide) (al v (by simp))))
  |ite=>
   match us,hl with
   |[u,v,y],_=>exact Ak.cw (.inl ⟨by decide,by decide⟩) ((al u (by simp)).mid (by decide) ((al v (by simp)).mid (by decide) (al y (by simp))))
  |fn h=>
   match us,hl with
   |[u],_=>exact Ak.cw (.inl ⟨by decide,by decide⟩) (Ak.mid (by decide) (Ak.nms (fun e=>by rw[e]at h;simp at h)) (al u (by simp)))
  |neg=>
   match us,hl with
   |[u],_=>exact Ak.cw (.inr rfl) (al u (by simp))
  |nt=>
   match us,hl with
   |[u],_=>exact Ak.cw (.inl ⟨by decide,by decide⟩) (al u (by simp))
  |prd h=>exact Ak.jn (.inr ⟨_,rfl,(JdW h).1⟩) (ne rfl (by omega)) al
  |sum h=>exact Ak.jn (.inr ⟨_,rfl,(JdV h).1⟩) (ne rfl (by omega)) al
  |cmp h=>exact Ak.jn (.inr ⟨_,rfl,(JdY h).1⟩) (ne rfl (by omega)) al
  |seq=>exact Ak.jn (.inr ⟨_,rfl,by decide⟩) (ne rfl (by omega)) al
  |call h=>exact Ak.jn (.inl rfl) (ne rfl (by omega)) al
  |idx=>exact(Ak.jn (.inr ⟨_,rfl,by decide⟩) (ne rfl (by omega)) al).cl
  |prn|len|arr|put=>exact Ak.cw (.inl ⟨by decide,by decide⟩) (Ak.jn (.inl rfl) (ne rfl (by omega)) al)
end V
end Go.Proofs.YtnhbcdnmfafbiaaGreatDoor
