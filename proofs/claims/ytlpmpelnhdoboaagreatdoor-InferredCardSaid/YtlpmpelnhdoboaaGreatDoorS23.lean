import Derived.Test.YtlpmpelnhdoboaaGreatDoorS21
set_option linter.unusedVariables false
set_option linter.unusedSimpArgs false
set_option maxHeartbeats 20000000
namespace Go.Proofs.YtlpmpelnhdoboaaGreatDoor
namespace Dm
open Go.RowKit Tg
def bV (l:List Bool):List Value:=l.map (.bool ·)
theorem jwG {l:List Bool}{i:Nat}{a:Bool}(h:l[i]? =some a):(bV l)[i]? =some (.bool a):=by unfold bV;rw[Yr,h];rfl
theorem jI0 (l:List Bool) (i:Nat) (a:Bool):bV (l.set i a)=(bV l).set i (.bool a):=by unfold bV;rw[List.map_set]
def gN (gl:List Bool) (x:Nat):Bool:=(gl[x]?).getD true
variable {gl:List Bool}{x:Nat}
theorem jGf {b:Bool}(h:gl[x]? =some b):gN gl x=b:=by unfold gN;rw[h];rfl
theorem jv4 (h:x<gl.length):gl[x]? =some (gN gl x):=by unfold gN;rw[Yb h];rfl
theorem jGe (h:x<gl.length):gN (gl.set x true)=fun y=>if y=x then true else gN gl y:=by
 funext y
 unfold gN
 by_cases e:y=x
 .subst e;rw[List.getElem?_set_self h,if_pos rfl];rfl
 .rw[List.getElem?_set_ne (by omega),if_neg e]
def nb (gl:List Bool):Nat:=gl.countP (fun b=>!b)
theorem jyG:∀{gl:List Bool}{x:Nat},gl[x]? =some false->nb (gl.set x true)+1=nb gl
 |[],x,h=>by cases h
 |b ::r,0,h=>by
  have:b=false:=by simpa using h
  subst this;simp[nb]
 |b ::r,x+1,h=>by
  have:=jyG (gl:=r) (x:=x) (by simpa using h);unfold nb at this ⊢;simp only[List.set_cons_succ,List.countP_cons];omega
theorem jEB (gl:List Bool):nb gl<=gl.length:=List.countP_le_length
section
variable {ts:Inf.Tys}{D:Inf.Dem}{cl:List Nat}{gl:List Bool}
theorem jFR {i h:Nat}(A:cl.length=ts.length) (B:Inf.Hd ts (cf cl) i h):h<cl.length:=by rw[A];exact kd_lt B.2
theorem jGF (B:cl.length=ts.length) (A:Cr cl) (he:∀i j,cf cl i=cf cl j↔Inf.Rel ts D i j):Inf.Fg ts D (cf cl) (gN (List.replicate cl.length false)):=by
 refine⟨fun i hi=>?_⟩
 have C:cl.length<=cf cl i:=by
  rcases Kg (cf cl i) cl.length with h|h
  .exfalso
   rw[jGf (b:=false) (by rw[List.getElem?_replicate,if_pos h])]at hi;cases hi
  .exact h
 refine⟨_,fun j hj=>absurd hj (Inf.sub_none he fun h hh=>?_)⟩;have:=jpU A (jFR B hh);have:=hh.1;omega
theorem jGG {x:Nat}(A:cl.length=ts.length) (B:Cr cl) (he:∀i j,cf cl i=cf cl j↔Inf.Rel ts D i j) (F:¬Inf.Clash ts D) (C:Inf.Fg ts D (cf cl) (gN gl)) (E:gl.length=cl.length) (I:x<cl.length)
 (h:(∀i,cl[i]? =some x->Inf.kd ts i=0)\/∃i,cl[i]? =some x/\Inf.kd ts i≠0/\∀a ∈ Inf.kids ts i,gN gl (cf cl a)=true):Inf.Fg ts D (cf cl) (gN (gl.set x true)):=by
 rw[jGe (by omega)];refine C.more he F fun i hi=>?_
 rcases h with h|⟨g,K,O,H⟩
 .exact .inl (jFQ A (by rw[hi];exact h))
 .exact .inr ⟨g,jvY (by rw[hi];exact K) O,H⟩
theorem jzN (O:cl.length=ts.length) (C:Cr cl) (he:∀i j,cf cl i=cf cl j↔Inf.Rel ts D i j) (A:¬Inf.Clash ts D) (E:Inf.Fg ts D (cf cl) (gN gl)) (I:gl.length=cl.length)
 (h:∀x,x<cl.length->gN gl x=false->∃i,cl[i]? =some x/\Inf.kd ts i≠0/\∃a ∈ Inf.kids ts i,gN gl (cf cl a)=false):(∀i,gN gl (cf cl i)=true)↔Inf.Fin ts D:=by
 refine Inf.fg_end E he A fun i hi=>?_
 cases hb :gN gl (cf cl i) with
 |true=>rfl
 |false=>
  have B:cf cl i<cl.length:=by
   rcases Kg (cf cl i) cl.length with h|h
   .exact h
   .exfalso;unfold gN at hb;rw[Ue (by omega)]at hb;cases hb
  obtain⟨g,R,U,a,K,F⟩:=h _ B hb;have hd:=jvY (i:=i) R U
  rcases hi with hi|⟨W,H,hi⟩
  .exact absurd hd (hi g)
  .obtain⟨a',ha',e⟩:=(Inf.sub_cls he A H).1 ((Inf.sub_cls he A hd).2 ⟨a,K,rfl⟩)
   rw[<-e,hi a' ha']at F;cases F
theorem all_good (C:Cr cl) (B:gl.length=cl.length) (h:∀x,x<gl.length->gN gl x=true):∀i,gN gl (cf cl i)=true:=fun i=>by
 rcases Kg (cf cl i) gl.length with A|A
 .exact h _ A
 .unfold gN;rw[Ue A];rfl
theorem jEv {x i:Nat}(A:cl[i]? =some x) (B:gN gl x=false):¬∀i,gN gl (cf cl i)=true:=fun h=>by
 have:=h i;rw[jqF A,B]at this;cases this
end
end Dm
end Go.Proofs.YtlpmpelnhdoboaaGreatDoor
