import Derived.Test.YtnhbcdnmfafbiaaGreatDoorM11
set_option linter.unusedVariables false
set_option linter.unusedSimpArgs false
set_option maxHeartbeats 20000000
namespace Go.Proofs.YtnhbcdnmfafbiaaGreatDoor
namespace V
open Go.RowKit
variable {T:Tb}
theorem jNl:∀(xs:List Av) (i:Nat),jKb i (xs.map Arg.pl)=[]
 |[],_=>rfl
 |_ ::xs,i=>jNl xs (i+1)
def m0:Mo:=⟨0,0,[],#[],0,(0,0)⟩
def PV (w:World) (A:Nat->Prop) (x:Av) (v:Value):Prop:=TV w A (fun _=>m0) (fun _=>[]) x v
theorem jSf (B:∀k,T.gl k=none) {xs:List Av}{w:World}{A:Nat->Prop}(G:∀k,A k->k<w.heap.size) {vs:List Value}(hl:vs.length=xs.length) (J:∀(i:Nat) (x:Av) (v:Value),xs[i]? =some x->vs[i]? =some v->PV w A x v) :
 Ok T ⟨w,A,⟨jJ1 0 (xs.map Arg.pl),[]⟩,fun _=>m0,fun _=>[],fun t=>vs.getD t undef,[]⟩/\(∀g,¬Ow T ⟨w,A,⟨jJ1 0 (xs.map Arg.pl),[]⟩,fun _=>m0,fun _=>[],fun t=>vs.getD t undef,[]⟩ g)/\(∀t,(xs.map Arg.pl).length<=t->vs.getD t undef=undef)/\((List.range (xs.map Arg.pl).length).map fun t=>vs.getD t undef)=vs:=by
 have hk:∀k,lkr T [] k=none:=fun k=>by simp only[lkr,B k]
 refine⟨?_,fun g h=>?_,fun t E=>?_,?_⟩
 .refine⟨⟨⟨fun k R h=>?_,fun k R h=>?_,fun k R h=>?_,fun k k' R R' _ h=>?_,fun t=>?_,fun k _=>rfl,fun g cs h=>?_⟩,List.nodup_nil,fun g h=>(by cases h),fun g h=>(by cases h),fun g h=>(by cases h)⟩,G⟩
  .rw[hk k]at h;cases h
  .rw[hk k]at h;cases h
  .rw[hk k]at h;cases h
  .rw[hk k]at h;cases h
  .show TV w A _ _ (lkt (jJ1 0 (xs.map Arg.pl)) t) _
   rw[jNd,if_pos (Nat.zero_le t),Nat.sub_zero,List.getElem?_map]
   cases hx :xs[t]? with
   |none=>trivial
   |some x=>
    have E:t<vs.length:=by rw[hl];exact(List.getElem?_eq_some_iff.1 hx).1
    have:=J t x vs[t] hx (List.getElem?_eq_getElem E);simp only[Option.map_some,jNy];rw[List.getD_eq_getElem?_getD,List.getElem?_eq_getElem E];exact this
  .rw[B]at h;cases h
 .rcases h with⟨r,R,h1,_⟩|h
  .rw[hk r]at h1;cases h1
  .cases h
 .rw[List.length_map]at E
  rw[List.getD_eq_getElem?_getD,List.getElem?_eq_none (by omega)];rfl
 .apply List.ext_getElem?
  intro i;rw[List.getElem?_map,List.length_map,<-hl]
  by_cases hi:i<vs.length
  .rw[List.getElem?_range hi,List.getElem?_eq_getElem hi]
   simp[hi]
  .rw[List.getElem?_eq_none (by simp;omega),List.getElem?_eq_none (by omega)];rfl
theorem Does.calls (B:∀k,T.gl k=none) {f:Nat}{xs:List Av}{rs:List Arg}(h:Does T f (xs.map Arg.pl) rs []) {w:World}{A:Nat->Prop}(G:∀k,A k->k<w.heap.size) {vs:List Value}(hl:vs.length=xs.length) (M:∀(i:Nat) (x:Av) (v:Value),xs[i]? =some x->vs[i]? =some v->PV w A x v):Calls T.P f vs.toArray w fun e w'=>∃v A' mo fp,e= .returned v/\Below 0 w w'/\(∀g,g<w.heap.size->w'.heap[g]? =w.heap[g]?)/\(∀k,A k->A' k)/\(∀k,A' k->k<w'.heap.size)/\(∀k,A' k->A k\/w.heap.size<=k)/\TV w' A' mo fp (jKe RK rs) v:=by
 have hE:entry (xs.map Arg.pl)=⟨jJ1 0 (xs.map Arg.pl),[]⟩:=by unfold entry;rw[jNl]
 obtain⟨ok,E,Z,O⟩:=jSf (T:=T) B G hl M;have J:=h.2 _ ok hE.symm rfl Z;simp only[O]at J;refine J.mono ?_;rintro e w' ⟨c',v,V,a2,a3,a4,a5,a6,Y⟩;subst a2;refine⟨v,c'.A,c'.mo,c'.fp,V,a4.low,fun g hg=>a4.kp g hg (E g),a4.fa,a3.al,fun k hk=>?_,?_⟩
 .rcases a4.fb k hk with h|h|h
  .exact .inl h
  .exact absurd h (E k)
  .exact .inr h
 .have:=a3.sx.sr.tms RK
  rw[Y,a5]at this;exact this
end V
end Go.Proofs.YtnhbcdnmfafbiaaGreatDoor
