import Derived.Test.YtnhbcdnmfafbiaaGreatDoorM12
set_option linter.unusedVariables false
set_option linter.unusedSimpArgs false
set_option maxHeartbeats 20000000
namespace Go.Proofs.YtnhbcdnmfafbiaaGreatDoor
namespace V
open Go.RowKit
variable {T:Tb}
theorem Does.callsR (B:∀k,T.gl k=none) {f:Nat}{xs:List Av}{l:List C}{rs:List Arg}(h:Does T f (.br l ::xs.map Arg.pl) rs []) {w:World}{A:Nat->Prop}(V:∀k,A k->k<w.heap.size) {k o:Nat}{F:List Nat}{arr:Array Value}{ty:TypeId}{fz:Nat × Nat}(Y:Lie false w A k o l F arr ty fz) (J:(k ::F).Nodup) {vs:List Value}(hl:vs.length=xs.length) (hv:∀(i:Nat) (x:Av) (v:Value),xs[i]? =some x->vs[i]? =some v->PV w A x v) (hx:∀x ∈ xs,nms x=[]/\jKg x=true):Calls T.P f (.pointer (some ⟨k,o,none⟩) ::vs).toArray w fun e w'=>∃v A' mo fp,e= .returned v/\Below 0 w w'/\(∀g,g<w.heap.size->w'.heap[g]? =w.heap[g]?)/\(∀k,A k->A' k)/\(∀k,A' k->k<w'.heap.size)/\(∀k,A' k->A k\/w.heap.size<=k)/\TV w' A' mo fp (jKe RK rs) v:=by
 have hk:∀{j R},lkr T [(0,(⟨3,l⟩:Rt))] j=some R->j=0/\R=⟨3,l⟩:=fun {j R} h=>by
  simp only[lkr]at h
  split at h
  .rename_i e;cases h;exact⟨e.symm,rfl⟩
  .rw[B]at h;cases h
 have eR:∀(ys:List Av) (i:Nat),jKb i (ys.map Arg.pl)=[]:=jNl
 have hE:entry (.br l ::xs.map Arg.pl)=⟨(0,.pa ⟨0,0,[]⟩) ::jJ1 1 (xs.map Arg.pl),[(0,⟨3,l⟩)]⟩:=by
  show(⟨_,(0,⟨3,l⟩) ::jKb 1 (xs.map Arg.pl)⟩:St)=_;rw[eR];rfl
 let c:Cf:=⟨w,A,⟨(0,.pa ⟨0,0,[]⟩) ::jJ1 1 (xs.map Arg.pl),[(0,⟨3,l⟩)]⟩,fun _=>⟨k,o,(arr.toList.drop o).take l.length,arr,ty,fz⟩,fun j=>if j=0 then k ::F else[],fun t=>(Value.pointer (some ⟨k,o,none⟩) ::vs).getD t undef,[]⟩
 have ok:Ok T c:=by
  refine⟨⟨⟨fun j R h=>?_,fun j R h=>?_,fun j R h ho=>?_,fun j j' R R' hn h h'=>?_,fun t=>?_,fun j h=>?_,fun g cs h=>?_⟩,List.nodup_nil,fun g h=>(by cases h),fun g h=>(by cases h),fun g h=>(by cases h)⟩,V⟩
  .obtain⟨rfl,rfl⟩:=hk h
   show jJM w A ⟨3,l⟩ ⟨k,o,(arr.toList.drop o).take l.length,arr,ty,fz⟩ (k ::F);unfold jJM;rw[if_neg (by simp),if_neg (by simp[isV])];exact⟨F,arr,rfl,Y,rfl,rfl,fun _ _=>rfl,fun h=>by simp at h⟩
  .obtain⟨rfl,rfl⟩:=hk h;exact J
  .obtain⟨rfl,rfl⟩:=hk h;cases ho
  .exact absurd ((hk h).1.trans (hk h').1.symm) hn
  .show TV w A _ _ (if 0=t then _ else lkt (jJ1 1 (xs.map Arg.pl)) t) _
   split
   .rename_i e
    subst e;exact⟨k,o,fun w' _=>rfl,rfl⟩
   .rename_i e
    rw[jNd,if_pos (by omega),List.getElem?_map]
    cases hxt :xs[t-1]? with
    |none=>trivial
    |some x=>
     have E:t-1<vs.length:=by rw[hl];exact(List.getElem?_eq_some_iff.1 hxt).1
     have G:=hv (t-1) x vs[t-1] hxt (List.getElem?_eq_getElem E);simp only[Option.map_some,jNy]
     have O:(Value.pointer (some ⟨k,o,none⟩) ::vs).getD t undef=vs[t-1]:=by
      obtain⟨m,rfl⟩:∃m,t=m+1:=⟨t-1,by omega⟩
      rw[List.getD_eq_getElem?_getD,List.getElem?_cons_succ];simp only[Nat.add_sub_cancel]at E ⊢;rw[List.getElem?_eq_getElem E];rfl
     show TV w A _ _ x ((Value.pointer (some ⟨k,o,none⟩) ::vs).getD t undef);rw[O];have h4:=(hx x (List.mem_of_getElem? hxt)).2;unfold PV at G
     cases x <;> first|exact G|(exact absurd h4 (by simp[jKg]))
  .show(if j=0 then k ::F else[])=[]
   rw[if_neg];rintro rfl;rw[show lkr T c.st.rt 0=some ⟨3,l⟩ from rfl]at h;cases h
  .rw[B]at h;cases h
 have M:∀g,¬Ow T c g:=fun g h=>by
  rcases h with⟨r,R,G,h2,h3⟩|h
  .obtain⟨rfl,rfl⟩:=hk G;cases h2
  .cases h
 have Z:=h.2 c ok hE.symm rfl (fun t E=>by
  show(Value.pointer (some ⟨k,o,none⟩) ::vs).getD t undef=undef
  rw[List.getD_eq_getElem?_getD,List.getElem?_eq_none (by simp at E ⊢;omega)];rfl)
 have h5:((List.range (Arg.br l ::xs.map Arg.pl).length).map c.a)=Value.pointer (some ⟨k,o,none⟩) ::vs:=by
  apply List.ext_getElem?;intro i;rw[List.getElem?_map]
  by_cases hi:i<(Value.pointer (some ⟨k,o,none⟩) ::vs).length
  .rw[List.getElem?_range (by simp at hi ⊢;omega),List.getElem?_eq_getElem hi]
   show some ((Value.pointer (some ⟨k,o,none⟩) ::vs).getD i undef)=_;rw[List.getD_eq_getElem?_getD,List.getElem?_eq_getElem hi];rfl
  .rw[List.getElem?_eq_none (by simp at hi ⊢;omega),List.getElem?_eq_none (by omega)];rfl
 rw[h5]at Z;refine Z.mono ?_;rintro e w' ⟨c',v,a1,a2,a3,a4,a5,a6,a7⟩;subst a2;refine⟨v,c'.A,c'.mo,c'.fp,a1,a4.low,fun g O=>a4.kp g O (M g),a4.fa,a3.al,fun j hj=>?_,?_⟩
 .rcases a4.fb j hj with h|h|h
  .exact .inl h
  .exact absurd h (M j)
  .exact .inr h
 .have:=a3.sx.sr.tms RK
  rw[a7,a5]at this;simpa[jKl,lkt] using this
end V
end Go.Proofs.YtnhbcdnmfafbiaaGreatDoor
