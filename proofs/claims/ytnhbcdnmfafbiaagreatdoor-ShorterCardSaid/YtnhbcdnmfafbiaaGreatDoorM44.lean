import Derived.Test.YtnhbcdnmfafbiaaGreatDoorM12
set_option linter.unusedVariables false
set_option linter.unusedSimpArgs false
set_option maxHeartbeats 20000000
namespace Go.Proofs.YtnhbcdnmfafbiaaGreatDoor
namespace V
open Go.RowKit
variable {T:Tb}
structure Jbv (T:Tb) (w:World) (A:Nat->Prop):Prop where
 v:∀g cs,T.gl (1000000+g)=some cs->∃arr ty fz,w.heap[g]? =some (.cells arr ty fz)/\arr.size=cs.length/\RL w A cs arr.toList []
theorem Jbb {k:Nat}{R:Rt}(h:lkr T [] k=some R):∃g cs,k=1000000+g/\T.gl (1000000+g)=some cs/\R=⟨3,cs⟩:=by
 simp only[lkr]at h
 cases hg :T.gl k with
 |none=>rw[hg]at h;cases h
 |some cs=>
  rw[hg]at h;cases h
  have hk:1000000<=k:=by
   rcases Nat.lt_or_ge k 1000000 with q|q
   .rw[T.gl0 k q]at hg;cases hg
   .exact q
  have e:1000000+(k-1000000)=k:=by omega
  exact⟨k-1000000,cs,e.symm,by rw[e];exact hg,rfl⟩
theorem rtV {w:World}{A:Nat->Prop}{g:Nat}{cs:List C}{arr:Array Value}{ty:TypeId}{fz:Nat × Nat}(B:w.heap[g]? =some (.cells arr ty fz)) (h2:arr.size=cs.length) (E:RL w A cs arr.toList []):jJM w A ⟨3,cs⟩ ⟨g,0,arr.toList,arr,ty,fz⟩ [g]:=by
 unfold jJM;rw[if_neg (by simp),if_neg (by simp[isV])];have G:(arr.toList.drop 0).take cs.length=arr.toList:=by rw[List.drop_zero,List.take_of_length_le (by rw[Array.length_toList,h2];exact Nat.le_refl _)]
 exact⟨[],arr,rfl,⟨B,fun e=>(by cases e),by show 0+cs.length<=_;omega,by show RL w A cs ((arr.toList.drop 0).take cs.length) [];rw[G];exact E⟩,G.symm,rfl,fun _ _=>rfl,fun e=>by cases e⟩
def VP (T:Tb) (w:World) (A:Nat->Prop) (k:Nat) (q:Mo × List Nat):Prop:=(∀g cs,k=1000000+g->T.gl k=some cs->∃arr ty fz,w.heap[g]? =some (.cells arr ty fz)/\arr.size=cs.length/\RL w A cs arr.toList []/\q.1=⟨g,0,arr.toList,arr,ty,fz⟩/\q.2=[g])/\(T.gl k=none->q.2=[])
theorem Jbv.fn {w:World}{A:Nat->Prop}(E:Jbv T w A):∃q:Nat->Mo × List Nat,∀k,VP T w A k (q k):=by
 have h:∀k,∃q:Mo × List Nat,VP T w A k q:=fun k=>by
  cases hg :T.gl k with
  |none=>exact⟨(m0,[]),fun g cs _ h=>(by rw[hg]at h;cases h),fun _=>rfl⟩
  |some cs=>
   obtain⟨g,B,e,_,_⟩:=Jbb (T:=T) (k:=k) (R:=⟨3,cs⟩) (by simp only[lkr,hg]);obtain⟨arr,ty,fz,J,h2,M⟩:=E.v g cs (by rw[<-e];exact hg);refine⟨(⟨g,0,arr.toList,arr,ty,fz⟩,[g]),fun g' B e' h=>?_,fun h=>(by rw[hg]at h;cases h)⟩;have G:g'=g:=Nat.add_left_cancel (e'.symm.trans e);rw[hg]at h;cases h;subst G;exact⟨arr,ty,fz,J,h2,M,rfl,rfl⟩
 exact⟨fun k=>(h k).choose,fun k=>(h k).choose_spec⟩
theorem JfY {xs:List Av}{w:World}{A:Nat->Prop}(P:∀k,A k->k<w.heap.size) {q:Nat->Mo × List Nat}(G:∀k,VP T w A k (q k)) {vs:List Value}(hl:vs.length=xs.length) (V:∀(i:Nat) (x:Av) (v:Value),xs[i]? =some x->vs[i]? =some v->∀mo fp,TV w A mo fp x v) :
 Ok T ⟨w,A,⟨jJ1 0 (xs.map Arg.pl),[]⟩,fun k=>(q k).1,fun k=>(q k).2,fun t=>vs.getD t undef,[]⟩/\(∀g,¬Ow T ⟨w,A,⟨jJ1 0 (xs.map Arg.pl),[]⟩,fun k=>(q k).1,fun k=>(q k).2,fun t=>vs.getD t undef,[]⟩ g)/\(∀t,(xs.map Arg.pl).length<=t->vs.getD t undef=undef)/\((List.range (xs.map Arg.pl).length).map fun t=>vs.getD t undef)=vs:=by
 refine⟨?_,fun g h=>?_,fun t M=>?_,?_⟩
 .refine⟨⟨⟨fun k R h=>?_,fun k R h=>?_,fun k R h ho=>?_,fun k k' R R' _ h _ ho=>?_,fun t=>?_,fun k h=>?_,fun g cs h=>?_⟩,List.nodup_nil,fun g h=>(by cases h),fun g h=>(by cases h),fun g h=>(by cases h)⟩,P⟩
  .obtain⟨g,cs,rfl,hg,rfl⟩:=Jbb h
   obtain⟨arr,ty,fz,E,h2,O,B,J⟩:=(G _).1 g cs rfl hg;have z:=rtV (A:=A) E h2 O;rw[<-B,<-J]at z;exact z
  .obtain⟨g,cs,rfl,hg,rfl⟩:=Jbb h
   obtain⟨arr,ty,fz,E,h2,O,B,J⟩:=(G _).1 g cs rfl hg;have z:[g].Nodup:=List.nodup_cons.2 ⟨List.not_mem_nil,List.nodup_nil⟩;rw[<-J]at z;exact z
  .obtain⟨g,cs,rfl,hg,rfl⟩:=Jbb h;cases ho
  .obtain⟨g,cs,rfl,hg,rfl⟩:=Jbb h;cases ho
  .show TV w A _ _ (lkt (jJ1 0 (xs.map Arg.pl)) t) _
   rw[jNd,if_pos (Nat.zero_le t),Nat.sub_zero,List.getElem?_map]
   cases hx :xs[t]? with
   |none=>trivial
   |some x=>
    have M:t<vs.length:=by rw[hl];exact(List.getElem?_eq_some_iff.1 hx).1
    have:=V t x vs[t] hx (List.getElem?_eq_getElem M);simp only[Option.map_some,jNy];rw[List.getD_eq_getElem?_getD,List.getElem?_eq_getElem M];exact this _ _
  .refine(G k).2 ?_
   have h:lkr T [] k=none:=h;simp only[lkr]at h
   cases hg :T.gl k with
   |none=>rfl
   |some cs=>rw[hg]at h;cases h
  .obtain⟨arr,ty,fz,E,h2,O,B,J⟩:=(G _).1 g cs rfl h
   exact⟨congrArg Mo.k B,congrArg Mo.o B,(congrArg (fun m:Mo=>m.a0.size) B).trans h2⟩
 .rcases h with⟨r,R,E,h2,_⟩|h
  .obtain⟨g,cs,rfl,hg,rfl⟩:=Jbb E;cases h2
  .cases h
 .rw[List.length_map]at M
  rw[List.getD_eq_getElem?_getD,List.getElem?_eq_none (by omega)];rfl
 .apply List.ext_getElem?
  intro i;rw[List.getElem?_map,List.length_map,<-hl]
  by_cases hi:i<vs.length
  .rw[List.getElem?_range hi,List.getElem?_eq_getElem hi]
   simp[hi]
  .rw[List.getElem?_eq_none (by simp;omega),List.getElem?_eq_none (by omega)];rfl
theorem Does.callsV {f:Nat}{xs:List Av}{rs:List Arg}(h:Does T f (xs.map Arg.pl) rs []) {w:World}{A:Nat->Prop}(B:∀k,A k->k<w.heap.size) (E:Jbv T w A) {vs:List Value}(hl:vs.length=xs.length) (M:∀(i:Nat) (x:Av) (v:Value),xs[i]? =some x->vs[i]? =some v->∀mo fp,TV w A mo fp x v):Calls T.P f vs.toArray w fun e w'=>∃v A' mo fp,e= .returned v/\Below w.heap.size w w'/\TV w' A' mo fp (jKe RK rs) v:=by
 have hE:entry (xs.map Arg.pl)=⟨jJ1 0 (xs.map Arg.pl),[]⟩:=by unfold entry;rw[jNl]
 obtain⟨q,Z⟩:=E.fn;obtain⟨ok,J,hu,O⟩:=JfY (T:=T) B Z hl M;have G:=h.2 _ ok hE.symm rfl hu;simp only[O]at G;refine G.mono ?_;rintro e w' ⟨c',v,V,a2,a3,a4,a5,a6,Y⟩;subst a2;have l:=a4.low;refine⟨v,c'.A,c'.mo,c'.fp,V,⟨l.os,l.tape,l.output,l.size,fun g hg=>a4.kp g hg (J g)⟩,?_⟩;have:=a3.sx.sr.tms RK;rw[Y,a5]at this;exact this
end V
end Go.Proofs.YtnhbcdnmfafbiaaGreatDoor
