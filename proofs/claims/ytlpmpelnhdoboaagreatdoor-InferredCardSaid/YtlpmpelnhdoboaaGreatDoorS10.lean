import Derived.Test.YtlpmpelnhdoboaaGreatDoorS08
set_option linter.unusedVariables false
set_option linter.unusedSimpArgs false
set_option maxHeartbeats 20000000
namespace Go.Proofs.YtlpmpelnhdoboaaGreatDoor
section
open Go.RowKit Sl
inductive RB (ks:ByteArray):ByteArray->Nat->Nat->UInt8->List UInt8->Bool->List ByteArray->Prop
 |Index_0 (_:(ks.toList == [46,40])=true):RB ks ⟨#[73,110,100,101,120]⟩ 4 120 119 [73,110,100,101,119] true [⟨#[46,40]⟩,⟨#[69,120,112,114]⟩,⟨#[41]⟩,⟨#[73,110,100,101,120]⟩]
 |Index_1 (_:(ks.toList == [46,40])=false):RB ks ⟨#[73,110,100,101,120]⟩ 4 120 119 [73,110,100,101,119] true []
 |Atom_0 (_:(ks.toList == [40])=true):RB ks ⟨#[65,116,111,109]⟩ 3 109 108 [65,116,111,108] true [⟨#[40]⟩,⟨#[66,114,97,99,107,101,116]⟩]
 |Atom_1 (_:(ks.toList == [40])=false) (_:joZ ks=true):RB ks ⟨#[65,116,111,109]⟩ 3 109 108 [65,116,111,108] true [ks]
 |Atom_2 (_:(ks.toList == [40])=false) (_:joZ ks=false):RB ks ⟨#[65,116,111,109]⟩ 3 109 108 [65,116,111,108] false [ks]
 |Bracket_0 (_:(ks.toList == [41])=true):RB ks ⟨#[66,114,97,99,107,101,116]⟩ 6 116 115 [66,114,97,99,107,101,115] true [⟨#[41]⟩]
 |Bracket_1 (_:(ks.toList == [41])=false):RB ks ⟨#[66,114,97,99,107,101,116]⟩ 6 116 115 [66,114,97,99,107,101,115] true [⟨#[69,120,112,114]⟩,⟨#[73,116,101,109,53]⟩,⟨#[41]⟩]
 |Param0_0:RB ks ⟨#[80,97,114,97,109,48]⟩ 5 48 47 [80,97,114,97,109,47] true []
 |Param1_0 (_:(ks.toList == [105,100])=true):RB ks ⟨#[80,97,114,97,109,49]⟩ 5 49 48 [80,97,114,97,109,48] true [⟨#[105,100]⟩,⟨#[80,97,114,97,109,48]⟩]
 |Param1_1 (_:(ks.toList == [105,100])=false):RB ks ⟨#[80,97,114,97,109,49]⟩ 5 49 48 [80,97,114,97,109,48] true []
 |Param2_0 (_:(ks.toList == [105,100])=true):RB ks ⟨#[80,97,114,97,109,50]⟩ 5 50 49 [80,97,114,97,109,49] true [⟨#[105,100]⟩,⟨#[80,97,114,97,109,49]⟩]
 |Param2_1 (_:(ks.toList == [105,100])=false):RB ks ⟨#[80,97,114,97,109,50]⟩ 5 50 49 [80,97,114,97,109,49] true []
 |Param3_0 (_:(ks.toList == [105,100])=true):RB ks ⟨#[80,97,114,97,109,51]⟩ 5 51 50 [80,97,114,97,109,50] true [⟨#[105,100]⟩,⟨#[80,97,114,97,109,50]⟩]
 |Param3_1 (_:(ks.toList == [105,100])=false):RB ks ⟨#[80,97,114,97,109,51]⟩ 5 51 50 [80,97,114,97,109,50] true []
 |Name0_0:RB ks ⟨#[78,97,109,101,48]⟩ 4 48 47 [78,97,109,101,47] true []
 |Name1_0 (_:(ks.toList == [44])=true):RB ks ⟨#[78,97,109,101,49]⟩ 4 49 48 [78,97,109,101,48] true [⟨#[44]⟩,⟨#[105,100]⟩,⟨#[78,97,109,101,48]⟩]
 |Name1_1 (_:(ks.toList == [44])=false):RB ks ⟨#[78,97,109,101,49]⟩ 4 49 48 [78,97,109,101,48] true []
 |Name2_0 (_:(ks.toList == [44])=true):RB ks ⟨#[78,97,109,101,50]⟩ 4 50 49 [78,97,109,101,49] true [⟨#[44]⟩,⟨#[105,100]⟩,⟨#[78,97,109,101,49]⟩]
 |Name2_1 (_:(ks.toList == [44])=false):RB ks ⟨#[78,97,109,101,50]⟩ 4 50 49 [78,97,109,101,49] true []
 |Name3_0 (_:(ks.toList == [44])=true):RB ks ⟨#[78,97,109,101,51]⟩ 4 51 50 [78,97,109,101,50] true [⟨#[44]⟩,⟨#[105,100]⟩,⟨#[78,97,109,101,50]⟩]
 |Name3_1 (_:(ks.toList == [44])=false):RB ks ⟨#[78,97,109,101,51]⟩ 4 51 50 [78,97,109,101,50] true []
 |Name4_0 (_:(ks.toList == [44])=true):RB ks ⟨#[78,97,109,101,52]⟩ 4 52 51 [78,97,109,101,51] true [⟨#[44]⟩,⟨#[105,100]⟩,⟨#[78,97,109,101,51]⟩]
 |Name4_1 (_:(ks.toList == [44])=false):RB ks ⟨#[78,97,109,101,52]⟩ 4 52 51 [78,97,109,101,51] true []
 |Argument0_0:RB ks ⟨#[65,114,103,117,109,101,110,116,48]⟩ 8 48 47 [65,114,103,117,109,101,110,116,47] true []
theorem jDE {ks x:ByteArray}{n v:Nat}{u:UInt8}{l:List UInt8}{ok:Bool}{r:List ByteArray}(h:RB ks x n v u l ok r) :
 (∃hl:n<x.size,x[n].toNat=v)/\(x.extract 0 n).toList=l.dropLast/\x.size=n+1/\l=x.data.toList.take n ++[u]:=by
 cases h <;> exact⟨⟨by decide,rfl⟩,by rw[Ye];rfl,rfl,rfl⟩
set_option maxRecDepth 100000 in
theorem rb {ks x:ByteArray}{n v:Nat}{u:UInt8}{l:List UInt8}{ok:Bool}{r:List ByteArray}(h:RB ks x n v u l ok r) (w:World):RP ks x ok r w:=by
 obtain⟨⟨R,hl⟩,F,H,B⟩:=jDE h;have K:=jH R;have Y:=jH H;have Z:=jH B;clear H B;have hb:Below w.heap.size w w:=jB;unfold RP;cases h
 all_goals dsimp only[List.dropLast]at F
 all_goals (
  go_enter Tryz.func45,Tryz.ntmps45
  go_wp2_with (first
   |(go_at_call 74;refine(jqE _ _).mono ?_;rintro e w' ⟨rfl,A⟩;subst A)
   |(go_at_call 75;refine(jt9 _ _).mono ?_;rintro e w' ⟨rfl,A⟩;subst A)
   |(refine jmu _ rfl (.tmp 24) 9 132 5 rfl _ rfl Tryz.underlying9 Tryz.underlying132 Tryz.underlying5 ?_;intro w1 cap C I O h0;have W:=C _ K.o;have U:=I _ K.o;have E:=jmy _ _ Y.o C Z.o;have E:Hid _:=E;clear C I)
   |(refine jmt _ rfl (.tmp 33) 132 9 5 rfl _ _ _ _ rfl ?_ Tryz.underlying132 Tryz.underlying5 Tryz.underlying9 E.o ?_;rfl;clear E W U))
  all_goals go_ret2
  all_goals
   refine⟨_,rfl,?_,?_⟩
   .unfold RO
    first
     |exact Uk _ _ _ _
     |exact jvp (by rw[World.size_setCell];omega) (by rw[World.size_setCell];omega) (by simp) rfl rfl
   .first
     |exact O.setCell jN _
     |exact(O.setCell jN _).alloc (by rw[World.size_setCell];omega) _)
end
section
open Go Go.RowKit
section
variable {P:Program}{ops:Array Oper}{md:Region.Mode}{w0:World}{ia:Nat}{oa:Oper}{obj:Obj}{mk:Nat->Value}
structure HZ (md:Region.Mode) (ops:Array Oper) (n:Nat) (listed:Array Bool):Prop extends HeadInv md ops n listed where
 z:listed.getD 0 false=true
theorem HZ.set {n i:Nat}{A:Array Bool}(B:HZ md ops n A) (C:i ∈ Region.ready md ops A) (hi:i<n):HZ md ops n (A.setIfInBounds i true):={B.toHeadInv.set C hi with z:=getD_set_true B.z}
def jxT (md:Region.Mode) (ops:Array Oper) (n:Nat):Bool:=
 (List.range n).all fun i=>i == 0 || (List.range (n+1)).any fun j=>decide (i<j) && Region.waitsFor md ops j i
theorem jBS {n:Nat}(hs:jxT md ops n=true) (hc:Region.chainB md ops n=true) (hn:n<ops.size) (A:Array Bool) (C:HZ md ops n A) :
 ∀(i:Nat),i<n->A.getD i true=false->∀t,n<=t->t ∉ Region.ready md ops A:=by
 suffices H:∀(d i:Nat),n-i=d->i<n->A.getD i true=false->∀t,n<=t->t ∉ Region.ready md ops A from fun i=>H _ i rfl
 intro d
 induction d using Nat.strongRecOn with
 |_ d ih=>
  intro i hd hi O t ht hr;obtain⟨_,Z,K,I⟩:=mem_ready.1 hr;have Y:t<ops.size:=(Array.getElem?_eq_some_iff.1 K).1
  by_cases h3:t=n
  .subst h3
   have E:=List.all_eq_true.1 hs i (Ub.2 hi);have h5:i≠0:=fun e=>by subst e;have B:=C.z;rw[getD_both O]at B;cases B
   simp only[Yl,Yn,h5,false_or]at E;obtain⟨j,hj,U⟩:=List.any_eq_true.1 E;simp only[Yc,Yd]at U;obtain⟨oj,W,e,he,R,F⟩:=Region.waitsFor_spec U.2;have h6:j<=t:=by have:=Ub.1 hj;omega
   by_cases h0:j=t
   .subst h0
    have:oj=Z:=Uf (W.symm.trans K);subst this;have B:=I e he R;rw[F,getD_both O]at B;cases B
   .cases hl :A.getD j false with
    |true=>
     have B:=C.closed j oj W hl e he R;rw[F,getD_both O]at B;cases B
    |false=>
     have h4:j<A.size:=by rw[C.size];omega
     exact ih (t-j) (by omega) j rfl (by omega) (getD_in h4 hl) t jN hr
  .have E:=List.all_eq_true.1 hc t (Ub.2 Y)
   simp only[Yl,Yd]at E;rcases E with E|E
   .omega
   .obtain⟨o',ho',e,he,R,F⟩:=Region.waitsFor_spec E
    have:o'=Z:=Uf (ho'.symm.trans K);subst this;have B:=I e he R;rw[F,getD_both (C.tail (t-1) (by omega) (by omega))]at B;cases B
def lexZ (md:Region.Mode) (ops:Array Oper) (n:Nat):Bool:=
 Region.noSelect ops && decide (n<ops.size) && decide (0<n) && jxT md ops n && Region.chainB md ops n && (Region.ready md ops (Array.replicate ops.size false)).contains 0 && Region.free md ops (Array.replicate ops.size false) 0 && Region.lexHead md ops (ops.size-n) (n-1) 1 ((Array.replicate ops.size false).setIfInBounds 0 true)
theorem jun {id:Nat}{Q:Exit->Act->World->Prop}{a:Act}{w:World}{l:List Oper}(n ia:Nat) (d:Tmp) (mk:Nat->Value) (obj:Obj) (oa B:Oper) (E:Value) (hm:P.follows .mixedOrders=true) (hB:lexZ .any l.toArray n=true) (W:apB l.toArray ia n=true) (Y:ia<n) (K:0≠ia)
 (O:l[ia]? =some oa) (hd:oa.dst=some d) (hg:oa.guard=none) (hz:l.toArray[0]? =some B) (hQ:∀c a w,Q (.panic c) (a.put B.dst E) w->Q (.panic c) a w) (hy:Yields P l.toArray B E a)
 (h:wpB mk P l.toArray w oa obj ia (fun a'=>∀(b:Nat) (x:Wd w.heap.size w),w.heap.size<=b->x.v.heap[b]? =some obj->wpList P l.toArray Q (l.drop n) (a'.put (some d) (mk b)) x.v) 1 ((l.take n).drop 1) (a.put B.dst E)):(Code.region id l.toArray true).wp P Q a w:=by
 simp only[lexZ,Yc,Yd]at hB;obtain⟨⟨⟨⟨⟨⟨⟨C,R⟩,h8⟩,hs⟩,hc⟩,U⟩,h5⟩,h4⟩:=hB;have k2:n<l.length:=by simpa using R
 have hT:Iv .any l.toArray n (HZ .any l.toArray n):=⟨fun l h=>h.size,fun l i h hr hi=>h.set hr hi,fun l h i hi hu t ht=>jBS hs hc R l h i hi hu t ht⟩
 have F:((l.take n).drop 1).length=n-1:=by simp;omega
 have Z:(l.drop n).length=l.toArray.size-n:=by simp
 have h0:HeadInv .any l.toArray n (Array.replicate l.toArray.size false):=
  ⟨by simp,fun j oj _ hl=>(by rw[getD_replicate_false]at hl;cases hl),fun t _ ht=>getD_in (by simpa using ht) (getD_replicate_false _ _)⟩
 have h9:((Array.replicate l.toArray.size false).setIfInBounds 0 true).getD 0 false=true:=by
  have A:0<l.length:=by omega
  have h2:l≠[]:=by intro e;rw[e]at A;simp at A
  simp[A,h2]
 have I:HZ .any l.toArray n ((Array.replicate l.toArray.size false).setIfInBounds 0 true):={h0.set (by simpa using U) h8 with z:=h9}
 have H:=jcH (ia:=ia) (oa:=oa) (obj:=obj) (md:=.any) (g:=l.toArray.size-n) (fun o' ho'=>by rw[show l.toArray[ia]? =some oa by simpa using O]at ho';exact(Uf ho').symm) C hT R ((l.take n).drop 1) 1 _ (a.put B.dst E) (fun j hj=>by
  have h7:1+j<n:=by rw[F]at hj;omega
  rw[List.getElem?_drop]
  simp[List.getElem?_take,h7]) (by rw[F];omega) I (by rw[F];exact h4) h
 refine wp_region_any hm ?_
 have:=jcO (Q':=Q) (g:=l.toArray.size-n) (d:=d) (obj:=obj) (oa:=oa) (Region.noSelect_spec C) (by simpa using O) hd hg (fun j oj hj hne hoj=>by
  have:=List.all_eq_true.1 W j (Ub.2 hj);rw[show l.toArray[ia]? =some oa by simpa using O,hoj]at this
  simpa[hne] using this)
  (fun listed a' b w' hL A h2 h3=>by
   have:=wpAny_of_seq (md:=.any) (Q':=Q) (l.drop n) n listed (a'.put (some d) (mk b)) w' (fun j=>by simp[List.getElem?_drop]) (by rw[Z];exact hL.1) (hL.2 b ⟨w',h3⟩ A h2)
   rwa [Z]at this) hT R Y
  (fun listed a' hL=>by
   have A:=hL.1
   obtain⟨g,h6⟩:∃g,l.toArray.size-n=g+1:=⟨l.toArray.size-n-1,by omega⟩
   rw[h6]at A;simp only[Region.seqB,Yc,Yd]at A
   rw[A.1];simp)
  _ _ (a.put B.dst E) (a.put B.dst E) {w with drawn:=w.drawn+1} I H (At.ahead (by rw[getD_set_ne false K];exact getD_replicate_false _ _) rfl jB.drew)
 rw[F]at this;have k1:(n-1+(l.toArray.size-n))+1=l.toArray.size:=by omega
 have H2:=wpAny_take (i:=0) hz C h5 U hQ hy this;rw[k1]at H2;exact H2
end
end
end Go.Proofs.YtlpmpelnhdoboaaGreatDoor
