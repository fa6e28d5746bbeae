import Derived.Test.YtnhbcdnmfafbiaaGreatDoorM09
set_option linter.unusedVariables false
set_option linter.unusedSimpArgs false
set_option maxHeartbeats 20000000
namespace Go.Proofs.YtnhbcdnmfafbiaaGreatDoor
namespace V
open Go.RowKit
variable {T:Tb}{w w':World}{A A':Nat->Prop}
def frc:C->C
 | .r true z l=>.r false z l
 |c=>c
def okc:C->Prop
 | .r true _ l=>pln l
 | .bx _=>False
 |_=>True
def ukc:C->C
 | .r _ _ _=>.uk
 |c=>c
def ukA:Av->Av
 | .c x=>.c (ukc x)
 | .ag m=>.ag (m.map ukc)
 |_=>.u
theorem RC.lend {c:C}{v:Value}{F:List Nat}(h:RC w A c v F) (B:okc c):RC w (fun k=>A k\/k ∈ F) (frc c) v []:=by
 have up:∀{c},RC w A c v []->RC w (fun k=>A k\/k ∈ F) c v []:=fun h=>h.st (fun k hk=>⟨.inl hk,rfl⟩) fun _ _=>rfl
 cases c with
 |r o z l=>
  cases o with
  |true=>exact h.frz B
  |false=>have e:=h.pl rfl;subst e;exact up h
 |bx l=>exact B.elim
 |_=>have e:=h.pl rfl;subst e;exact up h
theorem RL.lend:∀{l:List C}{vs:List Value}{F:List Nat},RL w A l vs F->(∀c ∈ l,okc c)->RL w (fun k=>A k\/k ∈ F) (l.map frc) vs []
 |[],vs,F,h,_=>by cases h;exact .nil
 |c ::l,vs,F,h,hc=>by
  cases h with
  |@cons _ v F1 _ vs F2 h1 h2=>
   have B:=(h1.lend (hc c (List.mem_cons_self ..))).st (w':=w) (A':=fun k=>A k\/k ∈ F1 ++F2) (fun k hk=>⟨hk.imp id fun h=>List.mem_append_left _ h,rfl⟩) fun _ _=>rfl;have a2:=(RL.lend h2 fun c h=>hc c (List.mem_cons_of_mem _ h)).st (w':=w) (A':=fun k=>A k\/k ∈ F1 ++F2) (fun k hk=>⟨hk.imp id fun h=>List.mem_append_right _ h,rfl⟩) fun _ _=>rfl;exact RL.cons (F:=[]) (F':=[]) B a2
theorem RC.uk' {c:C}{v:Value}(h:RC w A' c v []):RC w A (ukc c) v []:=by
 generalize hF:([]:List Nat)=F at h
 cases h with
 |i k n=>exact .i k n
 |b x=>exact .b x
 |s x=>exact .s x
 |pn=>exact .pn
 |uk h=>exact .uk h
 |ui n=>exact .ui n
 |us h=>exact .us h
 |bx=>cases hF
 |rn=>exact .uk rfl
 |re=>exact .uk rfl
 |ro=>cases hF
 |rf=>exact .uk rfl
theorem RL.uk':∀{l:List C}{vs:List Value},RL w A' l vs []->RL w A (l.map ukc) vs []
 |[],vs,h=>by cases h;exact .nil
 |c ::l,vs,h=>by
  generalize hF:([]:List Nat)=F at h
  cases h with
  |@cons _ v F1 _ vs F2 h1 h2=>
   have e:=List.append_eq_nil_iff.1 hF.symm;rw[e.1]at h1;rw[e.2]at h2;rw[e.1,e.2];exact .cons h1.uk' (RL.uk' h2)
theorem jPV {k:Nat}{l:List C}(h:k≠0):lkr T [(0,⟨4,l⟩)] k=lkr T [] k:=by
 show(if 0=k then _ else _)=_;rw[if_neg (fun e=>h e.symm)]
theorem jLt {k:Nat}{R:Rt}(h:lkr T [] k=some R):own R=false/\R.kd≠0/\k≠0:=by
 simp only[lkr]at h
 split at h
 .rename_i cs hcs
  cases h;refine⟨rfl,by simp,fun e=>?_⟩;rw[e,T.gl0 0 (by omega)]at hcs;cases hcs
 .cases h
theorem Does.lend {f:Nat}{l:List C}{ns:List Int}{x:Av}(h:Does T f (.pl (.ag (l.map frc)) ::ns.map pN) [.pl x] []) (hl:∀c ∈ l,okc c):Does T f (.rv l false ::ns.map pN) [.pl (ukA x)] []:=by
 refine⟨h.1,fun c hc hst hX hu=>?_⟩
 have e1:entry (.rv l false ::ns.map pN)=⟨(0,.la ⟨0,0,[]⟩ l.length) ::jJ1 1 (ns.map pN),[(0,⟨4,l⟩)]⟩:=by
  show(⟨_,(0,⟨4,l⟩) ::jKb 1 (ns.map pN)⟩:St)=_;rw[jNm];rfl
 have e2:entry (.pl (.ag (l.map frc)) ::ns.map pN)=⟨(0,.ag (l.map frc)) ::jJ1 1 (ns.map pN),[]⟩:=by
  show(⟨_,jKb 1 (ns.map pN)⟩:St)=_;rw[jNm];rfl
 rw[e1]at hst;have J:=hc.sx.sr;have hR:lkr T c.st.rt 0=some ⟨4,l⟩:=by rw[hst];rfl
 have O:RL c.w c.A l (c.mo 0).vs (c.fp 0):=J.rts 0 _ hR;have P:=J.tms 0;rw[hst]at P;obtain⟨arr,q1,q2,q3⟩:∃arr:Array Value,c.a 0= .agg arr/\arr.size=l.length/\∀w',Agr (c.fp 0) c.w w'->vls w' (c.mo 0) ⟨0,0,[]⟩ l.length=some arr.toList:=P;have q3:=q3 c.w fun _ _=>rfl;simp only[vls]at q3
 split at q3
 rotate_left
 .cases q3
 rw[List.drop_zero,List.take_of_length_le (by rw[<-O.len];exact Nat.le_refl _)]at q3;have q3:(c.mo 0).vs=arr.toList:=by injection q3
 rw[q3]at O;have B:∀k R,lkr T [] k=some R->lkr T c.st.rt k=some R:=fun k R h=>by rw[hst,jPV (jLt h).2.2];exact h
 have V:∀k,(k=0\/lkr T [] k=none)->(if k=0 then[] else c.fp k)=[]:=fun k hk=>by
  split
  .rfl
  .rename_i h0
   rcases hk with hk|hk
   .exact absurd hk h0
   .exact J.nf k (by rw[hst,jPV h0];exact hk)
 have M:∀k R,lkr T [] k=some R->(if k=0 then[] else c.fp k)=c.fp k:=fun k R h=>if_neg (jLt h).2.2
 have Y:∀k,c.A k->(c.A k\/k ∈ c.fp 0)/\c.w.heap[k]? =c.w.heap[k]?:=fun k hk=>⟨.inl hk,rfl⟩
 let c1:Cf:=⟨c.w,fun k=>c.A k\/k ∈ c.fp 0,⟨(0,.ag (l.map frc)) ::jJ1 1 (ns.map pN),[]⟩,c.mo,fun k=>if k=0 then[] else c.fp k,c.a,[]⟩
 have h4:Ok T c1:=by
  refine⟨⟨⟨fun k S hk=>?_,fun k S hk=>?_,fun k S hk G=>?_,fun k k' S S' _ hk _ G=>?_,fun t=>?_,fun k hk=>V k (.inr hk),J.gl⟩,List.nodup_nil,fun g B=>(by cases B),fun g B=>(by cases B),fun g B=>(by cases B)⟩,fun k hk=>?_⟩
  .show jJM c.w _ S (c.mo k) (if k=0 then[] else c.fp k)
   rw[M k S hk];exact(J.rts k S (B k S hk)).stay Y fun _ _=>rfl
  .show(if k=0 then[] else c.fp k).Nodup
   rw[M k S hk];exact J.nd k S (B k S hk)
  .rw[(jLt hk).1]at G;cases G
  .rw[(jLt hk).1]at G;cases G
  .show TV _ _ _ _ (if 0=t then .ag (l.map frc) else lkt (jJ1 1 (ns.map pN)) t) (c.a t)
   split
   .rename_i e
    subst e;exact⟨arr,q1,O.lend hl⟩
   .rename_i e
    have E:=J.tms t;rw[hst]at E;have E:TV _ _ _ _ (if 0=t then _ else lkt (jJ1 1 (ns.map pN)) t) (c.a t):=E;rw[if_neg e]at E;have h2:=TV.same (w':=c.w) (A':=fun k=>c.A k\/k ∈ c.fp 0) Y (fun _ _ _=>rfl) E;have nm:=jPH ns 1 t
    have so:sof (lkt (jJ1 1 (ns.map pN)) t)=[]:=by
     clear E h2 nm e
     have:∀(ns:List Int) (i:Nat),sof (lkt (jJ1 i (ns.map pN)) t)=[]:=by
      intro ns
      induction ns with
      |nil=>intro i;rfl
      |cons n ns ih=>intro i;show sof (if i=t then _ else _)=[];split;rfl;exact ih (i+1)
     exact this ns 1
    exact TV.nm (fun r hr=>by rw[nm]at hr;cases hr) (fun r hr=>⟨rfl,rfl⟩) h2
  .rcases hk with hk|hk
   .exact hc.al k hk
   .exact jKa J hk
 have Z:∀g,¬Ow T c1 g:=fun g B=>by
  rcases B with⟨k,S,hk,G,_⟩|B
  .rw[(jLt hk).1]at G;cases G
  .cases B
 have h5:=h.2 c1 h4 e2.symm rfl (fun t P=>hu t (by simpa using P));refine h5.mono ?_;rintro e w' ⟨c',v,a1,a2,a3,a4,a5,a6,a7⟩;have same:∀g,g<c.w.heap.size->c'.w.heap[g]? =c.w.heap[g]?:=fun g B=>a4.kp g B (Z g);refine⟨⟨c'.w,c.A,⟨[(RK,ukA x)],[]⟩,c.mo,fun k=>if k=0 then[] else c.fp k,c'.a,[]⟩,v,a1,a2,⟨⟨⟨fun k S hk=>?_,fun k S hk=>?_,fun k S hk G=>?_,fun k k' S S' _ hk _ G=>?_,fun t=>?_,fun k hk=>V k (.inr hk),J.gl⟩,List.nodup_nil,fun g B=>(by cases B),fun g B=>(by cases B),fun g B=>(by cases B)⟩,fun k hk=>?_⟩,⟨a4.low,fun g B _=>same g B,fun g B=>?_,fun _ h=>h,fun _ h=>.inl h,fun r R E h2=>?_,fun r R E h2 h3=>?_⟩,?_,rfl,a7⟩
 .show jJM c'.w c.A S (c.mo k) (if k=0 then[] else c.fp k)
  rw[M k S hk];exact(J.rts k S (B k S hk)).stay (fun k hk=>⟨hk,same k (hc.al k hk)⟩) fun g B=>same g (jKa J B)
 .show(if k=0 then[] else c.fp k).Nodup
  rw[M k S hk];exact J.nd k S (B k S hk)
 .rw[(jLt hk).1]at G;cases G
 .rw[(jLt hk).1]at G;cases G
 .show TV _ _ _ _ (if RK=t then ukA x else .u) (c'.a t)
  split
  .rename_i et
   subst et;have E:=a3.sx.sr.tms RK;rw[a5]at E;have E:TV c'.w c'.A c'.mo c'.fp x (c'.a RK):=E
   cases x with
   |c y=>exact RC.uk' (show RC c'.w c'.A y (c'.a RK) [] from E)
   |ag m=>
    obtain⟨arr,b1,b2⟩:∃arr:Array Value,c'.a RK= .agg arr/\RL c'.w c'.A m arr.toList []:=E;exact⟨arr,b1,b2.uk'⟩
   |_=>trivial
  .trivial
 .exact Nat.lt_of_lt_of_le (hc.al k hk) a4.low.size
 .rcases B with⟨k,S,hk,G,_⟩|B
  .rw[(jLt hk).1]at G;cases G
  .cases B
 .have E:lkr T c.st.rt r=some R:=E
  by_cases e0:r=0
  .rw[e0,hR]at E;cases E;cases h2
  .rw[hst,jPV e0]at E;exact absurd h2 (jLt E).2.1
 .exact⟨B r R E,rfl,M r R E⟩
 .show(⟨[(RK,ukA x)],[]⟩:St)=jKl _ _ _
  unfold jKl
  have:bpR 0 (Arg.rv l false ::ns.map pN) []=[]:=by
   have:∀(ns:List Int) (i:Nat),bpR i (ns.map pN) []=[]:=by
    intro ns
    induction ns with
    |nil=>intro i;rfl
    |cons n ns ih=>intro i;exact ih (i+1)
   exact this ns 1
  rw[this];rfl
end V
end Go.Proofs.YtnhbcdnmfafbiaaGreatDoor
