import Derived.Test.YtnhbcdnmfafbiaaGreatDoorM10
set_option linter.unusedVariables false
set_option linter.unusedSimpArgs false
set_option maxHeartbeats 20000000
namespace Go.Proofs.YtnhbcdnmfafbiaaGreatDoor
namespace V
open Go.RowKit
variable {T:Tb}{w w':World}{A A':Nat->Prop}
def WA (x x':Av):Prop:=∀(w:World) (A:Nat->Prop) (mo:Nat->Mo) (fp:Nat->List Nat) (v:Value),TV w A mo fp x v->TV w A mo fp x' v
theorem Wk.tm {tm tm':List (Nat × Av)}{rt:List (Nat × Rt)}(h:∀t,WA (lkt tm t) (lkt tm' t)):Wk T ⟨tm,rt⟩ ⟨tm',rt⟩:=fun c hc hst hX=>by
 obtain⟨w,A,st,mo,fp,a,X⟩:=c
 dsimp only at hst hX
 subst hst hX;have B:=hc.sx.sr;refine⟨⟨w,A,⟨tm',rt⟩,mo,fp,a,[]⟩,⟨⟨⟨B.rts,B.nd,B.fa,B.dj,fun t=>h t _ _ _ _ _ (B.tms t),B.nf,B.gl⟩,hc.sx.nd,hc.sx.na,hc.sx.dj,hc.sx.lt⟩,hc.al⟩,⟨Below.refl _ _,fun _ _ _=>rfl,fun _ h=>.inl h,fun _ h=>h,fun _ h=>.inl h,fun r R h1 h2=>⟨R,h1,h2,rfl,rfl⟩,fun r R h _ _=>⟨h,rfl,rfl⟩⟩,rfl,rfl,rfl,rfl⟩
theorem Does.wka {f:Nat}{x B:Av}{as rs:List Arg}{bs:List (List C)}(h:Does T f (.pl B ::as) rs bs) (hx:WA x B):Does T f (.pl x ::as) rs bs:=by
 refine h.wk ?_ rfl rfl
 exact Wk.tm (tm:=(0,x) ::jJ1 1 as) (tm':=(0,B) ::jJ1 1 as) fun t=>by
  show WA (if 0=t then x else _) (if 0=t then B else _)
  split
  .exact hx
  .exact fun _ _ _ _ _ h=>h
theorem Does.wkr {f:Nat}{x B:Av}{as:List Arg}{bs:List (List C)}(h:Does T f as [.pl x] bs) (hx:WA x B):Does T f as [.pl B] bs:=⟨h.1,fun c hc hst hX hu=>by
 refine(h.2 c hc hst hX hu).mono ?_;rintro e w' ⟨c',v,E,a2,a3,a4,a5,G,J⟩
 have O:Wk T (jKl as [.pl x] bs) (jKl as [.pl B] bs):=Wk.tm (tm:=[(RK,x)]) (tm':=[(RK,B)]) fun t=>by
  show WA (if RK=t then x else _) (if RK=t then B else _)
  split
  .exact hx
  .exact fun _ _ _ _ _ h=>h
 obtain⟨M,P,V,Y,Z,k5,k6⟩:=O c' a3 a5 G
 exact⟨M,v,E,by rw[Z];exact a2,P,a4.trans V,Y,k6,by rw[k5];exact J⟩⟩
inductive Wc:C->C->Prop where
 |rfl (c):Wc c c
 |i (k n):Wc (.i k n) .uk
 |j (n):Wc (.i .i64 n) .ui
 |u:Wc .ui .uk
theorem RC.wc {c c':C}{v:Value}{F:List Nat}(h:RC w A c v F) (B:Wc c c'):RC w A c' v F:=by
 cases B with
 |rfl=>exact h
 |i k n=>cases h;exact .uk rfl
 |j n=>cases h;exact .ui n
 |u=>cases h;exact .uk rfl
inductive Wl:List C->List C->Prop where
 |nil:Wl [] []
 |cons {c c' l l'}:Wc c c'->Wl l l'->Wl (c ::l) (c' ::l')
theorem Wl.refl:∀l:List C,Wl l l
 |[]=>.nil
 |c ::l=>.cons (.rfl c) (Wl.refl l)
theorem Wl.len:∀{l l':List C},Wl l l'->l'.length=l.length
 |[],_,h=>by cases h;rfl
 |_ ::_,_,h=>by cases h with|cons _ h=>simp[Wl.len h]
theorem RL.wl:∀{l l':List C}{vs:List Value}{F:List Nat},RL w A l vs F->Wl l l'->RL w A l' vs F
 |[],l',vs,F,h,hl=>by cases hl;exact h
 |c ::l,l',vs,F,h,hl=>by
  cases hl with
  |cons h1 h2=>
   cases h with
   |cons q1 q2=>exact .cons (q1.wc h1) (RL.wl q2 h2)
inductive We:List (List C)->List (List C)->Prop where
 |nil:We [] []
 |cons {c c' l l'}:Wl c c'->We l l'->We (c ::l) (c' ::l')
theorem We.len:∀{l l':List (List C)},We l l'->l'.length=l.length
 |[],_,h=>by cases h;rfl
 |_ ::_,_,h=>by cases h with|cons _ h=>simp[We.len h]
theorem RE.we:∀{l l':List (List C)}{z:Nat}{vs:List Value}{F:List Nat},RE w A z l vs F->We l l'->RE w A z l' vs F
 |[],l',z,vs,F,h,hl=>by cases hl;exact h
 |c ::l,l',z,vs,F,h,hl=>by
  cases hl with
  |cons h1 h2=>
   cases h with
   |cons q0 q1 q2=>exact .cons q0 (q1.wl h1) (RE.we q2 h2)
theorem RC.row {z:Nat}{l B:List (List C)}{v:Value}(h:RC w A (.r false z l) v []) (hl:We l B):RC w A (.r false z B) v []:=by
 generalize hF:([]:List Nat)=F at h
 cases h with
 |rn=>cases hl;exact .rn false z
 |re=>cases hl;exact .re z _ _
 |rf h1 h2 h3 h4 h5 h6=>rw[<-hl.len]at h4 h5 ⊢;exact .rf h1 h2 h3 h4 h5 (h6.we hl)
theorem jJM.wl {k:Nat}{b b':List C}{m:Mo}{F:List Nat}(h:jJM w A ⟨k,b⟩ m F) (hl:Wl b b'):jJM w A ⟨k,b'⟩ m F:=by
 unfold jJM at h ⊢;have e:=hl.len
 split at h
 .rename_i h9;rw[if_pos h9];exact h
 .rename_i h9
  rw[if_neg h9]
  split at h
  .rename_i hv
   rw[if_pos (show isV ⟨k,b'⟩=true from hv)];exact h.wl hl
  .rename_i hv
   rw[if_neg (show ¬isV ⟨k,b'⟩=true from hv)];obtain⟨F',arr,q1,q2,q3,q4,q5,q6⟩:=h;simp only at q2 q3 q5 q6;refine⟨F',arr,q1,⟨q2.blk,q2.okz,by simp only[e];exact q2.le,by simp only[e];exact q2.rl.wl hl⟩,by simp only[e];exact q3,q4,by simp only[e];exact q5,by simp only[e];exact q6⟩
theorem Wk.bx {tm:List (Nat × Av)}{rt:List (Nat × Rt)}{b b':List C}(hl:Wl b b'):Wk T ⟨tm,(0,⟨0,b⟩) ::rt⟩ ⟨tm,(0,⟨0,b'⟩) ::rt⟩:=fun c hc hst hX=>by
 obtain⟨w,A,st,mo,fp,a,X⟩:=c
 dsimp only at hst hX
 subst hst hX;have G:=hc.sx.sr
 have J:∀{k:Nat}{R:Rt},lkr T ((0,(⟨0,b'⟩:Rt)) ::rt) k=some R->(k=0/\R=⟨0,b'⟩)\/(k≠0/\lkr T ((0,(⟨0,b⟩:Rt)) ::rt) k=some R):=fun {k R} h=>by
  simp only[lkr]at h ⊢
  by_cases e:0=k
  .rw[if_pos e]at h;cases h;exact .inl ⟨e.symm,rfl⟩
  .rw[if_neg e]at h;exact .inr ⟨fun q=>e q.symm,by rw[if_neg e];exact h⟩
 have h0:lkr T ((0,(⟨0,b⟩:Rt)) ::rt) 0=some ⟨0,b⟩:=rfl
 have E:∀{k:Nat}{R:Rt},lkr T ((0,(⟨0,b'⟩:Rt)) ::rt) k=some R->∃R0,lkr T ((0,(⟨0,b⟩:Rt)) ::rt) k=some R0/\own R0=own R:=fun {k R} h=>by
  rcases J h with⟨rfl,rfl⟩|⟨_,h⟩
  .exact⟨_,h0,rfl⟩
  .exact⟨_,h,rfl⟩
 have ow:∀g,Ow T ⟨w,A,⟨tm,(0,⟨0,b'⟩) ::rt⟩,mo,fp,a,[]⟩ g->Ow T ⟨w,A,⟨tm,(0,⟨0,b⟩) ::rt⟩,mo,fp,a,[]⟩ g:=fun g h=>by
  rcases h with⟨r,R,B,h2,O⟩|h
  .obtain⟨R0,q1,q2⟩:=E B
   exact .inl ⟨r,R0,q1,by rw[q2];exact h2,O⟩
  .exact .inr h
 refine⟨⟨w,A,⟨tm,(0,⟨0,b'⟩) ::rt⟩,mo,fp,a,[]⟩,⟨⟨⟨fun k R h=>?_,fun k R h=>?_,fun k R h ho=>?_,fun k k' R R' hn h h' ho=>?_,G.tms,fun k h=>?_,G.gl⟩,hc.sx.nd,hc.sx.na,hc.sx.dj,hc.sx.lt⟩,hc.al⟩,⟨Below.refl _ _,fun _ _ _=>rfl,fun g h=>.inl (ow g h),fun _ h=>h,fun _ h=>.inl h,fun r R B h2=>?_,fun r R h B h2=>?_⟩,rfl,rfl,rfl,rfl⟩
 .rcases J h with⟨rfl,rfl⟩|⟨_,h⟩
  .exact(G.rts 0 _ h0).wl hl
  .exact G.rts k R h
 .obtain⟨R0,q1,_⟩:=E h;exact G.nd k R0 q1
 .obtain⟨R0,q1,q2⟩:=E h;exact G.fa k R0 q1 (by rw[q2];exact ho)
 .obtain⟨R0,q1,q2⟩:=E h
  obtain⟨M,q3,_⟩:=E h';exact G.dj k k' R0 M hn q1 q3 (by rw[q2];exact ho)
 .refine G.nf k ?_
  show lkr T ((0,(⟨0,b⟩:Rt)) ::rt) k=none;have h:lkr T ((0,(⟨0,b'⟩:Rt)) ::rt) k=none:=h;simp only[lkr]at h ⊢
  by_cases e:0=k
  .rw[if_pos e]at h;cases h
  .rw[if_neg e]at h ⊢;exact h
 .have B:lkr T ((0,(⟨0,b⟩:Rt)) ::rt) r=some R:=B
  show ∃R',lkr T ((0,(⟨0,b'⟩:Rt)) ::rt) r=some R'/\_;simp only[lkr]at B ⊢
  by_cases e:0=r
  .rw[if_pos e]at B ⊢
   cases B;exact⟨_,rfl,rfl,hl.len,trivial⟩
  .rw[if_neg e]at B ⊢
   exact⟨R,B,h2,rfl,trivial⟩
 .rcases J h with⟨rfl,rfl⟩|⟨_,h⟩
  .cases B
  .exact⟨h,rfl,rfl⟩
theorem Does.wkb {f:Nat}{l b b':List C}{as rs:List Arg}(h:Does T f (.bp l ::as) rs [b]) (hl:Wl b b'):Does T f (.bp l ::as) rs [b']:=⟨h.1,fun c hc hst hX hu=>by
 refine(h.2 c hc hst hX hu).mono ?_;rintro e w' ⟨c',v,B,a2,a3,a4,a5,E,G⟩;have M:Wk T (jKl (.bp l ::as) rs [b]) (jKl (.bp l ::as) rs [b']):=Wk.bx hl;obtain⟨J,O,P,V,Y,Z,k6⟩:=M c' a3 a5 E
 exact⟨J,v,B,by rw[Y];exact a2,O,a4.trans P,V,k6,by rw[Z];exact G⟩⟩
end V
end Go.Proofs.YtnhbcdnmfafbiaaGreatDoor
