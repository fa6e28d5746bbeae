import Derived.Test.YtnhbcdnmfafbiaaGreatDoorM14
set_option linter.unusedVariables false
set_option linter.unusedSimpArgs false
set_option maxHeartbeats 20000000
namespace Go.Proofs.YtnhbcdnmfafbiaaGreatDoor
namespace V
open Go.RowKit
variable {T:Tb}
theorem Does.core {f:Nat}{xs rs:List Arg}{bs:List (List C)}(hf:jRb T.P f) (h:∀c:Cf,Ok T c->c.st=entry xs->∃xs',(entry xs').rt=(entry xs).rt/\(∀t,TV c.w c.A c.mo c.fp (lkt (entry xs').tm t) (c.a t))/\xs'.length=xs.length/\jKl xs' rs bs=jKl xs rs bs/\Does T f xs' rs bs):Does T f xs rs bs:=by
 refine⟨hf,fun c hc hst hX hu=>?_⟩;obtain⟨xs',Y,G,Z,e4,hd⟩:=h c hc hst;obtain⟨w,A,st,mo,fp,a,X⟩:=c
 dsimp only at hst hX hu G
 subst hst hX;have B:=hc.sx.sr;have hk:∀k,lkr T (entry xs').rt k=lkr T (entry xs).rt k:=fun k=>by rw[Y]
 have J:Ok T ⟨w,A,entry xs',mo,fp,a,[]⟩:=⟨⟨⟨fun k R h=>B.rts k R (by rw[<-hk];exact h),fun k R h=>B.nd k R (by rw[<-hk];exact h),fun k R h=>B.fa k R (by rw[<-hk];exact h),fun k k' R R' hn h h'=>B.dj k k' R R' hn (by rw[<-hk];exact h) (by rw[<-hk];exact h'),G,fun k h=>B.nf k (by rw[<-hk];exact h),B.gl⟩,hc.sx.nd,hc.sx.na,hc.sx.dj,hc.sx.lt⟩,hc.al⟩
 have st1:Stp T ⟨w,A,entry xs,mo,fp,a,[]⟩ ⟨w,A,entry xs',mo,fp,a,[]⟩:=⟨Below.refl _ _,fun _ _ _=>rfl,fun _ h=>.inl (by
  rcases h with⟨r,R,E,h2,h3⟩|h
  .exact .inl ⟨r,R,by rw[<-hk];exact E,h2,h3⟩
  .exact .inr h),fun _ h=>h,fun _ h=>.inl h,fun r R E h2=>⟨R,by show lkr T (entry xs').rt r=_;rw[hk];exact E,h2,rfl,rfl⟩,fun r R h _ _=>⟨by show lkr T (entry xs).rt r=_;rw[<-hk];exact h,rfl,rfl⟩⟩
 have:=hd.2 ⟨w,A,entry xs',mo,fp,a,[]⟩ J rfl rfl (fun t ht=>hu t (by omega));rw[Z]at this;refine this.mono ?_;rintro e w' ⟨c',v,M,a2,a3,a4,a5,O,V⟩;exact⟨c',v,M,a2,a3,st1.trans a4,by rw[a5];exact e4,O,V⟩
theorem Does.ref0 {f:Nat}{x:Av}{xs rs:List Arg}{bs:List (List C)}(hf:jRb T.P f) (h:∀w A mo fp v,TV w A mo fp x v->∃x',TV w A mo fp x' v/\Does T f (.pl x' ::xs) rs bs):Does T f (.pl x ::xs) rs bs:=Does.core hf fun c hc hst=>by
 have B:=hc.sx.sr.tms;rw[hst]at B;have h0:TV c.w c.A c.mo c.fp x (c.a 0):=B 0;obtain⟨x',E,h2⟩:=h _ _ _ _ _ h0;refine⟨.pl x' ::xs,rfl,fun t=>?_,rfl,rfl,h2⟩;have:=B t;show TV c.w c.A c.mo c.fp (if 0=t then x' else lkt (jJ1 1 xs) t) _;replace this:TV c.w c.A c.mo c.fp (if 0=t then x else lkt (jJ1 1 xs) t) (c.a t):=this
 split at this
 .rename_i e;subst e;rw[if_pos rfl];exact E
 .rename_i e;rw[if_neg e];exact this
theorem Does.ref1 {f:Nat}{l:List C}{x:Av}{xs rs:List Arg}{bs:List (List C)}(hf:jRb T.P f) (h:∀w A mo fp v,TV w A mo fp x v->∃x',TV w A mo fp x' v/\Does T f (.bp l :: .pl x' ::xs) rs bs):Does T f (.bp l :: .pl x ::xs) rs bs:=Does.core hf fun c hc hst=>by
 have B:=hc.sx.sr.tms;rw[hst]at B;have h0:TV c.w c.A c.mo c.fp x (c.a 1):=B 1;obtain⟨x',E,h2⟩:=h _ _ _ _ _ h0;refine⟨.bp l :: .pl x' ::xs,rfl,fun t=>?_,rfl,by cases bs <;> rfl,h2⟩;have:=B t;show TV c.w c.A c.mo c.fp (if 0=t then _ else if 1=t then x' else lkt (jJ1 2 xs) t) _;replace this:TV c.w c.A c.mo c.fp (if 0=t then Av.pa ⟨0,0,[]⟩ else if 1=t then x else lkt (jJ1 2 xs) t) (c.a t):=this
 split at this
 .rename_i e;rw[if_pos e];exact this
 .rename_i e
  rw[if_neg e]
  split at this
  .rename_i e;subst e;rw[if_pos rfl];exact E
  .rename_i e;rw[if_neg e];exact this
end V
end Go.Proofs.YtnhbcdnmfafbiaaGreatDoor
