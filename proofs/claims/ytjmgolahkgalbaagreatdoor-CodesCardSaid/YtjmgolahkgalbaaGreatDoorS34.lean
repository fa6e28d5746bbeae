import Derived.Test.YtjmgolahkgalbaaGreatDoorS13
set_option linter.unusedVariables false
set_option linter.unusedSimpArgs false
set_option maxHeartbeats 20000000
namespace Go.Proofs.YtjmgolahkgalbaaGreatDoor
namespace Ro
def c1 (f : Nat -> Bool) : Nat -> Nat
 | 0 => 0
 | n + 1 => c1 f n + if f n then 1 else 0
theorem jcF {f g : Nat -> Bool} : ∀ n,(∀ x,x < n -> f x = true -> g x = true) -> c1 f n <= c1 g n
 | 0,_ => Nat.le_refl _
 | n + 1,h => by
   have ih := jcF n fun x hx => h x (by omega)
   have hn := h n (by omega)
   unfold c1
   cases hf : f n with
   | false => simp;omega
   | true => rw [hn hf];simp;omega
theorem jfF {f g : Nat -> Bool} : ∀ n,(∀ x,x < n -> f x = true -> g x = true) -> (∃ x,x < n /\ g x = true /\ f x = false) -> c1 f n < c1 g n
 | 0,_,⟨x,hx,_⟩ => absurd hx (Nat.not_lt_zero _)
 | n + 1,h,⟨x,hx,h1,h2⟩ => by
   have hn := h n (by omega)
   unfold c1
   by_cases e : x = n
   ·subst e
    have ih := jcF x fun y hy => h y (by omega)
    rw [h1,h2];simp;omega
   ·have ih := jfF n (fun y hy => h y (by omega)) ⟨x,by omega,h1,h2⟩
    cases hf : f n with
    | false => simp;omega
    | true => rw [hn hf];simp;omega
def c2 (la : Nat -> Nat -> Bool) (wd : Nat) : Nat -> Nat
 | 0 => 0
 | n + 1 => c2 la wd n + c1 (la n) wd
theorem jcE {f g : Nat -> Nat -> Bool} {wd : Nat} : ∀ n,(∀ m x,m < n -> x < wd -> f m x = true -> g m x = true) -> c2 f wd n <= c2 g wd n
 | 0,_ => Nat.le_refl _
 | n + 1,h => by
   have ih := jcE n fun m x hm => h m x (by omega)
   have hn := jcF (f := f n) (g := g n) wd fun x hx => h n x (by omega) hx
   unfold c2
   omega
theorem jfE {f g : Nat -> Nat -> Bool} {wd : Nat} : ∀ n,(∀ m x,m < n -> x < wd -> f m x = true -> g m x = true) -> (∃ m x,m < n /\ x < wd /\ g m x = true /\ f m x = false) -> c2 f wd n < c2 g wd n
 | 0,_,⟨m,x,hm,_⟩ => absurd hm (Nat.not_lt_zero _)
 | n + 1,h,⟨m,x,hm,hx,h1,h2⟩ => by
   unfold c2
   by_cases e : m = n
   ·subst e
    have ih := jcE m fun y z hy => h y z (by omega)
    have := jfF (f := f m) (g := g m) wd (fun y hy => h m y (by omega) hy) ⟨x,hx,h1,h2⟩
    omega
   ·have ih := jfE n (fun y z hy => h y z (by omega)) ⟨m,x,by omega,hx,h1,h2⟩
    have := jcF (f := f n) (g := g n) wd fun y hy => h n y (by omega) hy
    omega
structure Ps (f : Fn) (wd cnt i : Nat) (E : Nat -> Prop) (la0 : Nat -> Nat -> Bool) (m : Bool) (re : Nat -> Bool) (la : Nat -> Nat -> Bool) : Prop where
 d : Dn f wd re la
 r : ∀ n,n < cnt -> ((∃ A,f.st i n = some A) \/ (E n /\ ∃ A,f.T i = some A)) -> re n = true
 q : m = false -> ∀ p n,n < cnt -> ((p < i /\ f.pr p n) \/ (p = i /\ E n)) -> (∃ A,f.T p = some A) -> ∀ x,x < wd -> la n x = true -> f.aft p (la p) x = true
 c : m = true -> c2 la wd cnt < c2 la0 wd cnt
 le : ∀ n x,n < cnt -> x < wd -> la n x = true -> la0 n x = true
theorem Ps.start {f : Fn} {wd cnt : Nat} {re : Nat -> Bool} {la : Nat -> Nat -> Bool} (h : Dn f wd re la) (h0 : re 0 = true) : Ps f wd cnt 0 (fun _ => False) la false re la := by
 refine ⟨h,fun n _ hn => ?_,fun _ p n _ hp => ?_,fun h => ?_,fun _ _ _ _ h => h⟩
 ·rcases hn with ⟨A,hA⟩ | ⟨hE,_⟩
  ·have hA' : (if n = 0 then some f.init else none) = some A := hA
   by_cases e : n = 0
   ·rw [e];exact h0
   ·rw [if_neg e] at hA';cases hA'
  ·exact hE.elim
 ·rcases hp with ⟨hp,_⟩ | ⟨_,hp⟩
  ·omega
  ·exact hp.elim
 ·cases h
theorem Ps.road {f : Fn} (ha : f.ahead) {wd cnt i n0 : Nat} {E : Nat -> Prop} {la0 : Nat -> Nat -> Bool} {m : Bool} {re : Nat -> Bool} {la : Nat -> Nat -> Bool} (h : Ps f wd cnt i E la0 m re la) (hi : re i = true) (hpr : f.pr i n0) (hn0 : n0 < cnt)
 {ms : Bool} (hms0 : ms = false -> ∀ x,x < wd -> la n0 x = true -> f.aft i (la i) x = true) (hms1 : ms = true -> ∃ x,x < wd /\ la n0 x = true /\ f.aft i (la i) x = false) :
 Ps f wd cnt i (fun n => E n \/ n = n0) la0 (ms || m) (fun n => if n = n0 then true else re n) (stk f i n0 la) := by
 have hlt := pr_lt ha hpr
 have hsub : ∀ n x,stk f i n0 la n x = true -> la n x = true := fun n x hx => by
  unfold stk at hx
  by_cases e : n = n0
  ·rw [if_pos e,Bool.and_eq_true] at hx;rw [e];exact hx.1
  ·rw [if_neg e] at hx;exact hx
 refine ⟨h.d.strike ha hi hpr,fun n hn hh => ?_,fun hm p n hn hp hT x hx hl => ?_,fun hm => ?_,fun n x hn hx hl => h.le n x hn hx (hsub n x hl)⟩
 ·by_cases e : n = n0
  ·rw [if_pos e]
  ·show (if n = n0 then true else re n) = true
   rw [if_neg e]
   rcases hh with hh | ⟨hE | hE,hT⟩
   ·exact h.r n hn (.inl hh)
   ·exact h.r n hn (.inr ⟨hE,hT⟩)
   ·exact absurd hE e
 ·rw [Bool.or_eq_false_iff] at hm
  have hsame : ∀ n x,x < wd -> stk f i n0 la n x = la n x := fun n x hx => by
   unfold stk
   by_cases e : n = n0
   ·rw [if_pos e,e]
    cases hl : la n0 x with
    | false => simp
    | true => rw [hms0 hm.1 x hx hl];rfl
   ·rw [if_neg e]
  rw [hsame n x hx] at hl
  have hres : f.aft p (la p) x = true := by
   rcases hp with hp | ⟨rfl,hE | hE⟩
   ·exact h.q hm.2 p n hn (.inl hp) hT x hx hl
   ·exact h.q hm.2 p n hn (.inr ⟨rfl,hE⟩) hT x hx hl
   ·subst hE;exact hms0 hm.1 x hx hl
  unfold Fn.aft at hres ⊢
  rw [hsame p x hx]
  exact hres
 ·cases hs : ms with
  | true =>
    obtain ⟨x,hx,h1,h2⟩ := hms1 hs
    have hlt2 : c2 (stk f i n0 la) wd cnt < c2 la wd cnt := jfE cnt (fun n x _ _ => hsub n x) ⟨n0,x,hn0,hx,h1,by unfold stk;rw [if_pos rfl,h2];simp⟩
    have hle : c2 la wd cnt <= c2 la0 wd cnt := jcE cnt h.le
    omega
  | false =>
    rw [hs,Bool.false_or] at hm
    have h1 := h.c hm
    have h2 : c2 (stk f i n0 la) wd cnt <= c2 la wd cnt := jcE cnt fun n x _ _ => hsub n x
    omega
theorem Ps.next {f : Fn} (ha : f.ahead) {wd cnt i : Nat} {E : Nat -> Prop} {la0 : Nat -> Nat -> Bool} {m : Bool} {re : Nat -> Bool} {la : Nat -> Nat -> Bool} (h : Ps f wd cnt i E la0 m re la) (hi : i < cnt) (hE : re i = true -> ∀ n,n < cnt -> f.pr i n -> E n) :
 Ps f wd cnt (i + 1) (fun _ => False) la0 m re la := by
 have hTi : (∃ A,f.T i = some A) -> re i = true := fun hT => h.r i hi (.inl hT)
 refine ⟨h.d,fun n hn hh => ?_,fun hm p n hn hp hT => ?_,h.c,h.le⟩
 ·rcases hh with hh | ⟨hh,_⟩
  ·rw [st_some ha] at hh
   rcases hh with h0 | ⟨p,hp,hpr,hT⟩
   ·exact h.r n hn (.inl ((st_some ha i n).2 (.inl h0)))
   ·by_cases e : p = i
    ·subst e;exact h.r n hn (.inr ⟨hE (hTi hT) n hn hpr,hT⟩)
    ·exact h.r n hn (.inl ((st_some ha i n).2 (.inr ⟨p,by omega,hpr,hT⟩)))
  ·exact hh.elim
 ·rcases hp with ⟨hp,hpr⟩ | ⟨_,hp⟩
  ·by_cases e : p = i
   ·subst e;exact h.q hm p n hn (.inr ⟨rfl,hE (hTi hT) n hn hpr⟩) hT
   ·exact h.q hm p n hn (.inl ⟨by omega,hpr⟩) hT
  ·exact hp.elim
theorem Ps.ok {f : Fn} (ha : f.ahead) {wd cnt : Nat} {la0 : Nat -> Nat -> Bool} {re : Nat -> Bool} {la : Nat -> Nat -> Bool} (h : Ps f wd cnt cnt (fun _ => False) la0 false re la) {rd : Nat -> List Nat} {n : Nat} (hn : n < cnt) (hr : ∀ x ∈ rd n,x < wd) : (rd n).all (la n) = f.ok rd n := by
 have hd := h.d.done ha (cnt := cnt) (fun p hp hT n hn hpr x hx hl => h.q rfl p n hn (.inl ⟨hp,hpr⟩) hT x hx hl)
 unfold Fn.ok
 cases hT : f.T n with
 | none =>
   show _ = true
   rw [List.all_eq_true]
   exact fun x hx => h.d.none (hr x hx) hT
 | some A =>
   show _ = (rd n).all A
   rw [Bool.eq_iff_iff,List.all_eq_true,List.all_eq_true]
   exact ⟨fun hh x hx => by rw [<- hd n hn A hT x (hr x hx)];exact hh x hx,fun hh x hx => by rw [hd n hn A hT x (hr x hx)];exact hh x hx⟩
end Ro
end Go.Proofs.YtjmgolahkgalbaaGreatDoor
