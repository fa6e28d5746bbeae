
set_option linter.unusedVariables false
set_option linter.unusedSimpArgs false
set_option maxHeartbeats 20000000
namespace Go.Proofs.YtjmgolahkgalbaaGreatDoor
namespace Ro
abbrev Pl := Nat -> Bool
structure Fn where
 goes : Nat -> Bool
 jmp : Nat -> Bool
 tgt : Nat -> Nat
 ly : Nat -> Nat -> Bool
 lost : Nat -> Nat -> Bool
 init : Pl
def Fn.aft (f : Fn) (i : Nat) (A : Pl) : Pl := fun x => f.ly i x || (A x && !f.lost i x)
def meet : Option Pl -> Pl -> Option Pl
 | none,A => some A
 | some B,A => some fun x => B x && A x
def arr (S : Nat -> Option Pl) (j : Nat) (A : Pl) : Nat -> Option Pl := fun n => if n = j then meet (S j) A else S n
def Fn.leave (f : Fn) (i : Nat) (A : Pl) (S : Nat -> Option Pl) : Nat -> Option Pl :=
 let S1 := if f.jmp i then arr S (f.tgt i) A else S
 if f.goes i then arr S1 (i + 1) A else S1
def Fn.step (f : Fn) (i : Nat) (S : Nat -> Option Pl) : Nat -> Option Pl :=
 match S i with
 | none => S
 | some A => f.leave i (f.aft i A) S
def Fn.st (f : Fn) : Nat -> Nat -> Option Pl
 | 0 => fun n => if n = 0 then some f.init else none
 | i + 1 => f.step i (f.st i)
def Fn.T (f : Fn) (n : Nat) : Option Pl := f.st n n
def Fn.ahead (f : Fn) : Prop := ∀ i,f.jmp i = true -> i < f.tgt i
def Fn.pr (f : Fn) (p n : Nat) : Prop := (f.goes p = true /\ n = p + 1) \/ (f.jmp p = true /\ n = f.tgt p)
theorem meet_some (o : Option Pl) (A : Pl) : ∃ B,meet o A = some B /\ ∀ x,B x = true ↔ (A x = true /\ ∀ C,o = some C -> C x = true) := by
 cases o with
 | none => exact ⟨A,rfl,fun x => ⟨fun h => ⟨h,fun C hC => by cases hC⟩,fun h => h.1⟩⟩
 | some B => exact ⟨_,rfl,fun x => by
  rw [Bool.and_eq_true]
  exact ⟨fun h => ⟨h.2,fun C hC => by injection hC with hC;rw [<- hC];exact h.1⟩,fun h => ⟨h.2 B rfl,h.1⟩⟩⟩
theorem arr_ne {S : Nat -> Option Pl} {j n : Nat} {A : Pl} (h : n ≠ j) : arr S j A n = S n := by unfold arr;rw [if_neg h]
theorem arr_eq {S : Nat -> Option Pl} {j : Nat} {A : Pl} : arr S j A j = meet (S j) A := by unfold arr;rw [if_pos rfl]
theorem jeZ {f : Fn} {i : Nat} {A : Pl} {S : Nat -> Option Pl} (hj : f.jmp i = true) (hg : f.goes i = true) : f.leave i A S = arr (arr S (f.tgt i) A) (i + 1) A := by simp [Fn.leave,hj,hg]
theorem je0 {f : Fn} {i : Nat} {A : Pl} {S : Nat -> Option Pl} (hj : f.jmp i = true) (hg : f.goes i = false) : f.leave i A S = arr S (f.tgt i) A := by simp [Fn.leave,hj,hg]
theorem je1 {f : Fn} {i : Nat} {A : Pl} {S : Nat -> Option Pl} (hj : f.jmp i = false) (hg : f.goes i = true) : f.leave i A S = arr S (i + 1) A := by simp [Fn.leave,hj,hg]
theorem jeY {f : Fn} {i : Nat} {A : Pl} {S : Nat -> Option Pl} (hj : f.jmp i = false) (hg : f.goes i = false) : f.leave i A S = S := by simp [Fn.leave,hj,hg]
theorem jjq (f : Fn) (i : Nat) (A : Pl) (S : Nat -> Option Pl) (n : Nat) :
 (¬ f.pr i n /\ f.leave i A S n = S n) \/ (f.pr i n /\ ∃ B,f.leave i A S n = some B /\ ∀ x,B x = true ↔ (A x = true /\ ∀ C,S n = some C -> C x = true)) := by
 cases hj : f.jmp i with
 | true =>
   cases hg : f.goes i with
   | true =>
     rw [jeZ hj hg]
     by_cases h1 : n = i + 1
     ·right
      refine ⟨.inl ⟨hg,h1⟩,?_⟩
      subst h1
      rw [arr_eq]
      obtain ⟨B,hB,hx⟩ := meet_some (arr S (f.tgt i) A (i + 1)) A
      refine ⟨B,hB,fun x => (hx x).trans ?_⟩
      by_cases h2 : i + 1 = f.tgt i
      ·rw [h2,arr_eq]
       obtain ⟨C,hC,hy⟩ := meet_some (S (f.tgt i)) A
       exact ⟨fun h => ((hy x).1 (h.2 C hC)),fun h => ⟨h.1,fun D hD => by rw [hC] at hD;injection hD with hD;rw [<- hD];exact (hy x).2 h⟩⟩
      ·rw [arr_ne h2]
     ·by_cases h2 : n = f.tgt i
      ·right
       refine ⟨.inr ⟨hj,h2⟩,?_⟩
       rw [arr_ne h1]
       subst h2
       rw [arr_eq]
       exact meet_some _ _
      ·left
       exact ⟨fun h => h.elim (fun h => h1 h.2) (fun h => h2 h.2),by rw [arr_ne h1,arr_ne h2]⟩
   | false =>
     rw [je0 hj hg]
     by_cases h2 : n = f.tgt i
     ·right
      refine ⟨.inr ⟨hj,h2⟩,?_⟩
      subst h2
      rw [arr_eq]
      exact meet_some _ _
     ·left
      exact ⟨fun h => h.elim (fun h => by rw [hg] at h;exact absurd h.1 (by decide)) (fun h => h2 h.2),arr_ne h2⟩
 | false =>
   cases hg : f.goes i with
   | true =>
     rw [je1 hj hg]
     by_cases h1 : n = i + 1
     ·right
      refine ⟨.inl ⟨hg,h1⟩,?_⟩
      subst h1
      rw [arr_eq]
      exact meet_some _ _
     ·left
      exact ⟨fun h => h.elim (fun h => h1 h.2) (fun h => by rw [hj] at h;exact absurd h.1 (by decide)),arr_ne h1⟩
   | false =>
     left
     rw [jeY hj hg]
     exact ⟨fun h => h.elim (fun h => by rw [hg] at h;exact absurd h.1 (by decide)) (fun h => by rw [hj] at h;exact absurd h.1 (by decide)),rfl⟩
theorem pr_lt {f : Fn} (ha : f.ahead) {p n : Nat} (h : f.pr p n) : p < n := by
 rcases h with ⟨_,h⟩ | ⟨h1,h2⟩
 ·omega
 ·rw [h2];exact ha p h1
theorem jcX (f : Fn) (i : Nat) (S : Nat -> Option Pl) (n : Nat) :
 (f.step i S n = S n /\ (S i = none \/ ¬ f.pr i n)) \/ (f.pr i n /\ ∃ A B,S i = some A /\ f.step i S n = some B /\ ∀ x,B x = true ↔ (f.aft i A x = true /\ ∀ C,S n = some C -> C x = true)) := by
 unfold Fn.step
 cases h : S i with
 | none => exact .inl ⟨rfl,.inl rfl⟩
 | some A =>
   rcases jjq f i (f.aft i A) S n with ⟨h1,h2⟩ | ⟨h1,B,h2,h3⟩
   ·exact .inl ⟨h2,.inr h1⟩
   ·exact .inr ⟨h1,A,B,rfl,h2,h3⟩
theorem jgv {f : Fn} (ha : f.ahead) {n : Nat} : ∀ d,f.st (n + d) n = f.T n
 | 0 => rfl
 | d + 1 => by
   show f.step (n + d) (f.st (n + d)) n = _
   rcases jcX f (n + d) (f.st (n + d)) n with ⟨h,_⟩ | ⟨h,_⟩
   ·rw [h];exact jgv ha d
   ·have := pr_lt ha h;omega
theorem st_some {f : Fn} (ha : f.ahead) : ∀ (i n : Nat),(∃ A,f.st i n = some A) ↔ (n = 0 \/ ∃ p,p < i /\ f.pr p n /\ ∃ A,f.T p = some A)
 | 0,n => by
   show (∃ A,(if n = 0 then some f.init else none) = some A) ↔ _
   by_cases h : n = 0
   ·rw [if_pos h];exact ⟨fun _ => .inl h,fun _ => ⟨_,rfl⟩⟩
   ·rw [if_neg h]
    exact ⟨fun ⟨A,hA⟩ => (by cases hA),fun h' => h'.elim (fun h' => absurd h' h) (fun ⟨p,hp,_⟩ => absurd hp (Nat.not_lt_zero p))⟩
 | i + 1,n => by
   have ih := st_some ha i n
   show (∃ A,f.step i (f.st i) n = some A) ↔ _
   rcases jcX f i (f.st i) n with ⟨h,h'⟩ | ⟨h,A,B,h1,h2,h3⟩
   ·rw [h,ih]
    constructor
    ·rintro (h0 | ⟨p,hp,hq,hr⟩)
     ·exact .inl h0
     ·exact .inr ⟨p,by omega,hq,hr⟩
    ·rintro (h0 | ⟨p,hp,hq,hr⟩)
     ·exact .inl h0
     ·by_cases hpi : p = i
      ·subst hpi
       obtain ⟨A,hA⟩ := hr
       rcases h' with h' | h'
       ·have : f.T p = none := h'
        rw [this] at hA;cases hA
       ·exact absurd hq h'
      ·exact .inr ⟨p,by omega,hq,hr⟩
   ·exact ⟨fun _ => .inr ⟨i,by omega,h,A,h1⟩,fun _ => ⟨B,h2⟩⟩
theorem st_val {f : Fn} (ha : f.ahead) : ∀ (i n : Nat) (A : Pl),f.st i n = some A -> ∀ x,A x = true ↔ ((n = 0 -> f.init x = true) /\ ∀ p,p < i -> f.pr p n -> ∀ B,f.T p = some B -> f.aft p B x = true)
 | 0,n,A,h,x => by
   have h' : (if n = 0 then some f.init else none) = some A := h
   by_cases hn : n = 0
   ·rw [if_pos hn] at h'
    injection h' with h'
    rw [<- h']
    exact ⟨fun h => ⟨fun _ => h,fun p hp => by omega⟩,fun h => h.1 hn⟩
   ·rw [if_neg hn] at h';cases h'
 | i + 1,n,A,h,x => by
   have h' : f.step i (f.st i) n = some A := h
   rcases jcX f i (f.st i) n with ⟨h1,h2⟩ | ⟨h1,A',B,h2,h3,h4⟩
   ·rw [h1] at h'
    rw [st_val ha i n A h' x]
    constructor
    ·rintro ⟨q1,q2⟩
     refine ⟨q1,fun p hp hpr B hB => ?_⟩
     by_cases hpi : p = i
     ·subst hpi
      rcases h2 with h2 | h2
      ·have : f.T p = none := h2
       rw [this] at hB;cases hB
      ·exact absurd hpr h2
     ·exact q2 p (by omega) hpr B hB
    ·rintro ⟨q1,q2⟩
     exact ⟨q1,fun p hp => q2 p (by omega)⟩
   ·rw [h3] at h'
    injection h' with h'
    subst h'
    rw [h4]
    have hT : f.T i = some A' := h2
    constructor
    ·rintro ⟨q1,q2⟩
     cases hS : f.st i n with
     | none =>
       have hno : ¬ ∃ A,f.st i n = some A := by rw [hS];rintro ⟨A,hA⟩;cases hA
       rw [st_some ha] at hno
       refine ⟨fun h0 => absurd (.inl h0) hno,fun p hp hpr B' hB => ?_⟩
       by_cases hpi : p = i
       ·subst hpi;rw [hT] at hB;injection hB with hB;rw [<- hB];exact q1
       ·exact absurd (.inr ⟨p,by omega,hpr,B',hB⟩) hno
     | some C =>
       have hC := (st_val ha i n C hS x).1 (q2 C hS)
       refine ⟨hC.1,fun p hp hpr B' hB => ?_⟩
       by_cases hpi : p = i
       ·subst hpi;rw [hT] at hB;injection hB with hB;rw [<- hB];exact q1
       ·exact hC.2 p (by omega) hpr B' hB
    ·rintro ⟨q1,q2⟩
     exact ⟨q2 i (by omega) h1 A' hT,fun C hC => (st_val ha i n C hC x).2 ⟨q1,fun p hp => q2 p (by omega)⟩⟩
def Fn.ok (f : Fn) (rd : Nat -> List Nat) (i : Nat) : Bool :=
 match f.T i with
 | none => true
 | some A => (rd i).all A
structure Dn (f : Fn) (wd : Nat) (re : Nat -> Bool) (la : Nat -> Nat -> Bool) : Prop where
 r : ∀ n,re n = true -> ∃ A,f.T n = some A
 z : ∀ x,x < wd -> la 0 x = true -> f.init x = true
 c : ∀ n x,x < wd -> la n x = false -> ∃ A,f.T n = some A /\ A x = false
theorem T0 (f : Fn) : f.T 0 = some f.init := rfl
def stk (f : Fn) (p n : Nat) (la : Nat -> Nat -> Bool) : Nat -> Nat -> Bool := fun m x => if m = n then la n x && f.aft p (la p) x else la m x
theorem Dn.strike {f : Fn} (ha : f.ahead) {wd p n : Nat} {re : Nat -> Bool} {la : Nat -> Nat -> Bool} (h : Dn f wd re la) (hp : re p = true) (hpr : f.pr p n) :
 Dn f wd (fun m => if m = n then true else re m) (stk f p n la) := by
 have hlt := pr_lt ha hpr
 obtain ⟨B,hB⟩ := h.r p hp
 have hTn : ∃ A,f.T n = some A := (st_some ha n n).2 (.inr ⟨p,hlt,hpr,B,hB⟩)
 refine ⟨fun m hm => ?_,fun x hx hz => ?_,fun m x hx hf => ?_⟩
 ·by_cases e : m = n
  ·rw [e];exact hTn
  ·simp only [if_neg e] at hm;exact h.r m hm
 ·unfold stk at hz
  rw [if_neg (by omega)] at hz
  exact h.z x hx hz
 ·unfold stk at hf
  by_cases e : m = n
  ·rw [if_pos e] at hf
   subst e
   rw [Bool.and_eq_false_iff] at hf
   rcases hf with hf | hf
   ·exact h.c m x hx hf
   ·obtain ⟨A,hA⟩ := hTn
    refine ⟨A,hA,?_⟩
    cases hAx : A x with
    | false => rfl
    | true =>
      have h2 := ((st_val ha m m A hA x).1 hAx).2 p hlt hpr B hB
      unfold Fn.aft at hf h2
      rw [Bool.or_eq_false_iff] at hf
      rw [hf.1,Bool.false_or,Bool.and_eq_true] at h2
      have h3 := hf.2
      rw [h2.2,Bool.and_true] at h3
      obtain ⟨A',hA',hx'⟩ := h.c p x hx h3
      rw [hB] at hA'
      injection hA' with hA'
      rw [<- hA',h2.1] at hx'
      cases hx'
  ·rw [if_neg e] at hf
   exact h.c m x hx hf
theorem Dn.done {f : Fn} (ha : f.ahead) {wd cnt : Nat} {re : Nat -> Bool} {la : Nat -> Nat -> Bool} (h : Dn f wd re la)
 (hf : ∀ p,p < cnt -> (∃ A,f.T p = some A) -> ∀ n,n < cnt -> f.pr p n -> ∀ x,x < wd -> la n x = true -> f.aft p (la p) x = true) :
 ∀ (n : Nat),n < cnt -> ∀ A,f.T n = some A -> ∀ x,x < wd -> la n x = A x := by
 have key : ∀ (m n : Nat),n < m -> n < cnt -> ∀ A,f.T n = some A -> ∀ x,x < wd -> la n x = true -> A x = true := by
  intro m
  induction m with
  | zero => intro n hn;omega
  | succ m ih =>
    intro n hnm hn A hA x hx hl
    refine (st_val ha n n A hA x).2 ⟨fun h0 => ?_,fun p hp hpr B hB => ?_⟩
    ·subst h0;exact h.z x hx hl
    ·have h1 := hf p (by omega) ⟨B,hB⟩ n hn hpr x hx hl
     unfold Fn.aft at h1 ⊢
     rw [Bool.or_eq_true] at h1 ⊢
     rcases h1 with h1 | h1
     ·exact .inl h1
     ·rw [Bool.and_eq_true] at h1 ⊢
      exact .inr ⟨ih p (by omega) (by omega) B hB x hx h1.1,h1.2⟩
 intro n hn A hA x hx
 cases hl : la n x with
 | true => rw [key (n + 1) n (by omega) hn A hA x hx hl]
 | false =>
   obtain ⟨A',hA',hx'⟩ := h.c n x hx hl
   rw [hA] at hA'
   injection hA' with hA'
   rw [hA',hx']
theorem Dn.none {f : Fn} {wd : Nat} {re : Nat -> Bool} {la : Nat -> Nat -> Bool} (h : Dn f wd re la) {n x : Nat} (hx : x < wd) (hT : f.T n = none) : la n x = true := by
 cases hl : la n x with
 | true => rfl
 | false =>
   obtain ⟨A,hA,_⟩ := h.c n x hx hl
   rw [hT] at hA;cases hA
end Ro
end Go.Proofs.YtjmgolahkgalbaaGreatDoor
