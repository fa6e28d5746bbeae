import Derived.Test.YtjmgolahkgalbaaGreatDoorS12
import Derived.Test.YtjmgolahkgalbaaGreatDoorS13
import Derived.Test.YtjmgolahkgalbaaGreatDoorS14
set_option linter.unusedVariables false
set_option linter.unusedSimpArgs false
set_option maxHeartbeats 20000000
namespace Go.Proofs.YtjmgolahkgalbaaGreatDoor
open Go.RowKit Li
variable {s : ByteArray}
def tkF (s : ByteArray) (k : Nat) : List Nat := List.range (r1 s k) ++ (if r2 s k = 1 then [7] else [])
def rdO (s : ByteArray) (op r x y : Nat) : List Nat :=
 if op = 3 \/ op = 4 then [8 + x]
 else if op = 2 \/ op = 15 \/ op = 16 \/ op = 22 \/ op = 26 then [x]
 else if op = 5 \/ op = 18 \/ op = 27 then [r]
 else if op = 7 \/ op = 8 \/ op = 9 \/ op = 10 \/ op = 11 \/ op = 12 \/ op = 13 \/ op = 14 \/ op = 23 \/ op = 24 then [x,y]
 else if op = 21 then [r,y]
 else if op = 25 then [r,x,y]
 else if op = 29 \/ op = 31 then tkF s x
 else if op = 30 \/ op = 32 then 7 :: List.range x
 else if op = 33 then [0]
 else []
def lyO (op r x i : Nat) : Bool :=
 if op = 5 then i == 8 + x else if op = 29 \/ op = 30 then i == 0
 else if op = 6 \/ op = 17 \/ op = 18 \/ op = 21 \/ op = 25 \/ op = 27 \/ op = 31 \/ op = 32 \/ op = 33 then false
 else i == r
def loO (op x i : Nat) : Bool :=
 if op = 29 \/ op = 30 \/ op = 19 \/ op = 20 \/ op = 23 then decide (i < 8)
 else if op = 4 \/ op = 6 then i == 8 + x else false
def rdL (s : ByteArray) (pc : Nat) : List Nat := rdO s (l0 s pc) (l1 s pc) (l2 s pc) (l3 s pc)
def jmB (op : Nat) : Bool := op == 17 || op == 18
def fnS (s : ByteArray) (k : Nat) : Ro.Fn where
 goes i := !jx (l0 s (r0 s k + i))
 jmp i := decide (i < en s k - r0 s k) && jmB (l0 s (r0 s k + i))
 tgt i := l2 s (r0 s k + i) - r0 s k
 ly i x := lyO (l0 s (r0 s k + i)) (l1 s (r0 s k + i)) (l2 s (r0 s k + i)) x
 lost i x := loO (l0 s (r0 s k + i)) (l2 s (r0 s k + i)) x
 init x := (tkF s k).contains x
def wlL (s : ByteArray) (k pc : Nat) : Bool := wlB (hF s) (hN s) (l0 s pc) (lv s pc) pc (r3 s k) (en s k)
def jz (g : Nat -> Option Nat) : Nat -> Nat -> Option Nat
 | 0,_ => none
 | n + 1,k => match g k with
   | some p => some p
   | none => jz g n (k + 1)
def opK (s : ByteArray) (k : Nat) : Option Nat := bad (wlL s k) (en s k - r0 s k) (r0 s k)
def flK (s : ByteArray) (k : Nat) : Option Nat := (bad ((fnS s k).ok fun i => rdL s (r0 s k + i)) (en s k - r0 s k) 0).map (r0 s k + ·)
def ckR (s : ByteArray) : Nat × Nat :=
 match res s with
 | some e => e
 | none => match jz (opK s) (hF s) 0 with
   | some p => (11,p)
   | none => match jz (flK s) (hF s) 0 with
     | some p => (12,p)
     | none => (0,0)
theorem jbu {g : Nat -> Option Nat} : ∀ (n k : Nat),jz g n k = none -> ∀ i,k <= i -> i < k + n -> g i = none
 | 0,k,_,i,h1,h2 => by omega
 | n + 1,k,h,i,h1,h2 => by
   unfold jz at h
   cases hg : g k with
   | some p => rw [hg] at h;cases h
   | none =>
     rw [hg] at h
     by_cases e : i = k
     ·rw [e];exact hg
     ·exact jbu n (k + 1) h i (by omega) (by omega)
structure Wl (s : ByteArray) (k pc : Nat) : Prop where
 op1 : 1 <= l0 s pc
 op2 : l0 s pc < 34
 f0 : jo (hF s) (hN s) (l1 s pc) (ruN (l0 s pc) 0) pc (r3 s k) (en s k) = true
 f1 : jo (hF s) (hN s) (l2 s pc) (ruN (l0 s pc) 1) pc (r3 s k) (en s k) = true
 f2 : jo (hF s) (hN s) (l3 s pc) (ruN (l0 s pc) 2) pc (r3 s k) (en s k) = true
 f3 : jo (hF s) (hN s) (l4 s pc) (ruN (l0 s pc) 3) pc (r3 s k) (en s k) = true
 on : jx (l0 s pc) = true \/ pc + 1 < en s k
theorem Wl.of {k pc : Nat} (h : wlL s k pc = true) : Wl s k pc := by
 unfold wlL wlB at h
 simp only [Bool.and_eq_true,decide_eq_true_eq,Bool.or_eq_true,J9,lv] at h
 obtain ⟨h1,h2,⟨⟨⟨⟨_,a⟩,b⟩,c⟩,d⟩,e⟩ := h
 exact ⟨h1,h2,by simpa using a,by simpa using b,by simpa using c,by simpa using d,e⟩
theorem jmR {F N v pc sl en' : Nat} (h : jo F N v 1 pc sl en' = true) : v < 8 := by simpa [jo] using h
theorem jmQ {F N v pc sl en' : Nat} (h : jo F N v 2 pc sl en' = true) : v < sl := by simpa [jo] using h
theorem fit_fn {F N v pc sl en' : Nat} (h : jo F N v 4 pc sl en' = true) : v < F := by simpa [jo] using h
theorem jkf {F N v pc sl en' : Nat} (h : jo F N v 5 pc sl en' = true) : pc < v /\ v < en' := by simpa [jo] using h
theorem jmS {F N v pc sl en' : Nat} (h : jo F N v 6 pc sl en' = true) : v <= 4 := by simpa [jo] using h
theorem Wl.cases {k pc : Nat} (h : Wl s k pc) {P : Nat -> Prop} (hp : ∀ op : Fin 34,1 <= op.val -> jo (hF s) (hN s) (l1 s pc) (ruN op.val 0) pc (r3 s k) (en s k) = true -> jo (hF s) (hN s) (l2 s pc) (ruN op.val 1) pc (r3 s k) (en s k) = true -> jo (hF s) (hN s) (l3 s pc) (ruN op.val 2) pc (r3 s k) (en s k) = true -> P op.val) : P (l0 s pc) :=
 hp ⟨l0 s pc,h.op2⟩ h.op1 h.f0 h.f1 h.f2
theorem Wl.jump {k pc : Nat} (h : Wl s k pc) (hj : jmB (l0 s pc) = true) : pc < l2 s pc /\ l2 s pc < en s k := by
 have h1 := h.f1
 unfold jmB at hj
 simp only [Bool.or_eq_true,beq_iff_eq] at hj
 rcases hj with hj | hj <;> rw [hj] at h1 <;> exact jkf h1
theorem j7 (h : bad (jt s) (hF s) 0 = none) {k : Nat} (hk : k < hF s) : r1 s k <= 4 /\ r2 s k <= 1 /\ r3 s k <= 1024 /\ r0 s k < hL s := by
 have := jay _ _ h k (by omega) (by omega)
 unfold jt rowA at this
 simp only [Bool.and_eq_true,decide_eq_true_eq] at this
 exact ⟨this.1.1,this.1.2.1,this.1.2.2,this.2.2⟩
theorem jhU (h : bad (jt s) (hF s) 0 = none) {k : Nat} (hk : k + 1 < hF s) : r0 s k < r0 s (k + 1) := by
 have := jay _ _ h (k + 1) (by omega) (by omega)
 unfold jt rowZ at this
 simp only [Bool.and_eq_true,decide_eq_true_eq] at this
 have h2 := this.2.1
 rw [if_neg (by omega)] at h2
 simpa using h2
theorem jal (h : bad (jt s) (hF s) 0 = none) {k : Nat} (hk : k < hF s) : r0 s k < en s k /\ en s k <= hL s := by
 unfold en
 by_cases h1 : k + 1 < hF s
 ·rw [if_pos h1]
  exact ⟨jhU h h1,Nat.le_of_lt (j7 h h1).2.2.2⟩
 ·rw [if_neg h1]
  exact ⟨(j7 h hk).2.2.2,jN⟩
theorem jb5 (h : bad (jt s) (hF s) 0 = none) {k : Nat} (hk : k < hF s) : ∀ x ∈ tkF s k,x < 8 := by
 intro x hx
 have := (j7 h hk).1
 unfold tkF at hx
 rw [List.mem_append] at hx
 rcases hx with hx | hx
 ·rw [List.mem_range] at hx;omega
 ·split at hx
  ·simp at hx;omega
  ·cases hx
theorem Wl.reads (hr : bad (jt s) (hF s) 0 = none) {k pc : Nat} (h : Wl s k pc) : ∀ x ∈ rdL s pc,x < 8 + r3 s k := by
 unfold rdL
 have h0 := h.f0
 have h1 := h.f1
 have h2 := h.f2
 have h3 := h.op1
 have h4 := h.op2
 generalize l0 s pc = op at *
 generalize l1 s pc = r at *
 generalize l2 s pc = x at *
 generalize l3 s pc = y at *
 intro z hz
 unfold rdO at hz
 have hc : op = 1 \/ op = 2 \/ op = 3 \/ op = 4 \/ op = 5 \/ op = 6 \/ op = 7 \/ op = 8 \/ op = 9 \/ op = 10 \/ op = 11 \/ op = 12 \/ op = 13 \/ op = 14 \/ op = 15 \/ op = 16 \/ op = 17 \/ op = 18 \/ op = 19 \/ op = 20 \/ op = 21 \/ op = 22 \/ op = 23 \/ op = 24 \/ op = 25 \/ op = 26 \/ op = 27 \/ op = 28 \/ op = 29 \/ op = 30 \/ op = 31 \/ op = 32 \/ op = 33 := by omega
 rcases hc with rfl | rfl | rfl | rfl | rfl | rfl | rfl | rfl | rfl | rfl | rfl | rfl | rfl | rfl | rfl | rfl | rfl | rfl | rfl | rfl | rfl | rfl | rfl | rfl | rfl | rfl | rfl | rfl | rfl | rfl | rfl | rfl | rfl
 all_goals simp [jo,ruN,rul] at h0 h1 h2 hz
 all_goals first
  | omega
  | (have := jb5 hr h1 z hz;omega)
theorem jfi {k : Nat} (hw : ∀ pc,r0 s k <= pc -> pc < en s k -> Wl s k pc) : (fnS s k).ahead := by
 intro i hi
 have hi' : (decide (i < en s k - r0 s k) && jmB (l0 s (r0 s k + i))) = true := hi
 rw [Bool.and_eq_true,decide_eq_true_eq] at hi'
 have := (hw (r0 s k + i) (by omega) (by omega)).jump hi'.2
 show i < l2 s (r0 s k + i) - r0 s k
 omega
structure Ck (s : ByteArray) : Prop where
 res : res s = none
 row : bad (jt s) (hF s) 0 = none
 num : ∀ i,i < hN s -> -4611686018427387904 <= kn s i /\ kn s i <= 4611686018427387903
 fun0 : 0 < hF s
 wl : ∀ k,k < hF s -> ∀ pc,r0 s k <= pc -> pc < en s k -> Wl s k pc
 ok : ∀ k,k < hF s -> ∀ i,i < en s k - r0 s k -> (fnS s k).ok (fun i => rdL s (r0 s k + i)) i = true
theorem jdA (h : ckR s = (0,0)) : Ck s := by
 unfold ckR at h
 cases hr : Li.res s with
 | some e =>
   rw [hr] at h
   simp only at h
   subst h
   exfalso
   unfold Li.res at hr
   split at hr
   ·injection hr with hr;injection hr with a b;omega
   ·split at hr
    ·injection hr with hr;injection hr with a b;omega
    ·split at hr
     ·injection hr with hr;injection hr with a b;omega
     ·split at hr
      ·injection hr with hr;injection hr with a b;omega
      ·cases hr
 | none =>
   rw [hr] at h
   simp only at h
   obtain ⟨h1,h2,h3,h4⟩ := jbw hr
   cases ho : jz (opK s) (hF s) 0 with
   | some p => rw [ho] at h;simp at h
   | none =>
     rw [ho] at h
     simp only at h
     cases hf : jz (flK s) (hF s) 0 with
     | some p => rw [hf] at h;simp at h
     | none =>
       refine ⟨hr,h3,fun i hi => ?_,?_,fun k hk pc h5 h6 => ?_,fun k hk i hi => ?_⟩
       ·have := jay _ _ h4 i (by omega) (by omega)
        unfold jX at this
        simpa using this
       ·have := jco h2
        omega
       ·have := jbu _ _ ho k (by omega) (by omega)
        unfold opK at this
        exact Wl.of (jay _ _ this pc (by omega) (by omega))
       ·have := jbu _ _ hf k (by omega) (by omega)
        unfold flK at this
        rw [Option.map_eq_none_iff] at this
        exact jay _ _ this i (by omega) (by omega)
structure Al (s : ByteArray) (k pc : Nat) (A : Nat -> Bool) : Prop where
 kl : k < hF s
 lo : r0 s k <= pc
 hi : pc < en s k
 T : (fnS s k).T (pc - r0 s k) = some A
theorem Ck.entry (h : Ck s) {k : Nat} (hk : k < hF s) : Al s k (r0 s k) fun z => (tkF s k).contains z :=
 ⟨hk,jN,(jal h.row hk).1,by rw [Nat.sub_self];rfl⟩
theorem Al.wl (h : Ck s) {k pc : Nat} {A : Nat -> Bool} (a : Al s k pc A) : Wl s k pc := h.wl k a.kl pc a.lo a.hi
theorem Al.reads (h : Ck s) {k pc : Nat} {A : Nat -> Bool} (a : Al s k pc A) {z : Nat} (hz : z ∈ rdL s pc) : A z = true := by
 have h1 := h.ok k a.kl (pc - r0 s k) (by have := a.hi;have := a.lo;omega)
 unfold Ro.Fn.ok at h1
 rw [a.T] at h1
 simp only at h1
 rw [show r0 s k + (pc - r0 s k) = pc by have := a.lo;omega] at h1
 exact List.all_eq_true.1 h1 z hz
def jcJ (s : ByteArray) (pc : Nat) (A : Nat -> Bool) (z : Nat) : Bool := lyO (l0 s pc) (l1 s pc) (l2 s pc) z || (A z && !loO (l0 s pc) (l2 s pc) z)
theorem Al.to (h : Ck s) {k pc pc' : Nat} {A : Nat -> Bool} (a : Al s k pc A) (hp : (fnS s k).pr (pc - r0 s k) (pc' - r0 s k)) (h1 : r0 s k <= pc') (h2 : pc' < en s k) :
 ∃ B,Al s k pc' B /\ ∀ z,B z = true -> jcJ s pc A z = true := by
 have ha := jfi (h.wl k a.kl)
 have hlt := Ro.pr_lt ha hp
 obtain ⟨B,hB⟩ := (Ro.st_some ha (pc' - r0 s k) (pc' - r0 s k)).2 (.inr ⟨_,hlt,hp,A,a.T⟩)
 refine ⟨B,⟨a.kl,h1,h2,hB⟩,fun z hz => ?_⟩
 have := ((Ro.st_val ha _ _ B hB z).1 hz).2 _ hlt hp A a.T
 unfold Ro.Fn.aft fnS at this
 simp only [show r0 s k + (pc - r0 s k) = pc by have := a.lo;omega] at this
 exact this
theorem Al.next (h : Ck s) {k pc : Nat} {A : Nat -> Bool} (a : Al s k pc A) (ho : jx (l0 s pc) = false) :
 ∃ B,Al s k (pc + 1) B /\ ∀ z,B z = true -> jcJ s pc A z = true := by
 have h1 := a.lo
 have h2 : pc + 1 < en s k := by
  rcases (a.wl h).on with h3 | h3
  ·rw [ho] at h3;cases h3
  ·exact h3
 refine a.to h (.inl ⟨?_,by omega⟩) (by omega) h2
 show (!jx (l0 s (r0 s k + (pc - r0 s k)))) = true
 rw [show r0 s k + (pc - r0 s k) = pc by omega,ho];rfl
theorem Al.jump (h : Ck s) {k pc : Nat} {A : Nat -> Bool} (a : Al s k pc A) (hj : jmB (l0 s pc) = true) :
 ∃ B,Al s k (l2 s pc) B /\ ∀ z,B z = true -> jcJ s pc A z = true := by
 have h1 := a.lo
 have h3 := a.hi
 have h2 := (a.wl h).jump hj
 refine a.to h (.inr ⟨?_,?_⟩) (by omega) h2.2
 ·show (decide (pc - r0 s k < en s k - r0 s k) && jmB (l0 s (r0 s k + (pc - r0 s k)))) = true
  rw [show r0 s k + (pc - r0 s k) = pc by omega,hj,decide_eq_true (by omega)];rfl
 ·show _ = l2 s (r0 s k + (pc - r0 s k)) - r0 s k
  rw [show r0 s k + (pc - r0 s k) = pc by omega]
end Go.Proofs.YtjmgolahkgalbaaGreatDoor
namespace Go.Proofs.YtjmgolahkgalbaaGreatDoor
namespace Ko
open Go.RowKit Li
variable {s : ByteArray}
inductive V where
 | n (z : Int)
 | b (i : Nat)
def z0 : V := .n 0
def rg (l : List V) (x : Nat) : V := l.getD x z0
structure Fm where
 back : Nat
 sl : List V
structure Mc where
 pc : Nat
 regs : List V
 fr : List Fm
 gcs : Nat
 err : Nat
 pos : Nat
 val : Int
 out : List Int
 steps : Nat
 read : Nat
def w63 (z : Int) : Int := (z + 4611686018427387904) % 9223372036854775808 - 4611686018427387904
def inR (z : Int) : Prop := -4611686018427387904 <= z /\ z <= 4611686018427387903
theorem J2 (z : Int) : inR (w63 z) := by unfold inR w63;omega
def ar (op : Nat) (a b : Int) : Int :=
 if op = 7 then a + b else if op = 8 then a - b else if op = 9 then a * b else if op = 10 then a.tdiv b else if op = 11 then a.tmod b
 else if op = 12 then (if a = b then 1 else 0) else if op = 13 then (if a < b then 1 else 0) else if op = 14 then (if a <= b then 1 else 0)
 else if op = 15 then -a else (if a = 0 then 1 else 0)
inductive Ef where
 | reg (r : Nat) (v : V)
 | slot (x : Nat) (v : V)
 | both (x r : Nat) (v : V)
 | jump (pc : Nat)
 | skip
 | stop (e p : Nat)
 | fld (i a : Nat) (v : V)
 | prn (z : Int)
 | inp (r : Nat) (z : Int)
 | call (f : Nat) (t : Bool)
 | ret
 | done (z : Int)
 | make (r n : Nat) (f : Int) (v : V)
def J4 (fr : List Fm) : List V := match fr with
 | f :: _ => f.sl
 | [] => []
abbrev Bk := Nat -> List V × Int
def two (a b : V) (k : Int -> Int -> Ef) : Ef := match a,b with
 | .n x,.n y => k x y
 | _,_ => .stop 50 0
def one (a : V) (k : Int -> Ef) : Ef := match a with
 | .n x => k x
 | .b _ => .stop 50 0
def blk (a : V) (k : Nat -> Ef) : Ef := match a with
 | .b i => k i
 | .n _ => .stop 50 0
def bln (a b : V) (k : Nat -> Int -> Ef) : Ef := match a,b with
 | .b i,.n z => k i z
 | _,_ => .stop 50 0
def efO (s : ByteArray) (bk : Bk) (ins : List Int) (m : Mc) (op r x y p : Nat) : Ef :=
 let g := rg m.regs
 if op = 1 then .reg r (.n (kn s x))
 else if op = 2 then .reg r (g x)
 else if op = 3 then .reg r (rg (J4 m.fr) x)
 else if op = 4 then .both x r (rg (J4 m.fr) x)
 else if op = 5 then .slot x (g r)
 else if op = 6 then .slot x z0
 else if op <= 14 then two (g x) (g y) fun a b => if (op = 10 \/ op = 11) /\ b = 0 then .stop 32 p else .reg r (.n (w63 (ar op a b)))
 else if op <= 16 then one (g x) fun a => .reg r (.n (w63 (ar op a 0)))
 else if op = 17 then .jump x
 else if op = 18 then one (g r) fun a => if a = 0 then .jump x else .skip
 else if op = 19 then .make r x (-1) z0
 else if op = 20 then .make r x y z0
 else if op = 21 then blk (g r) fun i => if x < (bk i).1.length then .fld i x (g y) else .stop 50 0
 else if op = 22 then blk (g x) fun i => if y < (bk i).1.length then .reg r (rg (bk i).1 y) else .stop 50 0
 else if op = 23 then one (g x) fun a => if a < 0 \/ 32 < a then .stop 31 p else .make r a.toNat (-1) (g y)
 else if op = 24 then bln (g x) (g y) fun i a => if 0 <= a /\ a < (bk i).1.length then .reg r (rg (bk i).1 a.toNat) else .stop 30 p
 else if op = 25 then bln (g r) (g x) fun i a => if 0 <= a /\ a < (bk i).1.length then .fld i a.toNat (g y) else .stop 30 p
 else if op = 26 then blk (g x) fun i => .reg r (.n (bk i).1.length)
 else if op = 27 then one (g r) fun a => if 16 <= m.out.length then .stop 34 p else .prn a
 else if op = 28 then (match ins[m.read]? with
  | none => .stop 33 p
  | some z => .inp r (w63 z))
 else if op = 29 then .call x false
 else if op = 30 then blk (g 7) fun i => if (bk i).2 < 0 \/ r1 s (bk i).2.toNat ≠ x then .stop 50 0 else .call (bk i).2.toNat false
 else if op = 31 then .call x true
 else if op = 32 then blk (g 7) fun i => if (bk i).2 < 0 \/ r1 s (bk i).2.toNat ≠ x then .stop 50 0 else .call (bk i).2.toNat true
 else if 1 < m.fr.length then .ret
 else one (g 0) fun a => .done a
def ef (s : ByteArray) (bk : Bk) (ins : List Int) (m : Mc) : Ef := efO s bk ins m (l0 s m.pc) (l1 s m.pc) (l2 s m.pc) (l3 s m.pc) (l4 s m.pc)
def jad (fr : List Fm) (x : Nat) (v : V) : List Fm := match fr with
 | f :: r => { f with sl := f.sl.set x v } :: r
 | [] => []
def Mc.on (m : Mc) : Mc := { m with pc := m.pc + 1,steps := m.steps + 1 }
def J8 (s : ByteArray) (f back : Nat) : Fm := ⟨back,List.replicate (r3 s f) z0⟩
def ap (s : ByteArray) (depth : Nat) (m : Mc) : Ef -> Mc
 | .reg r v => { m.on with regs := m.regs.set r v }
 | .slot x v => { m.on with fr := jad m.fr x v }
 | .both x r v => { m.on with fr := jad m.fr x z0,regs := m.regs.set r v }
 | .jump pc => { m.on with pc := pc }
 | .stop e p => { m.on with err := e,pos := p }
 | .prn z => { m.on with out := m.out ++ [z] }
 | .inp r z => { m.on with regs := m.regs.set r (.n z),read := m.read + 1 }
 | .call f true => { m.on with pc := r0 s f,fr := J8 s f ((m.fr.headD ⟨0,[]⟩).back) :: m.fr.tail }
 | .call f false => if depth <= m.fr.length then { m.on with err := 41,pos := 0 } else { m.on with pc := r0 s f,fr := J8 s f (m.pc + 1) :: m.fr }
 | .ret => { m.on with pc := (m.fr.headD ⟨0,[]⟩).back,fr := m.fr.tail }
 | .done z => { m.on with err := 0,pos := 0,val := z }
 | _ => m.on
structure CB where
 use : Bool
 fn : Int
 fs : List V
structure DB where
 fs : List V
 fn : Int
def bkC (bs : List CB) : Bk := fun i => match bs[i]? with
 | some b => (b.fs,b.fn)
 | none => ([],-1)
def bkD (ds : List DB) : Bk := fun i => match ds[i]? with
 | some b => (b.fs,b.fn)
 | none => ([],-1)
def jJ (bs : List CB) : Nat := (bs.map fun b => if b.use then b.fs.length + 1 else 0).sum
inductive Rch (bk : Bk) (fr : List Fm) (v : V) : Nat -> Prop where
 | more {i : Nat} : v = .b i -> Rch bk fr v i
 | slot {i : Nat} {f : Fm} : f ∈ fr -> .b i ∈ f.sl -> Rch bk fr v i
 | kid {i j : Nat} : Rch bk fr v i -> .b j ∈ (bk i).1 -> Rch bk fr v j
structure ja2 (bs : List CB) (fr : List Fm) (v : V) (bs' : List CB) : Prop where
 len : bs'.length = bs.length
 keep : ∀ i b,bs[i]? = some b -> b.use = true -> Rch (bkC bs) fr v i -> bs'[i]? = some b
 drop : ∀ i b,bs[i]? = some b -> (b.use = false \/ ¬ Rch (bkC bs) fr v i) -> ∃ b',bs'[i]? = some b' /\ b'.use = false
def jaP (ds : List DB) (fr : List Fm) (v : V) (u : Nat) : Prop :=
 ∃ J : List Nat,J.Nodup /\ (∀ j,j ∈ J ↔ Rch (bkD ds) fr v j) /\ u = (J.map fun j => (bkD ds j).1.length + 1).sum
def Put (bs : List CB) (at' : Nat) (b : CB) (bs' : List CB) : Prop :=
 (at' = bs.length /\ bs' = bs ++ [b]) \/ (∃ b0,bs[at']? = some b0 /\ b0.use = false /\ bs' = bs.set at' b)
def jmr (half : Nat) (m : Mc) (bs : List CB) (r n : Nat) (f : Int) (v : V) (m' : Mc) (bs' : List CB) : Prop :=
 ∃ bs1 g,(half < jJ bs + n + 1 -> ja2 bs m.fr v bs1 /\ g = m.gcs + 1) /\ (jJ bs + n + 1 <= half -> bs1 = bs /\ g = m.gcs) /\
   ((half < jJ bs1 + n + 1 /\ m' = { m.on with gcs := g,err := 40,pos := 0 } /\ bs' = bs1) \/
    (jJ bs1 + n + 1 <= half /\ ∃ a,Put bs1 a ⟨true,f,List.replicate n v⟩ bs' /\ m' = { m.on with gcs := g,regs := (List.replicate 8 z0).set r (.b a) }))
def jmq (half : Nat) (m : Mc) (ds : List DB) (u r n : Nat) (f : Int) (v : V) (m' : Mc) (ds' : List DB) (u' : Nat) : Prop :=
 ∃ u1 g,(half < u + n + 1 -> jaP ds m.fr v u1 /\ g = m.gcs + 1) /\ (u + n + 1 <= half -> u1 = u /\ g = m.gcs) /\
   ((half < u1 + n + 1 /\ m' = { m.on with gcs := g,err := 40,pos := 0 } /\ ds' = ds /\ u' = u1) \/
    (u1 + n + 1 <= half /\ ds' = ds ++ [⟨List.replicate n v,f⟩] /\ u' = u1 + n + 1 /\ m' = { m.on with gcs := g,regs := m.regs.set r (.b ds.length) }))
def setF (fs : List V) (a : Nat) (v : V) : List V := fs.set a v
def jav (bs : List CB) (i a : Nat) (v : V) : List CB := match bs[i]? with
 | some b => bs.set i { b with fs := b.fs.set a v }
 | none => bs
def jaY (ds : List DB) (i a : Nat) (v : V) : List DB := match ds[i]? with
 | some b => ds.set i { b with fs := b.fs.set a v }
 | none => ds
def Ju (s : ByteArray) (half depth : Nat) (ins : List Int) (m : Mc) (bs : List CB) (m' : Mc) (bs' : List CB) : Prop :=
 match ef s (bkC bs) ins m with
 | .make r n f v => jmr half m bs r n f v m' bs'
 | .fld i a v => m' = m.on /\ bs' = jav bs i a v
 | e => m' = ap s depth m e /\ bs' = bs
def JN (s : ByteArray) (half depth : Nat) (ins : List Int) (m : Mc) (ds : List DB) (u : Nat) (m' : Mc) (ds' : List DB) (u' : Nat) : Prop :=
 match ef s (bkD ds) ins m with
 | .make r n f v => jmq half m ds u r n f v m' ds' u'
 | .fld i a v => m' = m.on /\ ds' = jaY ds i a v /\ u' = u
 | e => m' = ap s depth m e /\ ds' = ds /\ u' = u
def VR (β : Nat -> Option Nat) : V -> V -> Prop
 | .n z,.n z' => z = z' /\ inR z
 | .b i,.b j => β i = some j
 | _,_ => False
def LR (β : Nat -> Option Nat) (a b : List V) : Prop := a.length = b.length /\ ∀ i,i < a.length -> VR β (rg a i) (rg b i)
def FR (β : Nat -> Option Nat) : List Fm -> List Fm -> Prop
 | [],[] => True
 | f :: r,g :: t => f.back = g.back /\ LR β f.sl g.sl /\ FR β r t
 | _,_ => False
def JD (s : ByteArray) : Nat -> List Fm -> Prop
 | _,[] => False
 | k,[f] => f.sl.length = r3 s k
 | k,f :: g :: r => f.sl.length = r3 s k /\ ∃ k' B,Al s k' f.back B /\ (∀ z,z < 8 -> B z = true -> z = 0) /\ JD s k' (g :: r)
structure Hp (s : ByteArray) (β : Nat -> Option Nat) (bs : List CB) (ds : List DB) : Prop where
 inj : ∀ i i' j,β i = some j -> β i' = some j -> i = i'
 dom : ∀ i,(∃ j,β i = some j) ↔ ∃ b,bs[i]? = some b /\ b.use = true
 map : ∀ i j,β i = some j -> j < ds.length /\ (bkC bs i).2 = (bkD ds j).2 /\ LR β (bkC bs i).1 (bkD ds j).1
 fn : ∀ i j,β i = some j -> (bkC bs i).2 = -1 \/ ∃ f : Nat,(bkC bs i).2 = f /\ f < hF s
structure Eqs (m : Mc) (bs : List CB) (d : Mc) (u : Nat) : Prop where
 gcs : m.gcs = d.gcs
 err : m.err = d.err
 pos : m.pos = d.pos
 val : m.val = d.val
 out : m.out = d.out
 steps : m.steps = d.steps
 read : m.read = d.read
 used : u = jJ bs
 big : jJ bs <= 4096
structure Sim (s : ByteArray) (β : Nat -> Option Nat) (m : Mc) (bs : List CB) (d : Mc) (ds : List DB) (u k : Nat) (A : Nat -> Bool) : Prop where
 eq : Eqs m bs d u
 hp : Hp s β bs ds
 fr : FR β m.fr d.fr
 ch : JD s k m.fr
 pc : m.pc = d.pc
 al : Al s k m.pc A
 ml : m.regs.length = 8
 dl : d.regs.length = 8
 cl : ∀ z,z < 8 -> ∃ v,VR β (rg m.regs z) v
 reg : ∀ z,z < 8 -> A z = true -> VR β (rg m.regs z) (rg d.regs z)
def jaO (op r x : Nat) (A : Nat -> Bool) (z : Nat) : Bool := lyO op r x z || (A z && !loO op x z)
def jcL (op r x : Nat) (A : Nat -> Bool) : Prop := ∀ z,z < 8 -> jaO op r x A z = true -> z = r \/ A z = true
def Same (op r x : Nat) (A : Nat -> Bool) : Prop := ∀ z,z < 8 -> jaO op r x A z = true -> A z = true
def jdI (op r x q : Nat) (A : Nat -> Bool) : Prop := ∀ z,z < 8 -> jaO op r x A z = true -> z = q
inductive EfR (s : ByteArray) (β : Nat -> Option Nat) (bs : List CB) (m : Mc) (op r x : Nat) (A : Nat -> Bool) : Ef -> Ef -> Prop where
 | reg {v v' : V} : jx op = false -> r < 8 -> VR β v v' -> jcL op r x A -> EfR s β bs m op r x A (.reg r v) (.reg r v')
 | slot {v v' : V} : jx op = false -> VR β v v' -> Same op r x A -> EfR s β bs m op r x A (.slot x v) (.slot x v')
 | both {v v' : V} : jx op = false -> r < 8 -> VR β v v' -> jcL op r x A -> EfR s β bs m op r x A (.both x r v) (.both x r v')
 | jump : jmB op = true -> Same op r x A -> EfR s β bs m op r x A (.jump x) (.jump x)
 | skip : jx op = false -> Same op r x A -> EfR s β bs m op r x A .skip .skip
 | stop {e q : Nat} : e ≠ 42 -> EfR s β bs m op r x A (.stop e q) (.stop e q)
 | fld {i j a : Nat} {v v' : V} : jx op = false -> β i = some j -> a < (bkC bs i).1.length -> VR β v v' -> Same op r x A -> EfR s β bs m op r x A (.fld i a v) (.fld j a v')
 | prn {z : Int} : jx op = false -> Same op r x A -> EfR s β bs m op r x A (.prn z) (.prn z)
 | inp {z : Int} : jx op = false -> r < 8 -> inR z -> jcL op r x A -> EfR s β bs m op r x A (.inp r z) (.inp r z)
 | call {f : Nat} : jx op = false -> f < hF s -> (∀ z ∈ tkF s f,A z = true) -> jdI op r x 0 A -> EfR s β bs m op r x A (.call f false) (.call f false)
 | tail {f : Nat} : f < hF s -> (∀ z ∈ tkF s f,A z = true) -> EfR s β bs m op r x A (.call f true) (.call f true)
 | ret : 1 < m.fr.length -> A 0 = true -> EfR s β bs m op r x A .ret .ret
 | done {z : Int} : EfR s β bs m op r x A (.done z) (.done z)
 | make {n : Nat} {f : Int} {v v' : V} : jx op = false -> r < 8 -> VR β v v' -> (f = -1 \/ ∃ g : Nat,f = g /\ g < hF s) -> jdI op r x r A -> EfR s β bs m op r x A (.make r n f v) (.make r n f v')
theorem jaj (β : Nat -> Option Nat) : VR β z0 z0 := ⟨rfl,by unfold inR;omega⟩
theorem jaA {β : Nat -> Option Nat} {a a' b b' : V} {k k' : Int -> Int -> Ef} {R : Ef -> Ef -> Prop} (ha : VR β a a') (hb : VR β b b') (hs : R (.stop 50 0) (.stop 50 0)) (hk : ∀ x y,inR x -> inR y -> R (k x y) (k' x y)) : R (two a b k) (two a' b' k') := by
 cases a with
 | n x =>
   cases a' with
   | n x' =>
     obtain ⟨rfl,h1⟩ := ha
     cases b with
     | n y =>
       cases b' with
       | n y' => obtain ⟨rfl,h2⟩ := hb;exact hk x y h1 h2
       | b j => exact hb.elim
     | b i =>
       cases b' with
       | n y' => exact hb.elim
       | b j => exact hs
   | b j => exact ha.elim
 | b i =>
   cases a' with
   | n x' => exact ha.elim
   | b j => exact hs
theorem jbc {β : Nat -> Option Nat} {a a' : V} {k k' : Int -> Ef} {R : Ef -> Ef -> Prop} (ha : VR β a a') (hs : R (.stop 50 0) (.stop 50 0)) (hk : ∀ x,inR x -> R (k x) (k' x)) : R (one a k) (one a' k') := by
 cases a with
 | n x =>
   cases a' with
   | n x' => obtain ⟨rfl,h1⟩ := ha;exact hk x h1
   | b j => exact ha.elim
 | b i =>
   cases a' with
   | n x' => exact ha.elim
   | b j => exact hs
theorem jbU {β : Nat -> Option Nat} {a a' : V} {k k' : Nat -> Ef} {R : Ef -> Ef -> Prop} (ha : VR β a a') (hs : R (.stop 50 0) (.stop 50 0)) (hk : ∀ i j,β i = some j -> R (k i) (k' j)) : R (blk a k) (blk a' k') := by
 cases a with
 | n x =>
   cases a' with
   | n x' => exact hs
   | b j => exact ha.elim
 | b i =>
   cases a' with
   | n x' => exact ha.elim
   | b j => exact hk i j ha
theorem jfI {β : Nat -> Option Nat} {a a' b b' : V} {k k' : Nat -> Int -> Ef} {R : Ef -> Ef -> Prop} (ha : VR β a a') (hb : VR β b b') (hs : R (.stop 50 0) (.stop 50 0)) (hk : ∀ i j z,β i = some j -> inR z -> R (k i z) (k' j z)) : R (bln a b k) (bln a' b' k') := by
 cases a with
 | n x =>
   cases a' with
   | n x' => exact hs
   | b j => exact ha.elim
 | b i =>
   cases a' with
   | n x' => exact ha.elim
   | b j =>
     cases b with
     | n y =>
       cases b' with
       | n y' => obtain ⟨rfl,h2⟩ := hb;exact hk i j y ha h2
       | b j => exact hb.elim
     | b i =>
       cases b' with
       | n y' => exact hb.elim
       | b j => exact hs
theorem jfe {β : Nat -> Option Nat} {a b : List Fm} (h : FR β a b) : LR β (J4 a) (J4 b) := by
 cases a with
 | nil =>
   cases b with
   | nil => exact ⟨rfl,fun i hi => absurd hi (Nat.not_lt_zero i)⟩
   | cons g t => exact h.elim
 | cons f r =>
   cases b with
   | nil => exact h.elim
   | cons g t => exact h.2.1
theorem jcs {β : Nat -> Option Nat} : ∀ {a b : List Fm},FR β a b -> a.length = b.length
 | [],[],_ => rfl
 | f :: r,g :: t,h => congrArg (· + 1) (jcs h.2.2)
theorem jdC {k : Nat} {fr : List Fm} (h : JD s k fr) : (J4 fr).length = r3 s k := by
 match fr,h with
 | [f],h => exact h
 | f :: g :: r,h => exact h.1
theorem Jl {op r x : Nat} {A : Nat -> Bool} (h1 : ∀ z,z < 8 -> lyO op r x z = true -> z = r) : jcL op r x A := by
 intro z hz h
 unfold jaO at h
 rw [Bool.or_eq_true,Bool.and_eq_true] at h
 rcases h with h | h
 ·exact .inl (h1 z hz h)
 ·exact .inr h.1
theorem jaB {op r x : Nat} {A : Nat -> Bool} (h1 : ∀ z,z < 8 -> lyO op r x z = false) : Same op r x A := by
 intro z hz h
 unfold jaO at h
 rw [h1 z hz,Bool.false_or,Bool.and_eq_true] at h
 exact h.1
theorem jbM {op r x q : Nat} {A : Nat -> Bool} (h1 : ∀ z,z < 8 -> lyO op r x z = true -> z = q) (h2 : ∀ z,z < 8 -> loO op x z = true) : jdI op r x q A := by
 intro z hz h
 unfold jaO at h
 rw [h2 z hz,Bool.not_true,Bool.and_false,Bool.or_false] at h
 exact h1 z hz h
theorem jdR {A : Nat -> Bool} {f x : Nat} (h1 : r1 s f = x) (h2 : ∀ z ∈ 7 :: List.range x,A z = true) : ∀ z ∈ tkF s f,A z = true := by
 intro z hz
 unfold tkF at hz
 rw [h1,List.mem_append] at hz
 rcases hz with hz | hz
 ·exact h2 z (List.mem_cons_of_mem _ hz)
 ·split at hz
  ·exact h2 z (by rw [List.mem_singleton] at hz;rw [hz];exact List.mem_cons_self)
  ·cases hz
theorem jko (hck : Ck s) {β : Nat -> Option Nat} {m d : Mc} {bs : List CB} {ds : List DB} {u k : Nat} {A : Nat -> Bool} (S : Sim s β m bs d ds u k A) (ins : List Int) (hbig : ∀ i j,β i = some j -> inR ((bkC bs i).1.length : Nat)) :
 EfR s β bs m (l0 s m.pc) (l1 s m.pc) (l2 s m.pc) A (ef s (bkC bs) ins m) (ef s (bkD ds) ins d) := by
 have hw := S.al.wl hck
 have hrd : ∀ z ∈ rdL s m.pc,A z = true := fun z hz => S.al.reads hck hz
 have hR : ∀ z,z < 8 -> z ∈ rdL s m.pc -> VR β (rg m.regs z) (rg d.regs z) := fun z h1 h2 => S.reg z h1 (hrd z h2)
 have hsl : ∀ x,x < r3 s k -> VR β (rg (J4 m.fr) x) (rg (J4 d.fr) x) := fun x hx => (jfe S.fr).2 x (by rw [jdC S.ch];exact hx)
 have hlen := jcs S.fr
 have hN := hck.num
 have hmap := S.hp.map
 have hfn := S.hp.fn
 have hout := S.eq.out
 have hread := S.eq.read
 unfold ef
 rw [<- S.pc]
 unfold rdL at hrd hR
 have h0 := hw.f0
 have h1 := hw.f1
 have h2 := hw.f2
 have h3 := hw.op1
 have h4 := hw.op2
 generalize l0 s m.pc = op at *
 generalize l1 s m.pc = r at *
 generalize l2 s m.pc = x at *
 generalize l3 s m.pc = y at *
 generalize l4 s m.pc = p at *
 have hst : ∀ e q,e ≠ 42 -> EfR s β bs m op r x A (.stop e q) (.stop e q) := fun e q h => .stop h
 have h5 := hst 50 0 (by decide)
 have hc : op = 1 \/ op = 2 \/ op = 3 \/ op = 4 \/ op = 5 \/ op = 6 \/ op = 7 \/ op = 8 \/ op = 9 \/ op = 10 \/ op = 11 \/ op = 12 \/ op = 13 \/ op = 14 \/ op = 15 \/ op = 16 \/ op = 17 \/ op = 18 \/ op = 19 \/ op = 20 \/ op = 21 \/ op = 22 \/ op = 23 \/ op = 24 \/ op = 25 \/ op = 26 \/ op = 27 \/ op = 28 \/ op = 29 \/ op = 30 \/ op = 31 \/ op = 32 \/ op = 33 := by omega
 rcases hc with rfl | rfl | rfl | rfl | rfl | rfl | rfl | rfl | rfl | rfl | rfl | rfl | rfl | rfl | rfl | rfl | rfl | rfl | rfl | rfl | rfl | rfl | rfl | rfl | rfl | rfl | rfl | rfl | rfl | rfl | rfl | rfl | rfl
 all_goals simp [jo,ruN,rul] at h0 h1 h2
 all_goals simp only [efO,Nat.reduceEqDiff,Nat.reduceLeDiff,↓reduceIte,false_or,or_false,false_and,true_or,or_true,true_and]
 ·exact .reg rfl h0 ⟨rfl,hN x h1⟩ (Jl (by simp [lyO]))
 ·exact .reg rfl h0 (hR x h1 (by simp [rdO])) (Jl (by simp [lyO]))
 ·exact .reg rfl h0 (hsl x h1) (Jl (by simp [lyO]))
 ·exact .both rfl h0 (hsl x h1) (Jl (by simp [lyO]))
 ·exact .slot rfl (hR r h0 (by simp [rdO])) (jaB (by simp [lyO];omega))
 ·exact .slot rfl (jaj β) (jaB (by simp [lyO]))
 ·exact jaA (hR x h1 (by simp [rdO])) (hR y h2 (by simp [rdO])) h5 fun a b ha hb => .reg rfl h0 ⟨rfl,J2 _⟩ (Jl (by simp [lyO]))
 ·exact jaA (hR x h1 (by simp [rdO])) (hR y h2 (by simp [rdO])) h5 fun a b ha hb => .reg rfl h0 ⟨rfl,J2 _⟩ (Jl (by simp [lyO]))
 ·exact jaA (hR x h1 (by simp [rdO])) (hR y h2 (by simp [rdO])) h5 fun a b ha hb => .reg rfl h0 ⟨rfl,J2 _⟩ (Jl (by simp [lyO]))
 ·refine jaA (hR x h1 (by simp [rdO])) (hR y h2 (by simp [rdO])) h5 fun a b ha hb => ?_
  split
  ·exact hst _ _ (by decide)
  ·exact .reg rfl h0 ⟨rfl,J2 _⟩ (Jl (by simp [lyO]))
 ·refine jaA (hR x h1 (by simp [rdO])) (hR y h2 (by simp [rdO])) h5 fun a b ha hb => ?_
  split
  ·exact hst _ _ (by decide)
  ·exact .reg rfl h0 ⟨rfl,J2 _⟩ (Jl (by simp [lyO]))
 ·exact jaA (hR x h1 (by simp [rdO])) (hR y h2 (by simp [rdO])) h5 fun a b ha hb => .reg rfl h0 ⟨rfl,J2 _⟩ (Jl (by simp [lyO]))
 ·exact jaA (hR x h1 (by simp [rdO])) (hR y h2 (by simp [rdO])) h5 fun a b ha hb => .reg rfl h0 ⟨rfl,J2 _⟩ (Jl (by simp [lyO]))
 ·exact jaA (hR x h1 (by simp [rdO])) (hR y h2 (by simp [rdO])) h5 fun a b ha hb => .reg rfl h0 ⟨rfl,J2 _⟩ (Jl (by simp [lyO]))
 ·exact jbc (hR x h1 (by simp [rdO])) h5 fun a ha => .reg rfl h0 ⟨rfl,J2 _⟩ (Jl (by simp [lyO]))
 ·exact jbc (hR x h1 (by simp [rdO])) h5 fun a ha => .reg rfl h0 ⟨rfl,J2 _⟩ (Jl (by simp [lyO]))
 ·exact .jump rfl (jaB (by simp [lyO]))
 ·refine jbc (hR r h0 (by simp [rdO])) h5 fun a ha => ?_
  split
  ·exact .jump rfl (jaB (by simp [lyO]))
  ·exact .skip rfl (jaB (by simp [lyO]))
 ·exact .make rfl h0 (jaj β) (.inl rfl) (jbM (by simp [lyO]) (by simp [loO]))
 ·exact .make rfl h0 (jaj β) (.inr ⟨y,rfl,h2⟩) (jbM (by simp [lyO]) (by simp [loO]))
 ·refine jbU (hR r h0 (by simp [rdO])) h5 fun i j hij => ?_
  rw [<- (hmap i j hij).2.2.1]
  split
  ·rename_i hx
   exact .fld rfl hij hx (hR y h2 (by simp [rdO])) (jaB (by simp [lyO]))
  ·exact h5
 ·refine jbU (hR x h1 (by simp [rdO])) h5 fun i j hij => ?_
  rw [<- (hmap i j hij).2.2.1]
  split
  ·rename_i hx
   exact .reg rfl h0 ((hmap i j hij).2.2.2 _ hx) (Jl (by simp [lyO]))
  ·exact h5
 ·refine jbc (hR x h1 (by simp [rdO])) h5 fun a ha => ?_
  split
  ·exact hst _ _ (by decide)
  ·exact .make rfl h0 (hR y h2 (by simp [rdO])) (.inl rfl) (jbM (by simp [lyO]) (by simp [loO]))
 ·refine jfI (hR x h1 (by simp [rdO])) (hR y h2 (by simp [rdO])) h5 fun i j a hij ha => ?_
  rw [<- (hmap i j hij).2.2.1]
  split
  ·rename_i hx
   exact .reg rfl h0 ((hmap i j hij).2.2.2 _ (by omega)) (Jl (by simp [lyO]))
  ·exact hst _ _ (by decide)
 ·refine jfI (hR r h0 (by simp [rdO])) (hR x h1 (by simp [rdO])) h5 fun i j a hij ha => ?_
  rw [<- (hmap i j hij).2.2.1]
  split
  ·rename_i hx
   exact .fld rfl hij (by omega) (hR y h2 (by simp [rdO])) (jaB (by simp [lyO]))
  ·exact hst _ _ (by decide)
 ·refine jbU (hR x h1 (by simp [rdO])) h5 fun i j hij => ?_
  rw [<- (hmap i j hij).2.2.1]
  exact .reg rfl h0 ⟨rfl,hbig i j hij⟩ (Jl (by simp [lyO]))
 ·refine jbc (hR r h0 (by simp [rdO])) h5 fun a ha => ?_
  rw [<- hout]
  split
  ·exact hst _ _ (by decide)
  ·exact .prn rfl (jaB (by simp [lyO]))
 ·rw [<- hread]
  cases ins[m.read]? with
  | none => exact hst _ _ (by decide)
  | some z => exact .inp rfl h0 (J2 _) (Jl (by simp [lyO]))
 ·exact .call rfl h1 (by simpa [rdO] using hrd) (jbM (by simp [lyO]) (by simp [loO]))
 ·refine jbU (hR 7 (by decide) (by simp [rdO])) h5 fun i j hij => ?_
  rw [<- (hmap i j hij).2.1]
  split
  ·exact h5
  ·rename_i hx
   rcases hfn i j hij with hf | ⟨f,hf,hl⟩
   ·rw [hf] at hx;omega
   ·rw [hf] at hx ⊢
    simp only [Int.toNat_natCast,not_or,Classical.not_not] at hx ⊢
    exact .call rfl hl (jdR hx.2 (by simpa [rdO] using hrd)) (jbM (by simp [lyO]) (by simp [loO]))
 ·exact .tail h1 (by simpa [rdO] using hrd)
 ·refine jbU (hR 7 (by decide) (by simp [rdO])) h5 fun i j hij => ?_
  rw [<- (hmap i j hij).2.1]
  split
  ·exact h5
  ·rename_i hx
   rcases hfn i j hij with hf | ⟨f,hf,hl⟩
   ·rw [hf] at hx;omega
   ·rw [hf] at hx ⊢
    simp only [Int.toNat_natCast,not_or,Classical.not_not] at hx ⊢
    exact .tail hl (jdR hx.2 (by simpa [rdO] using hrd))
 ·rw [<- hlen]
  split
  ·rename_i hx
   exact .ret hx (hrd 0 (by simp [rdO]))
  ·exact jbc (hR 0 (by decide) (by simp [rdO])) h5 fun a ha => .done
theorem jaE {l : List V} {i : Nat} {v : V} (h : l[i]? = some v) : rg l i = v := by unfold rg;rw [List.getD_eq_getElem?_getD,h];rfl
theorem Jx {l : List V} {i : Nat} (h : i < l.length) : l[i]? = some (rg l i) := by unfold rg;rw [List.getD_eq_getElem?_getD,List.getElem?_eq_getElem h];rfl
theorem jaD {l : List V} {r z : Nat} {v : V} (h : r < l.length) : rg (l.set r v) z = if z = r then v else rg l z := by
 unfold rg
 rw [List.getD_eq_getElem?_getD,List.getElem?_set]
 by_cases e : r = z
 ·rw [if_pos e,if_pos h,if_pos e.symm];rfl
 ·rw [if_neg e,if_neg (fun h => e h.symm),List.getD_eq_getElem?_getD]
theorem jeP {β : Nat -> Option Nat} {a b : List V} {v v' : V} (h : LR β a b) (hv : VR β v v') (x : Nat) : LR β (a.set x v) (b.set x v') := by
 refine ⟨by simp [h.1],fun i hi => ?_⟩
 rw [List.length_set] at hi
 by_cases hx : x < a.length
 ·rw [jaD hx,jaD (by rw [<- h.1];exact hx)]
  split
  ·exact hv
  ·exact h.2 i hi
 ·rw [List.set_eq_of_length_le (by omega),List.set_eq_of_length_le (by rw [<- h.1];omega)]
  exact h.2 i hi
theorem jbv {n i : Nat} {v : V} (h : i < n) : rg (List.replicate n v) i = v := by
 apply jaE
 rw [List.getElem?_replicate,if_pos h]
theorem jch {β : Nat -> Option Nat} {v v' : V} (hv : VR β v v') (n : Nat) : LR β (List.replicate n v) (List.replicate n v') := by
 refine ⟨by simp,fun i hi => ?_⟩
 rw [List.length_replicate] at hi
 rw [jbv hi,jbv hi];exact hv
theorem jbJ {β : Nat -> Option Nat} {a b : List V} (h : LR β a b) {i : Nat} (hi : V.b i ∈ a) : ∃ j,V.b j ∈ b /\ β i = some j := by
 obtain ⟨k,hk,he⟩ := List.mem_iff_getElem.1 hi
 have h1 := h.2 k hk
 have h2 : rg a k = .b i := jaE (by rw [List.getElem?_eq_getElem hk,he])
 have hkb : k < b.length := by rw [<- h.1];exact hk
 rw [h2] at h1
 cases hb : rg b k with
 | n z => rw [hb] at h1;exact h1.elim
 | b j =>
   rw [hb] at h1
   refine ⟨j,?_,h1⟩
   have := Jx hkb
   rw [hb] at this
   exact List.mem_of_getElem? this
theorem jeQ {β : Nat -> Option Nat} {a b : List V} (h : LR β a b) {j : Nat} (hj : V.b j ∈ b) : ∃ i,V.b i ∈ a /\ β i = some j := by
 obtain ⟨k,hk,he⟩ := List.mem_iff_getElem.1 hj
 have hka : k < a.length := by rw [h.1];exact hk
 have h1 := h.2 k hka
 have h2 : rg b k = .b j := jaE (by rw [List.getElem?_eq_getElem hk,he])
 rw [h2] at h1
 cases hb : rg a k with
 | n z => rw [hb] at h1;exact h1.elim
 | b i =>
   rw [hb] at h1
   refine ⟨i,?_,h1⟩
   have := Jx hka
   rw [hb] at this
   exact List.mem_of_getElem? this
theorem jcr {β : Nat -> Option Nat} : ∀ {a b : List Fm},FR β a b -> ∀ f ∈ a,∃ g ∈ b,LR β f.sl g.sl
 | [],[],_,f,hf => by cases hf
 | f :: r,g :: t,h,x,hx => by
   rcases List.mem_cons.1 hx with rfl | hx
   ·exact ⟨g,List.mem_cons_self,h.2.1⟩
   ·obtain ⟨y,hy,hl⟩ := jcr h.2.2 x hx
    exact ⟨y,List.mem_cons_of_mem _ hy,hl⟩
theorem jfg {β : Nat -> Option Nat} : ∀ {a b : List Fm},FR β a b -> ∀ g ∈ b,∃ f ∈ a,LR β f.sl g.sl
 | [],[],_,f,hf => by cases hf
 | f :: r,g :: t,h,x,hx => by
   rcases List.mem_cons.1 hx with rfl | hx
   ·exact ⟨f,List.mem_cons_self,h.2.1⟩
   ·obtain ⟨y,hy,hl⟩ := jfg h.2.2 x hx
    exact ⟨y,List.mem_cons_of_mem _ hy,hl⟩
theorem jeo {β : Nat -> Option Nat} {bs : List CB} {ds : List DB} (hp : Hp s β bs ds) {a b : List Fm} (hf : FR β a b) {v v' : V} (hv : VR β v v') {i : Nat} (h : Rch (bkC bs) a v i) :
 ∃ j,β i = some j /\ Rch (bkD ds) b v' j := by
 induction h with
 | more e =>
   subst e
   cases v' with
   | n z => exact hv.elim
   | b j => exact ⟨j,hv,.more rfl⟩
 | slot h1 h2 =>
   obtain ⟨g,hg,hl⟩ := jcr hf _ h1
   obtain ⟨j,hj,hb⟩ := jbJ hl h2
   exact ⟨j,hb,.slot hg hj⟩
 | kid h1 h2 ih =>
   obtain ⟨j0,hj0,hr⟩ := ih
   obtain ⟨j,hj,hb⟩ := jbJ (hp.map _ _ hj0).2.2 h2
   exact ⟨j,hb,.kid hr hj⟩
theorem jhP {β : Nat -> Option Nat} {bs : List CB} {ds : List DB} (hp : Hp s β bs ds) {a b : List Fm} (hf : FR β a b) {v v' : V} (hv : VR β v v') {j : Nat} (h : Rch (bkD ds) b v' j) :
 ∃ i,β i = some j /\ Rch (bkC bs) a v i := by
 induction h with
 | more e =>
   subst e
   cases v with
   | n z => exact hv.elim
   | b i => exact ⟨i,hv,.more rfl⟩
 | slot h1 h2 =>
   obtain ⟨g,hg,hl⟩ := jfg hf _ h1
   obtain ⟨i,hi,hb⟩ := jeQ hl h2
   exact ⟨i,hb,.slot hg hi⟩
 | kid h1 h2 ih =>
   obtain ⟨i0,hi0,hr⟩ := ih
   obtain ⟨i,hi,hb⟩ := jeQ (hp.map _ _ hi0).2.2 h2
   exact ⟨i,hb,.kid hr hi⟩
def J3 (bs : List CB) (i : Nat) : Bool := match bs[i]? with
 | some b => b.use
 | none => false
theorem jcS {bs : List CB} {i : Nat} : J3 bs i = true ↔ ∃ b,bs[i]? = some b /\ b.use = true := by
 unfold J3
 cases bs[i]? with
 | none => exact ⟨fun h => (by cases h),fun ⟨b,h,_⟩ => (by cases h)⟩
 | some b => exact ⟨fun h => ⟨b,rfl,h⟩,fun ⟨b',h,h2⟩ => (by injection h with h;rw [h];exact h2)⟩
def inU (bs : List CB) : List Nat := (List.range bs.length).filter (J3 bs)
theorem jcN : ∀ (n : Nat) (bs : List CB),bs.length = n -> jJ bs = ((inU bs).map fun i => (bkC bs i).1.length + 1).sum := by
 intro n
 induction n with
 | zero =>
   intro bs h
   have : bs = [] := List.length_eq_zero_iff.1 h
   subst this;rfl
 | succ n ih =>
   intro bs h
   obtain ⟨cs,b,rfl⟩ : ∃ cs b,bs = cs ++ [b] := ⟨bs.dropLast,bs.getLast (by intro e;rw [e] at h;cases h),(List.dropLast_concat_getLast _).symm⟩
   rw [List.length_append] at h
   have hc : cs.length = n := by simpa using h
   have ih := ih cs hc
   have h1 : ∀ i,i < n -> (cs ++ [b])[i]? = cs[i]? := fun i hi => List.getElem?_append_left (by omega)
   have h2 : (cs ++ [b])[n]? = some b := by rw [List.getElem?_append_right (by omega)];simp [hc]
   have e1 : inU (cs ++ [b]) = inU cs ++ (if b.use then [n] else []) := by
    unfold inU
    rw [List.length_append,show cs.length + [b].length = n + 1 by simp [hc],List.range_succ,List.filter_append,hc]
    congr 1
    ·apply List.filter_congr
     intro i hi
     rw [List.mem_range] at hi
     unfold J3
     rw [h1 i hi]
    ·have : J3 (cs ++ [b]) n = b.use := by unfold J3;rw [h2]
     cases hb : b.use <;> simp [List.filter,this,hb]
   rw [e1,List.map_append,List.sum_append_nat]
   have e2 : ((inU cs).map fun i => (bkC (cs ++ [b]) i).1.length + 1) = (inU cs).map fun i => (bkC cs i).1.length + 1 := by
    apply List.map_congr_left
    intro i hi
    unfold inU at hi
    rw [List.mem_filter,List.mem_range] at hi
    unfold bkC
    rw [h1 i (by omega)]
   rw [e2,<- ih]
   unfold jJ
   rw [List.map_append,List.sum_append_nat]
   congr 1
   cases hb : b.use
   ·simp [hb]
   ·simp [hb,bkC,h2]
theorem jjG (bs : List CB) : (inU bs).Nodup := List.Pairwise.filter _ List.nodup_range
theorem jeB {bs : List CB} {i : Nat} : i ∈ inU bs ↔ ∃ b,bs[i]? = some b /\ b.use = true := by
 unfold inU
 rw [List.mem_filter,List.mem_range,jcS]
 refine ⟨fun h => h.2,fun h => ⟨?_,h⟩⟩
 obtain ⟨b,hb,_⟩ := h
 exact (jG hb).1
theorem jgh {I J : List Nat} {f g : Nat -> Nat} {β : Nat -> Option Nat} (hI : I.Nodup) (hJ : J.Nodup) (h1 : ∀ i ∈ I,∃ j ∈ J,β i = some j /\ f i = g j) (h2 : ∀ j ∈ J,∃ i ∈ I,β i = some j)
 (hinj : ∀ i i' j,β i = some j -> β i' = some j -> i = i') : (I.map f).sum = (J.map g).sum := by
 have e1 : I.map f = (I.map fun i => (β i).getD 0).map g := by
  rw [List.map_map]
  apply List.map_congr_left
  intro i hi
  obtain ⟨j,_,hb,hf⟩ := h1 i hi
  simp [hb,hf]
 rw [e1]
 apply List.Perm.sum_nat
 apply List.Perm.map
 refine (List.perm_ext_iff_of_nodup ?_ hJ).2 fun j => ?_
 ·rw [List.nodup_iff_pairwise_ne,List.pairwise_map]
  refine (List.nodup_iff_pairwise_ne.1 hI).imp_of_mem ?_
  intro a b ha hb hne he
  obtain ⟨j,_,hja,_⟩ := h1 a ha
  obtain ⟨j',_,hjb,_⟩ := h1 b hb
  rw [hja,hjb] at he
  simp at he
  subst he
  exact hne (hinj a b j hja hjb)
 ·rw [List.mem_map]
  constructor
  ·rintro ⟨i,hi,rfl⟩
   obtain ⟨j,hj,hb,_⟩ := h1 i hi
   rw [hb];exact hj
  ·intro hj
   obtain ⟨i,hi,hb⟩ := h2 j hj
   exact ⟨i,hi,by rw [hb];rfl⟩
theorem jcP {β β1 : Nat -> Option Nat} {v v' : V} (h : VR β v v') (hs : ∀ i,v = .b i -> β1 i = β i) : VR β1 v v' := by
 cases v with
 | n z =>
   cases v' with
   | n z' => exact h
   | b j => exact h.elim
 | b i =>
   cases v' with
   | n z' => exact h.elim
   | b j => exact (hs i rfl).trans h
theorem jeO {β β1 : Nat -> Option Nat} {a b : List V} (h : LR β a b) (hs : ∀ i,V.b i ∈ a -> β1 i = β i) : LR β1 a b :=
 ⟨h.1,fun i hi => jcP (h.2 i hi) fun k hk => hs k (by rw [<- hk];exact List.mem_of_getElem? (Jx hi))⟩
theorem jdr {β β1 : Nat -> Option Nat} : ∀ {a b : List Fm},FR β a b -> (∀ f ∈ a,∀ i,V.b i ∈ f.sl -> β1 i = β i) -> FR β1 a b
 | [],[],_,_ => trivial
 | f :: r,g :: t,h,hs => ⟨h.1,jeO h.2.1 (hs f List.mem_cons_self),jdr h.2.2 fun x hx => hs x (List.mem_cons_of_mem _ hx)⟩
open Classical in
theorem jlD {β : Nat -> Option Nat} {bs bs1 : List CB} {ds : List DB} (hp : Hp s β bs ds) {a b : List Fm} (hf : FR β a b) {v v' : V} (hv : VR β v v') (hc : ja2 bs a v bs1) {u : Nat} (hu : jaP ds b v' u) :
 ∃ β1,Hp s β1 bs1 ds /\ FR β1 a b /\ VR β1 v v' /\ u = jJ bs1 := by
 have hk : ∀ i,(∃ c,bs1[i]? = some c /\ c.use = true) ↔ Rch (bkC bs) a v i /\ ∃ j,β i = some j := by
  intro i
  constructor
  ·rintro ⟨c,h1,h2⟩
   have hl : i < bs.length := by rw [<- hc.len];exact (jG h1).1
   have h3 := List.getElem?_eq_getElem hl
   by_cases hr : bs[i].use = true /\ Rch (bkC bs) a v i
   ·exact ⟨hr.2,(hp.dom i).2 ⟨_,h3,hr.1⟩⟩
   ·have : bs[i].use = false \/ ¬ Rch (bkC bs) a v i := by
     cases hq : bs[i].use with
     | false => exact .inl rfl
     | true => exact .inr fun h => hr ⟨hq,h⟩
    obtain ⟨c',h4,h5⟩ := hc.drop i _ h3 this
    rw [h1] at h4;injection h4 with h4;subst h4;rw [h2] at h5;cases h5
  ·rintro ⟨h1,h2⟩
   obtain ⟨c,h3,h4⟩ := (hp.dom i).1 h2
   exact ⟨c,hc.keep i c h3 h4 h1,h4⟩
 have hbk : ∀ i,Rch (bkC bs) a v i -> bkC bs1 i = bkC bs i := by
  intro i hi
  obtain ⟨j,hj,_⟩ := jeo hp hf hv hi
  obtain ⟨c,h3,h4⟩ := (hp.dom i).1 ⟨j,hj⟩
  unfold bkC
  rw [hc.keep i c h3 h4 hi,h3]
 have hs : ∀ i,Rch (bkC bs) a v i -> (if Rch (bkC bs) a v i then β i else none) = β i := fun i hi => if_pos hi
 have hb : ∀ i j,(if Rch (bkC bs) a v i then β i else none) = some j -> Rch (bkC bs) a v i /\ β i = some j := by
  intro i j h
  split at h
  ·rename_i hr;exact ⟨hr,h⟩
  ·cases h
 refine ⟨fun i => if Rch (bkC bs) a v i then β i else none,⟨fun i i' j h1 h2 => hp.inj i i' j (hb i j h1).2 (hb i' j h2).2,fun i => ?_,fun i j h => ?_,fun i j h => ?_⟩,jdr hf fun f hm i hi => hs i (.slot hm hi),jcP hv fun i hi => hs i (.more hi),?_⟩
 ·rw [hk i]
  constructor
  ·rintro ⟨j,hj⟩
   exact ⟨(hb i j hj).1,j,(hb i j hj).2⟩
  ·rintro ⟨h1,j,h2⟩
   exact ⟨j,by rw [hs i h1];exact h2⟩
 ·obtain ⟨h1,h2⟩ := hb i j h
  have := hp.map i j h2
  rw [hbk i h1]
  exact ⟨this.1,this.2.1,jeO this.2.2 fun k hk => hs k (.kid h1 hk)⟩
 ·obtain ⟨h1,h2⟩ := hb i j h
  rw [hbk i h1]
  exact hp.fn i j h2
 ·obtain ⟨J,hJ,hm,rfl⟩ := hu
  rw [jcN _ bs1 rfl]
  symm
  refine jgh (β := β) (jjG _) hJ (fun i hi => ?_) (fun j hj => ?_) hp.inj
  ·obtain ⟨h1,j0,h2⟩ := (hk i).1 (jeB.1 hi)
   obtain ⟨j,hj,hr⟩ := jeo hp hf hv h1
   refine ⟨j,(hm j).2 hr,hj,?_⟩
   rw [hbk i h1,(hp.map i j hj).2.2.1]
  ·obtain ⟨i,hi,hr⟩ := jhP hp hf hv ((hm j).1 hj)
   exact ⟨i,jeB.2 ((hk i).2 ⟨hr,j,hi⟩),hi⟩
theorem jff {β : Nat -> Option Nat} {a b : List Fm} {v v' : V} (h : FR β a b) (hv : VR β v v') (x : Nat) : FR β (jad a x v) (jad b x v') := by
 cases a with
 | nil =>
   cases b with
   | nil => trivial
   | cons g t => exact h.elim
 | cons f r =>
   cases b with
   | nil => exact h.elim
   | cons g t => exact ⟨h.1,jeP h.2.1 hv x,h.2.2⟩
theorem jfB {k : Nat} {fr : List Fm} (h : JD s k fr) (x : Nat) (v : V) : JD s k (jad fr x v) := by
 match fr,h with
 | [f],h => show (f.sl.set x v).length = _;rw [List.length_set];exact h
 | f :: g :: r,h => exact ⟨(List.length_set ..).trans h.1,h.2⟩
theorem jma {bs : List CB} {i a : Nat} {v : V} {b : CB} (h : bs[i]? = some b) (i' : Nat) : bkC (jav bs i a v) i' = if i' = i then (b.fs.set a v,b.fn) else bkC bs i' := by
 have hl := (jG h).1
 unfold bkC jav
 rw [h]
 simp only
 rw [List.getElem?_set]
 by_cases e : i = i'
 ·rw [if_pos e,if_pos hl,if_pos e.symm]
 ·rw [if_neg e,if_neg (fun h => e h.symm)]
theorem jl8 {bs : List DB} {i a : Nat} {v : V} (h : i < bs.length) (i' : Nat) : bkD (jaY bs i a v) i' = if i' = i then ((bkD bs i).1.set a v,(bkD bs i).2) else bkD bs i' := by
 unfold bkD jaY
 rw [List.getElem?_eq_getElem h]
 simp only
 rw [List.getElem?_set]
 by_cases e : i = i'
 ·rw [if_pos e,if_pos h,if_pos e.symm]
 ·rw [if_neg e,if_neg (fun h => e h.symm)]
theorem jj9 {bs : List DB} {i a : Nat} {v : V} : (jaY bs i a v).length = bs.length := by
 unfold jaY;split <;> simp
theorem jfM {bs : List CB} {i : Nat} {b b' : CB} (h : bs[i]? = some b) (hw : (if b'.use then b'.fs.length + 1 else 0) = (if b.use then b.fs.length + 1 else 0)) : jJ (bs.set i b') = jJ bs := by
 unfold jJ
 rw [List.map_set,hw]
 have : (bs.map fun b => if b.use then b.fs.length + 1 else 0)[i]? = some (if b.use then b.fs.length + 1 else 0) := by rw [List.getElem?_map,h];rfl
 rw [show (bs.map fun b => if b.use then b.fs.length + 1 else 0).set i (if b.use then b.fs.length + 1 else 0) = bs.map fun b => if b.use then b.fs.length + 1 else 0 from ?_]
 apply List.ext_getElem?
 intro j
 rw [List.getElem?_set]
 by_cases e : i = j
 ·subst e
  rw [if_pos rfl,if_pos (jG this).1,this]
 ·rw [if_neg e]
theorem jjK {β : Nat -> Option Nat} {bs : List CB} {ds : List DB} (hp : Hp s β bs ds) {i j a : Nat} {v v' : V} (hij : β i = some j) (hv : VR β v v') :
 Hp s β (jav bs i a v) (jaY ds j a v') /\ jJ (jav bs i a v) = jJ bs := by
 obtain ⟨b,hb,hu⟩ := (hp.dom i).1 ⟨j,hij⟩
 obtain ⟨hj,hfn,hl⟩ := hp.map i j hij
 have hC := fun i' => jma (a := a) (v := v) hb i'
 have hD := fun j' => jl8 (a := a) (v := v') hj j'
 have hbi : bkC bs i = (b.fs,b.fn) := by unfold bkC;rw [hb]
 rw [hbi] at hfn hl
 have hset : jav bs i a v = bs.set i { b with fs := b.fs.set a v } := by unfold jav;rw [hb]
 refine ⟨⟨hp.inj,fun i' => ?_,fun i' j' h => ?_,fun i' j' h => ?_⟩,?_⟩
 ·rw [hp.dom i',hset,List.getElem?_set]
  by_cases e : i = i'
  ·subst e
   rw [if_pos rfl,if_pos (jG hb).1]
   exact ⟨fun _ => ⟨_,rfl,hu⟩,fun _ => ⟨b,hb,hu⟩⟩
  ·rw [if_neg e]
 ·rw [hC i',hD j',jj9]
  by_cases e : i' = i
  ·subst e
   rw [hij] at h;injection h with h;subst h
   rw [if_pos rfl,if_pos rfl]
   exact ⟨hj,hfn,jeP hl hv a⟩
  ·rw [if_neg e,if_neg (fun e2 => e (hp.inj i' i j (by rw [h,e2]) hij))]
   exact hp.map i' j' h
 ·rw [hC i']
  by_cases e : i' = i
  ·subst e
   rw [if_pos rfl]
   have := hp.fn i' j' h
   rw [hbi] at this
   exact this
  ·rw [if_neg e];exact hp.fn i' j' h
 ·rw [hset]
  exact jfM hb (by simp)
theorem jjJ {β : Nat -> Option Nat} {bs bs' : List CB} {ds : List DB} (hp : Hp s β bs ds) {a n : Nat} {f : Int} {v v' : V} (hpt : Put bs a ⟨true,f,List.replicate n v⟩ bs') (hv : VR β v v') (hf : f = -1 \/ ∃ g : Nat,f = g /\ g < hF s) :
 ∃ β',Hp s β' bs' (ds ++ [⟨List.replicate n v',f⟩]) /\ (∀ i j,β i = some j -> β' i = β i) /\ β' a = some ds.length /\ jJ bs' = jJ bs + n + 1 := by
 have hno : β a = none := by
  cases hb : β a with
  | none => rfl
  | some j =>
    obtain ⟨b,h1,h2⟩ := (hp.dom a).1 ⟨j,hb⟩
    rcases hpt with ⟨e,_⟩ | ⟨b0,h3,h4,_⟩
    ·rw [e,List.getElem?_eq_none jN] at h1;cases h1
    ·rw [h1] at h3;injection h3 with h3;subst h3;rw [h2] at h4;cases h4
 have hat : ∀ i,bs'[i]? = if i = a then some ⟨true,f,List.replicate n v⟩ else bs[i]? := by
  intro i
  rcases hpt with ⟨e,rfl⟩ | ⟨b0,h3,h4,rfl⟩
  ·by_cases h : i = a
   ·rw [if_pos h,h,e,List.getElem?_append_right jN];simp
   ·rw [if_neg h]
    by_cases h2 : i < bs.length
    ·exact List.getElem?_append_left h2
    ·rw [List.getElem?_eq_none (by rw [List.length_append,List.length_singleton];omega),List.getElem?_eq_none (by omega)]
  ·rw [List.getElem?_set]
   by_cases h : i = a
   ·rw [if_pos h,if_pos h.symm,if_pos (jG h3).1]
   ·rw [if_neg h,if_neg (fun e => h e.symm)]
 have hbk : ∀ i,bkC bs' i = if i = a then (List.replicate n v,f) else bkC bs i := by
  intro i
  unfold bkC
  rw [hat i]
  by_cases h : i = a
  ·rw [if_pos h,if_pos h]
  ·rw [if_neg h,if_neg h]
 have hdk : ∀ j,j < ds.length -> bkD (ds ++ [⟨List.replicate n v',f⟩]) j = bkD ds j := by
  intro j hj
  unfold bkD
  rw [List.getElem?_append_left hj]
 have hdn : bkD (ds ++ [⟨List.replicate n v',f⟩]) ds.length = (List.replicate n v',f) := by
  unfold bkD
  rw [List.getElem?_append_right jN];simp
 have hex : ∀ i j,β i = some j -> (if i = a then some ds.length else β i) = β i := by
  intro i j h
  rw [if_neg (fun e => by rw [e,hno] at h;cases h)]
 have hsub : ∀ {x y : V},VR β x y -> VR (fun i => if i = a then some ds.length else β i) x y := by
  intro x y h
  refine jcP h fun i hi => ?_
  subst hi
  cases y with
  | n z => exact h.elim
  | b j => exact hex i j h
 refine ⟨fun i => if i = a then some ds.length else β i,⟨fun i i' j h1 h2 => ?_,fun i => ?_,fun i j h => ?_,fun i j h => ?_⟩,hex,if_pos rfl,?_⟩
 ·by_cases e : i = a
  ·by_cases e' : i' = a
   ·rw [e,e']
   ·rw [if_pos e] at h1;rw [if_neg e'] at h2
    injection h1 with h1
    have := (hp.map i' j h2).1;omega
  ·by_cases e' : i' = a
   ·rw [if_neg e] at h1;rw [if_pos e'] at h2
    injection h2 with h2
    have := (hp.map i j h1).1;omega
   ·rw [if_neg e] at h1;rw [if_neg e'] at h2
    exact hp.inj i i' j h1 h2
 ·rw [hat i]
  by_cases e : i = a
  ·rw [if_pos e,if_pos e]
   exact ⟨fun _ => ⟨_,rfl,rfl⟩,fun _ => ⟨_,rfl⟩⟩
  ·rw [if_neg e,if_neg e];exact hp.dom i
 ·rw [hbk i]
  by_cases e : i = a
  ·rw [if_pos e] at h ⊢
   injection h with h
   subst h
   rw [hdn]
   exact ⟨by simp,rfl,jch (hsub hv) n⟩
  ·rw [if_neg e] at h ⊢
   have hm := hp.map i j h
   rw [hdk j hm.1]
   refine ⟨by rw [List.length_append];have := hm.1;omega,hm.2.1,hm.2.2.1,fun k hk => hsub (hm.2.2.2 k hk)⟩
 ·rw [hbk i]
  by_cases e : i = a
  ·rw [if_pos e];exact hf
  ·rw [if_neg e] at h ⊢;exact hp.fn i j h
 ·rcases hpt with ⟨e,rfl⟩ | ⟨b0,h3,h4,rfl⟩
  ·unfold jJ
   rw [List.map_append,List.sum_append_nat]
   simp;omega
  ·have hl := (jG h3).1
   have hbs : bs = bs.take a ++ b0 :: bs.drop (a + 1) := by
    have : b0 = bs[a] := by rw [List.getElem?_eq_getElem hl] at h3;injection h3 with h3;exact h3.symm
    rw [this,List.getElem_cons_drop,List.take_append_drop]
   have hst : bs.set a ⟨true,f,List.replicate n v⟩ = bs.take a ++ ⟨true,f,List.replicate n v⟩ :: bs.drop (a + 1) := List.set_eq_take_append_cons_drop ▸ (by rw [if_pos hl])
   rw [hst]
   conv => rhs;rw [hbs]
   unfold jJ
   simp only [List.map_append,List.map_cons,List.sum_append_nat,List.sum_cons,h4,List.length_replicate]
   simp;omega
def Nx (s : ByteArray) (m : Mc) (bs : List CB) (d : Mc) (ds : List DB) (u : Nat) : Prop := Eqs m bs d u /\ (m.err = 42 -> ∃ β k A,Sim s β m bs d ds u k A)
theorem jmW {pc : Nat} {A B : Nat -> Bool} (h : ∀ z,B z = true -> jcJ s pc A z = true) (z : Nat) (hz : B z = true) : jaO (l0 s pc) (l1 s pc) (l2 s pc) A z = true := h z hz
theorem jcj {x : Nat} : ∀ {l : List Nat},x ∈ l -> x <= l.sum
 | y :: l,h => by
   rw [List.sum_cons]
   rcases List.mem_cons.1 h with rfl | h
   ·omega
   ·have := jcj h;omega
theorem ja1 (s : ByteArray) (depth : Nat) (m : Mc) (f : Nat) : ap s depth m (.call f false) = if depth <= m.fr.length then { m.on with err := 41,pos := 0 } else { m.on with pc := r0 s f,fr := J8 s f (m.pc + 1) :: m.fr } := rfl
theorem jjH {n : Nat} (h : n <= 4096) : inR (n : Int) := by unfold inR;omega
theorem jjp {bs : List CB} {i : Nat} (h : ∃ b,bs[i]? = some b /\ b.use = true) : (bkC bs i).1.length + 1 <= jJ bs := by
 obtain ⟨b,h1,h2⟩ := h
 have hb : (bkC bs i).1 = b.fs := by unfold bkC;rw [h1]
 rw [hb]
 unfold jJ
 have hm : b.fs.length + 1 ∈ bs.map fun b => if b.use then b.fs.length + 1 else 0 := List.mem_map.2 ⟨b,List.mem_of_getElem? h1,by rw [if_pos h2]⟩
 exact jcj hm
theorem jlF {bs bs1 : List CB} {fr : List Fm} {v : V} (h : ja2 bs fr v bs1) : ((inU bs1).map fun i => (bkC bs1 i).1.length + 1).sum <= ((inU bs).map fun i => (bkC bs i).1.length + 1).sum := by
 have hin : ∀ i,J3 bs1 i = true -> J3 bs i = true /\ bkC bs1 i = bkC bs i := by
  intro i hi
  obtain ⟨c,h1,h2⟩ := jcS.1 hi
  have hl : i < bs.length := by rw [<- h.len];exact (jG h1).1
  have h3 := List.getElem?_eq_getElem hl
  by_cases hr : bs[i].use = true /\ Rch (bkC bs) fr v i
  ·refine ⟨jcS.2 ⟨_,h3,hr.1⟩,?_⟩
   unfold bkC
   rw [h.keep i _ h3 hr.1 hr.2,h3]
  ·have : bs[i].use = false \/ ¬ Rch (bkC bs) fr v i := by
    cases hq : bs[i].use with
    | false => exact .inl rfl
    | true => exact .inr fun h => hr ⟨hq,h⟩
   obtain ⟨c',h4,h5⟩ := h.drop i _ h3 this
   rw [h1] at h4;injection h4 with h4;subst h4;rw [h2] at h5;cases h5
 have key : ∀ l : List Nat,((l.filter (J3 bs1)).map fun i => (bkC bs1 i).1.length + 1).sum <= ((l.filter (J3 bs)).map fun i => (bkC bs i).1.length + 1).sum := by
  intro l
  induction l with
  | nil => exact jN
  | cons i l ih =>
    rw [List.filter_cons,List.filter_cons]
    cases h1 : J3 bs1 i with
    | true =>
      obtain ⟨h2,h3⟩ := hin i h1
      rw [h2]
      simp only [if_true,List.map_cons,List.sum_cons,h3]
      omega
    | false =>
      cases h2 : J3 bs i with
      | true => simp only [if_true,List.map_cons,List.sum_cons,Bool.false_eq_true,if_false];omega
      | false => simpa using ih
 have := key (List.range bs.length)
 unfold inU
 rw [h.len]
 exact this
theorem jdS {f : Nat} {A : Nat -> Bool} (h : ∀ z ∈ tkF s f,A z = true) (z : Nat) (hz : (tkF s f).contains z = true) : A z = true := h z (by simpa using hz)
theorem jgk (hck : Ck s) {β : Nat -> Option Nat} {m d m' d' : Mc} {bs bs' : List CB} {ds ds' : List DB} {u u' k half depth : Nat} {A : Nat -> Bool} {ins : List Int} (hhalf : half <= 4096)
 (S : Sim s β m bs d ds u k A) (hr : m.err = 42) (hc : Ju s half depth ins m bs m' bs') (hd : JN s half depth ins d ds u d' ds' u') : Nx s m' bs' d' ds' u' := by
 have hE := jko hck S ins (fun i j hij => jjH (by have := jjp ((S.hp.dom i).1 ⟨j,hij⟩);have := S.eq.big;omega))
 unfold Ju at hc
 unfold JN at hd
 have E := S.eq
 have hpc := S.pc
 have hfl := jcs S.fr
 generalize ef s (bkC bs) ins m = e at hE hc
 generalize ef s (bkD ds) ins d = e' at hE hd
 have nxt : jx (l0 s m.pc) = false -> ∃ B,Al s k (m.pc + 1) B /\ ∀ z,B z = true -> jaO (l0 s m.pc) (l1 s m.pc) (l2 s m.pc) A z = true := fun h => S.al.next hck h
 have setr : ∀ {v v' : V} {r : Nat} {B : Nat -> Bool},r < 8 -> VR β v v' -> (∀ z,z < 8 -> B z = true -> z = r \/ A z = true) -> (∀ z,z < 8 -> ∃ x,VR β (rg (m.regs.set r v) z) x) /\ ∀ z,z < 8 -> B z = true -> VR β (rg (m.regs.set r v) z) (rg (d.regs.set r v') z) := by
  intro v v' r B hr8 hv hB
  refine ⟨fun z hz => ?_,fun z hz hb => ?_⟩
  ·rw [jaD (by rw [S.ml];exact hr8)]
   split
   ·exact ⟨v',hv⟩
   ·exact S.cl z hz
  ·rw [jaD (by rw [S.ml];exact hr8),jaD (by rw [S.dl];exact hr8)]
   split
   ·exact hv
   ·rename_i hne
    exact S.reg z hz ((hB z hz hb).resolve_left hne)
 have EQ : Eqs m.on bs d.on u := ⟨E.gcs,E.err,E.pos,E.val,E.out,congrArg (· + 1) E.steps,E.read,E.used,E.big⟩
 cases hE with
 | @reg v v' h1 h2 h3 h4 =>
   obtain ⟨rfl,rfl⟩ := hc
   obtain ⟨rfl,rfl,rfl⟩ := hd
   obtain ⟨B,hB,hz⟩ := nxt h1
   obtain ⟨q1,q2⟩ := setr h2 h3 (fun z h5 h6 => h4 z h5 (hz z h6))
   exact ⟨⟨EQ.gcs,EQ.err,EQ.pos,EQ.val,EQ.out,EQ.steps,EQ.read,EQ.used,EQ.big⟩,fun _ => ⟨β,k,B,⟨⟨EQ.gcs,EQ.err,EQ.pos,EQ.val,EQ.out,EQ.steps,EQ.read,EQ.used,EQ.big⟩,S.hp,S.fr,S.ch,congrArg (· + 1) hpc,hB,(List.length_set ..).trans S.ml,(List.length_set ..).trans S.dl,q1,q2⟩⟩⟩
 | @slot v v' h1 h2 h3 =>
   obtain ⟨rfl,rfl⟩ := hc
   obtain ⟨rfl,rfl,rfl⟩ := hd
   obtain ⟨B,hB,hz⟩ := nxt h1
   exact ⟨⟨EQ.gcs,EQ.err,EQ.pos,EQ.val,EQ.out,EQ.steps,EQ.read,EQ.used,EQ.big⟩,fun _ => ⟨β,k,B,⟨⟨EQ.gcs,EQ.err,EQ.pos,EQ.val,EQ.out,EQ.steps,EQ.read,EQ.used,EQ.big⟩,S.hp,jff S.fr h2 _,jfB S.ch _ _,congrArg (· + 1) hpc,hB,S.ml,S.dl,S.cl,fun z h5 h6 => S.reg z h5 (h3 z h5 (hz z h6))⟩⟩⟩
 | @both v v' h1 h2 h3 h4 =>
   obtain ⟨rfl,rfl⟩ := hc
   obtain ⟨rfl,rfl,rfl⟩ := hd
   obtain ⟨B,hB,hz⟩ := nxt h1
   obtain ⟨q1,q2⟩ := setr h2 h3 (fun z h5 h6 => h4 z h5 (hz z h6))
   exact ⟨⟨EQ.gcs,EQ.err,EQ.pos,EQ.val,EQ.out,EQ.steps,EQ.read,EQ.used,EQ.big⟩,fun _ => ⟨β,k,B,⟨⟨EQ.gcs,EQ.err,EQ.pos,EQ.val,EQ.out,EQ.steps,EQ.read,EQ.used,EQ.big⟩,S.hp,jff S.fr (jaj β) _,jfB S.ch _ _,congrArg (· + 1) hpc,hB,(List.length_set ..).trans S.ml,(List.length_set ..).trans S.dl,q1,q2⟩⟩⟩
 | jump h1 h2 =>
   obtain ⟨rfl,rfl⟩ := hc
   obtain ⟨rfl,rfl,rfl⟩ := hd
   obtain ⟨B,hB,hz⟩ := S.al.jump hck h1
   exact ⟨⟨EQ.gcs,EQ.err,EQ.pos,EQ.val,EQ.out,EQ.steps,EQ.read,EQ.used,EQ.big⟩,fun _ => ⟨β,k,B,⟨⟨EQ.gcs,EQ.err,EQ.pos,EQ.val,EQ.out,EQ.steps,EQ.read,EQ.used,EQ.big⟩,S.hp,S.fr,S.ch,rfl,hB,S.ml,S.dl,S.cl,fun z h5 h6 => S.reg z h5 (h2 z h5 (hz z h6))⟩⟩⟩
 | skip h1 h2 =>
   obtain ⟨rfl,rfl⟩ := hc
   obtain ⟨rfl,rfl,rfl⟩ := hd
   obtain ⟨B,hB,hz⟩ := nxt h1
   exact ⟨EQ,fun _ => ⟨β,k,B,⟨EQ,S.hp,S.fr,S.ch,congrArg (· + 1) hpc,hB,S.ml,S.dl,S.cl,fun z h5 h6 => S.reg z h5 (h2 z h5 (hz z h6))⟩⟩⟩
 | stop h1 =>
   obtain ⟨rfl,rfl⟩ := hc
   obtain ⟨rfl,rfl,rfl⟩ := hd
   exact ⟨⟨EQ.gcs,rfl,rfl,EQ.val,EQ.out,EQ.steps,EQ.read,EQ.used,EQ.big⟩,fun h => absurd h h1⟩
 | @fld i j a v v' h1 h2 h3 h4 h5 =>
   obtain ⟨rfl,rfl⟩ := hc
   obtain ⟨rfl,rfl,rfl⟩ := hd
   obtain ⟨B,hB,hz⟩ := nxt h1
   obtain ⟨q1,q2⟩ := jjK (a := a) S.hp h2 h4
   have EQ2 : Eqs m.on (jav bs i a v) d.on _ := ⟨EQ.gcs,EQ.err,EQ.pos,EQ.val,EQ.out,EQ.steps,EQ.read,EQ.used.trans q2.symm,by rw [q2];exact EQ.big⟩
   exact ⟨EQ2,fun _ => ⟨β,k,B,⟨EQ2,q1,S.fr,S.ch,congrArg (· + 1) hpc,hB,S.ml,S.dl,S.cl,fun z h7 h6 => S.reg z h7 (h5 z h7 (hz z h6))⟩⟩⟩
 | prn h1 h2 =>
   obtain ⟨rfl,rfl⟩ := hc
   obtain ⟨rfl,rfl,rfl⟩ := hd
   obtain ⟨B,hB,hz⟩ := nxt h1
   have EQ2 := congrArg (· ++ [‹Int›]) E.out
   exact ⟨⟨EQ.gcs,EQ.err,EQ.pos,EQ.val,EQ2,EQ.steps,EQ.read,EQ.used,EQ.big⟩,fun _ => ⟨β,k,B,⟨⟨EQ.gcs,EQ.err,EQ.pos,EQ.val,EQ2,EQ.steps,EQ.read,EQ.used,EQ.big⟩,S.hp,S.fr,S.ch,congrArg (· + 1) hpc,hB,S.ml,S.dl,S.cl,fun z h5 h6 => S.reg z h5 (h2 z h5 (hz z h6))⟩⟩⟩
 | inp h1 h2 h3 h4 =>
   obtain ⟨rfl,rfl⟩ := hc
   obtain ⟨rfl,rfl,rfl⟩ := hd
   obtain ⟨B,hB,hz⟩ := nxt h1
   obtain ⟨q1,q2⟩ := setr (v := .n _) (v' := .n _) h2 ⟨rfl,h3⟩ (fun z h5 h6 => h4 z h5 (hz z h6))
   have EQ2 := congrArg (· + 1) E.read
   exact ⟨⟨EQ.gcs,EQ.err,EQ.pos,EQ.val,EQ.out,EQ.steps,EQ2,EQ.used,EQ.big⟩,fun _ => ⟨β,k,B,⟨⟨EQ.gcs,EQ.err,EQ.pos,EQ.val,EQ.out,EQ.steps,EQ2,EQ.used,EQ.big⟩,S.hp,S.fr,S.ch,congrArg (· + 1) hpc,hB,(List.length_set ..).trans S.ml,(List.length_set ..).trans S.dl,q1,q2⟩⟩⟩
 | @call f h1 h2 h3 h4 =>
   obtain ⟨rfl,rfl⟩ := hc
   obtain ⟨rfl,rfl,rfl⟩ := hd
   obtain ⟨B,hB,hz⟩ := nxt h1
   rw [ja1,ja1,<- hfl]
   split
   ·exact ⟨⟨EQ.gcs,rfl,rfl,EQ.val,EQ.out,EQ.steps,EQ.read,EQ.used,EQ.big⟩,fun h => absurd h (show 41 ≠ 42 by decide)⟩
   ·refine ⟨⟨EQ.gcs,EQ.err,EQ.pos,EQ.val,EQ.out,EQ.steps,EQ.read,EQ.used,EQ.big⟩,fun _ => ⟨β,f,_,⟨⟨EQ.gcs,EQ.err,EQ.pos,EQ.val,EQ.out,EQ.steps,EQ.read,EQ.used,EQ.big⟩,S.hp,⟨?_,jch (jaj β) _,S.fr⟩,?_,rfl,hck.entry h2,S.ml,S.dl,S.cl,fun z h5 h6 => S.reg z h5 (jdS h3 z h6)⟩⟩⟩
    ·show m.pc + 1 = d.pc + 1
     rw [hpc]
    ·have hch := S.ch
     revert hch
     cases hfr : m.fr with
     | nil => intro h;exact h.elim
     | cons g r => intro h;exact ⟨by simp [J8],k,B,hB,fun z h5 h6 => h4 z h5 (hz z h6),h⟩
 | @tail f h1 h2 =>
   obtain ⟨rfl,rfl⟩ := hc
   obtain ⟨rfl,rfl,rfl⟩ := hd
   have hch := S.ch
   have hfr := S.fr
   refine ⟨⟨EQ.gcs,EQ.err,EQ.pos,EQ.val,EQ.out,EQ.steps,EQ.read,EQ.used,EQ.big⟩,fun _ => ⟨β,f,_,⟨⟨EQ.gcs,EQ.err,EQ.pos,EQ.val,EQ.out,EQ.steps,EQ.read,EQ.used,EQ.big⟩,S.hp,?_,?_,rfl,hck.entry h1,S.ml,S.dl,S.cl,fun z h5 h6 => S.reg z h5 (jdS h2 z h6)⟩⟩⟩
   ·show FR β (J8 s f (m.fr.headD ⟨0,[]⟩).back :: m.fr.tail) (J8 s f (d.fr.headD ⟨0,[]⟩).back :: d.fr.tail)
    revert hfr hch
    cases m.fr with
    | nil => intro h;exact h.elim
    | cons g r =>
      cases d.fr with
      | nil => intro _ h;exact h.elim
      | cons g' r' => intro _ h;exact ⟨h.1,jch (jaj β) _,h.2.2⟩
   ·show JD s f (J8 s f (m.fr.headD ⟨0,[]⟩).back :: m.fr.tail)
    revert hch
    match m.fr with
    | [] => intro h;exact h.elim
    | [g] => intro h;show (List.replicate _ _).length = _;simp
    | g :: g' :: r => intro h;exact ⟨by simp [J8],h.2⟩
 | ret h1 h2 =>
   obtain ⟨rfl,rfl⟩ := hc
   obtain ⟨rfl,rfl,rfl⟩ := hd
   have hch := S.ch
   have hfr := S.fr
   have R0 := S.reg 0 (by decide) h2
   refine ⟨⟨EQ.gcs,EQ.err,EQ.pos,EQ.val,EQ.out,EQ.steps,EQ.read,EQ.used,EQ.big⟩,fun _ => ?_⟩
   match hm : m.fr,hch,h1 with
   | g :: g' :: r,hch,_ =>
     obtain ⟨_,k',B,hB,hz,hch'⟩ := hch
     rw [hm] at hfr
     match hd' : d.fr,hfr with
     | e :: t,hfr =>
       refine ⟨β,k',B,⟨⟨EQ.gcs,EQ.err,EQ.pos,EQ.val,EQ.out,EQ.steps,EQ.read,EQ.used,EQ.big⟩,S.hp,?_,?_,?_,?_,S.ml,S.dl,S.cl,fun z h5 h6 => ?_⟩⟩
       ·show FR β m.fr.tail d.fr.tail
        rw [hm,hd'];exact hfr.2.2
       ·show JD s k' m.fr.tail
        rw [hm];exact hch'
       ·show (m.fr.headD ⟨0,[]⟩).back = (d.fr.headD ⟨0,[]⟩).back
        rw [hm,hd'];exact hfr.1
       ·show Al s k' (m.fr.headD ⟨0,[]⟩).back B
        rw [hm];exact hB
       ·have := hz z h5 h6
        subst this
        exact R0
 | done =>
   obtain ⟨rfl,rfl⟩ := hc
   obtain ⟨rfl,rfl,rfl⟩ := hd
   exact ⟨⟨EQ.gcs,rfl,rfl,rfl,EQ.out,EQ.steps,EQ.read,EQ.used,EQ.big⟩,fun h => absurd h (show 0 ≠ 42 by decide)⟩
 | @make n f v v' h1 h2 h3 h4 h5 =>
   obtain ⟨bs1,g,c1,c2,c3⟩ := hc
   obtain ⟨u1,g',d1,d2,d3⟩ := hd
   obtain ⟨B,hB,hz⟩ := nxt h1
   have hgg : g = g' /\ ∃ β1,Hp s β1 bs1 ds /\ FR β1 m.fr d.fr /\ VR β1 v v' /\ u1 = jJ bs1 /\ jJ bs1 <= 4096 := by
    have hu := E.used
    by_cases hh : half < jJ bs + n + 1
    ·obtain ⟨c4,rfl⟩ := c1 hh
     obtain ⟨d4,rfl⟩ := d1 (by omega)
     obtain ⟨β1,q1,q2,q3,q4⟩ := jlD S.hp S.fr h3 c4 d4
     refine ⟨by rw [E.gcs],β1,q1,q2,q3,q4,?_⟩
     refine Nat.le_trans ?_ E.big
     rw [jcN _ bs1 rfl,jcN _ bs rfl]
     exact jlF c4
    ·obtain ⟨rfl,rfl⟩ := c2 (by omega)
     obtain ⟨rfl,rfl⟩ := d2 (by omega)
     exact ⟨E.gcs,β,S.hp,S.fr,h3,hu,E.big⟩
   obtain ⟨rfl,β1,q1,q2,q3,rfl,q5⟩ := hgg
   rcases c3 with ⟨c3,rfl,rfl⟩ | ⟨c3,a,hp,rfl⟩
   ·rcases d3 with ⟨_,rfl,rfl,rfl⟩ | ⟨d3,_⟩
    ·exact ⟨⟨rfl,rfl,rfl,EQ.val,EQ.out,EQ.steps,EQ.read,rfl,q5⟩,fun h => absurd h (show 40 ≠ 42 by decide)⟩
    ·omega
   ·rcases d3 with ⟨d3,_⟩ | ⟨_,rfl,rfl,rfl⟩
    ·omega
    ·obtain ⟨β2,p1,p2,p3,p4⟩ := jjJ q1 hp q3 h4
     have EQ2 : Eqs { m.on with gcs := g,regs := (List.replicate 8 z0).set (l1 s m.pc) (.b a) } bs' { d.on with gcs := g,regs := d.regs.set (l1 s m.pc) (.b ds.length) } (jJ bs1 + n + 1) := ⟨rfl,EQ.err,EQ.pos,EQ.val,EQ.out,EQ.steps,EQ.read,p4.symm,by rw [p4];omega⟩
     have hvr : VR β2 (.b a) (.b ds.length) := p3
     refine ⟨EQ2,fun _ => ⟨β2,k,B,⟨EQ2,p1,?_,S.ch,congrArg (· + 1) hpc,hB,by simp,(List.length_set ..).trans S.dl,fun z h6 => ?_,fun z h6 h7 => ?_⟩⟩⟩
     ·refine jdr q2 fun x hx i hi => ?_
      obtain ⟨y,hy,hl⟩ := jcr q2 x hx
      obtain ⟨j,_,hj⟩ := jbJ hl hi
      exact p2 i j hj
     ·show ∃ v,VR β2 (rg ((List.replicate 8 z0).set (l1 s m.pc) (.b a)) z) v
      rw [jaD (by simpa using h2)]
      split
      ·exact ⟨_,hvr⟩
      ·rw [jbv h6];exact ⟨_,jaj _⟩
     ·show VR β2 (rg ((List.replicate 8 z0).set (l1 s m.pc) (.b a)) z) (rg (d.regs.set (l1 s m.pc) (.b ds.length)) z)
      have := h5 z h6 (hz z h7)
      subst this
      rw [jaD (by simpa using h2),jaD (by rw [S.dl];exact h2),if_pos rfl,if_pos rfl]
      exact hvr
end Ko
end Go.Proofs.YtjmgolahkgalbaaGreatDoor
