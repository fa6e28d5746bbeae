/- PLAIN: the roads of a code's functions. -/
import Derived.Test.YtmkdoejpgkgpbaaDoorChD
import Derived.Test.YtmkdoejpgkgpbaaDoorRoP
import Derived.Test.YtmkdoejpgkgpbaaDoorRoB
set_option linter.unusedVariables false
set_option linter.unusedSimpArgs false
namespace Go.Proofs.YtmkdoejpgkgpbaaDoor
open Go.RowKit Li

/-- the places in which a function finds what it is called with -/
def tkF (s : ByteArray) (k : Nat) : List Nat := List.range (r1 s k) ++ (if r2 s k = 1 then [7] else [])
/-- the places that an operation reads -/
def rdO (s : ByteArray) (op r x y : Nat) : List Nat :=
  if op = 3 ∨ op = 4 then [8 + x]
  else if op = 2 ∨ op = 15 ∨ op = 16 ∨ op = 22 ∨ op = 26 then [x]
  else if op = 5 ∨ op = 18 ∨ op = 27 then [r]
  else if op = 7 ∨ op = 8 ∨ op = 9 ∨ op = 10 ∨ op = 11 ∨ op = 12 ∨ op = 13 ∨ op = 14 ∨ op = 23 ∨ op = 24 then [x, y]
  else if op = 21 then [r, y]
  else if op = 25 then [r, x, y]
  else if op = 29 ∨ op = 31 then tkF s x
  else if op = 30 ∨ op = 32 then 7 :: List.range x
  else if op = 33 then [0]
  else []
/-- does an operation lay the place? -/
def lyO (op r x i : Nat) : Bool :=
  if op = 5 then i == 8 + x else if op = 29 ∨ op = 30 then i == 0
  else if op = 6 ∨ op = 17 ∨ op = 18 ∨ op = 21 ∨ op = 25 ∨ op = 27 ∨ op = 31 ∨ op = 32 ∨ op = 33 then false
  else i == r
/-- does it leave nothing there? -/
def loO (op x i : Nat) : Bool :=
  if op = 29 ∨ op = 30 ∨ op = 19 ∨ op = 20 ∨ op = 23 then decide (i < 8)
  else if op = 4 ∨ op = 6 then i == 8 + x else false
def rdL (s : ByteArray) (pc : Nat) : List Nat := rdO s (l0 s pc) (l1 s pc) (l2 s pc) (l3 s pc)
def jmB (op : Nat) : Bool := op == 17 || op == 18
/-- function k's lines -/
def fnS (s : ByteArray) (k : Nat) : Ro.Fn where
  goes i := !overB (l0 s (r0 s k + i))
  jmp i := decide (i < en s k - r0 s k) && jmB (l0 s (r0 s k + i))
  tgt i := l2 s (r0 s k + i) - r0 s k
  ly i x := lyO (l0 s (r0 s k + i)) (l1 s (r0 s k + i)) (l2 s (r0 s k + i)) x
  lost i x := loO (l0 s (r0 s k + i)) (l2 s (r0 s k + i)) x
  init x := (tkF s k).contains x
/-- is line pc of function k well made? -/
def wlL (s : ByteArray) (k pc : Nat) : Bool := wlB (hF s) (hN s) (l0 s pc) (lv s pc) pc (r3 s k) (en s k)
/-- the first of the functions from k on that has one -/
def scan (g : Nat → Option Nat) : Nat → Nat → Option Nat
  | 0, _ => none
  | n + 1, k => match g k with
    | some p => some p
    | none => scan g n (k + 1)
def opK (s : ByteArray) (k : Nat) : Option Nat := bad (wlL s k) (en s k - r0 s k) (r0 s k)
def flK (s : ByteArray) (k : Nat) : Option Nat := (bad ((fnS s k).ok fun i => rdL s (r0 s k + i)) (en s k - r0 s k) 0).map (r0 s k + ·)
/-- Check's answer -/
def ckR (s : ByteArray) : Nat × Nat :=
  match res s with
  | some e => e
  | none => match scan (opK s) (hF s) 0 with
    | some p => (11, p)
    | none => match scan (flK s) (hF s) 0 with
      | some p => (12, p)
      | none => (0, 0)
theorem scan_none {g : Nat → Option Nat} : ∀ (n k : Nat), scan g n k = none → ∀ i, k ≤ i → i < k + n → g i = none
  | 0, k, _, i, h1, h2 => by omega
  | n + 1, k, h, i, h1, h2 => by
    unfold scan at h
    cases hg : g k with
    | some p => rw [hg] at h; cases h
    | none =>
      rw [hg] at h
      by_cases e : i = k
      · rw [e]; exact hg
      · exact scan_none n (k + 1) h i (by omega) (by omega)
/-- what a line that is well made keeps to -/
structure Wl (s : ByteArray) (k pc : Nat) : Prop where
  op1 : 1 ≤ l0 s pc
  op2 : l0 s pc < 34
  f0 : fitB (hF s) (hN s) (l1 s pc) (ruN (l0 s pc) 0) pc (r3 s k) (en s k) = true
  f1 : fitB (hF s) (hN s) (l2 s pc) (ruN (l0 s pc) 1) pc (r3 s k) (en s k) = true
  f2 : fitB (hF s) (hN s) (l3 s pc) (ruN (l0 s pc) 2) pc (r3 s k) (en s k) = true
  f3 : fitB (hF s) (hN s) (l4 s pc) (ruN (l0 s pc) 3) pc (r3 s k) (en s k) = true
  on : overB (l0 s pc) = true ∨ pc + 1 < en s k
theorem Wl.of {s : ByteArray} {k pc : Nat} (h : wlL s k pc = true) : Wl s k pc := by
  unfold wlL wlB at h
  simp only [Bool.and_eq_true, decide_eq_true_eq, Bool.or_eq_true, fit4, lv] at h
  obtain ⟨h1, h2, ⟨⟨⟨⟨_, a⟩, b⟩, c⟩, d⟩, e⟩ := h
  exact ⟨h1, h2, by simpa using a, by simpa using b, by simpa using c, by simpa using d, e⟩
theorem fit_reg {F N v pc sl en' : Nat} (h : fitB F N v 1 pc sl en' = true) : v < 8 := by simpa [fitB] using h
theorem fit_slot {F N v pc sl en' : Nat} (h : fitB F N v 2 pc sl en' = true) : v < sl := by simpa [fitB] using h
theorem fit_fn {F N v pc sl en' : Nat} (h : fitB F N v 4 pc sl en' = true) : v < F := by simpa [fitB] using h
theorem fit_line {F N v pc sl en' : Nat} (h : fitB F N v 5 pc sl en' = true) : pc < v ∧ v < en' := by simpa [fitB] using h
theorem fit_few {F N v pc sl en' : Nat} (h : fitB F N v 6 pc sl en' = true) : v ≤ 4 := by simpa [fitB] using h
theorem Wl.cases {s : ByteArray} {k pc : Nat} (h : Wl s k pc) {P : Nat → Prop} (hp : ∀ op : Fin 34, 1 ≤ op.val → fitB (hF s) (hN s) (l1 s pc) (ruN op.val 0) pc (r3 s k) (en s k) = true → fitB (hF s) (hN s) (l2 s pc) (ruN op.val 1) pc (r3 s k) (en s k) = true → fitB (hF s) (hN s) (l3 s pc) (ruN op.val 2) pc (r3 s k) (en s k) = true → P op.val) : P (l0 s pc) :=
  hp ⟨l0 s pc, h.op2⟩ h.op1 h.f0 h.f1 h.f2
/-- jumps lead ahead -/
theorem Wl.jump {s : ByteArray} {k pc : Nat} (h : Wl s k pc) (hj : jmB (l0 s pc) = true) : pc < l2 s pc ∧ l2 s pc < en s k := by
  have h1 := h.f1
  unfold jmB at hj
  simp only [Bool.or_eq_true, beq_iff_eq] at hj
  rcases hj with hj | hj <;> rw [hj] at h1 <;> exact fit_line h1
theorem r1_le {s : ByteArray} (h : bad (rowB s) (hF s) 0 = none) {k : Nat} (hk : k < hF s) : r1 s k ≤ 4 ∧ r2 s k ≤ 1 ∧ r3 s k ≤ 1024 ∧ r0 s k < hL s := by
  have := bad_none _ _ h k (by omega) (by omega)
  unfold rowB rowA at this
  simp only [Bool.and_eq_true, decide_eq_true_eq] at this
  exact ⟨this.1.1, this.1.2.1, this.1.2.2, this.2.2⟩
theorem r0_up {s : ByteArray} (h : bad (rowB s) (hF s) 0 = none) {k : Nat} (hk : k + 1 < hF s) : r0 s k < r0 s (k + 1) := by
  have := bad_none _ _ h (k + 1) (by omega) (by omega)
  unfold rowB rowZ at this
  simp only [Bool.and_eq_true, decide_eq_true_eq] at this
  have h2 := this.2.1
  rw [if_neg (by omega)] at h2
  simpa using h2
theorem en_lt {s : ByteArray} (h : bad (rowB s) (hF s) 0 = none) {k : Nat} (hk : k < hF s) : r0 s k < en s k ∧ en s k ≤ hL s := by
  unfold en
  by_cases h1 : k + 1 < hF s
  · rw [if_pos h1]
    exact ⟨r0_up h h1, Nat.le_of_lt (r1_le h h1).2.2.2⟩
  · rw [if_neg h1]
    exact ⟨(r1_le h hk).2.2.2, Nat.le_refl _⟩
theorem tkF_lt {s : ByteArray} (h : bad (rowB s) (hF s) 0 = none) {k : Nat} (hk : k < hF s) : ∀ x ∈ tkF s k, x < 8 := by
  intro x hx
  have := (r1_le h hk).1
  unfold tkF at hx
  rw [List.mem_append] at hx
  rcases hx with hx | hx
  · rw [List.mem_range] at hx; omega
  · split at hx
    · simp at hx; omega
    · cases hx
/-- what a line reads is a register or a slot of its function -/
theorem Wl.reads {s : ByteArray} (hr : bad (rowB s) (hF s) 0 = none) {k pc : Nat} (h : Wl s k pc) : ∀ x ∈ rdL s pc, x < 8 + r3 s k := by
  unfold rdL
  have h0 := h.f0
  have h1 := h.f1
  have h2 := h.f2
  have h3 := h.op1
  have h4 := h.op2
  generalize l0 s pc = op at *
  generalize l1 s pc = r at *
  generalize l2 s pc = x at *
  generalize l3 s pc = y at *
  intro z hz
  unfold rdO at hz
  have hc : op = 1 ∨ op = 2 ∨ op = 3 ∨ op = 4 ∨ op = 5 ∨ op = 6 ∨ op = 7 ∨ op = 8 ∨ op = 9 ∨ op = 10 ∨ op = 11 ∨ op = 12 ∨ op = 13 ∨ op = 14 ∨ op = 15 ∨ op = 16 ∨ op = 17 ∨ op = 18 ∨ op = 19 ∨ op = 20 ∨ op = 21 ∨ op = 22 ∨ op = 23 ∨ op = 24 ∨ op = 25 ∨ op = 26 ∨ op = 27 ∨ op = 28 ∨ op = 29 ∨ op = 30 ∨ op = 31 ∨ op = 32 ∨ op = 33 := by omega
  rcases hc with rfl | rfl | rfl | rfl | rfl | rfl | rfl | rfl | rfl | rfl | rfl | rfl | rfl | rfl | rfl | rfl | rfl | rfl | rfl | rfl | rfl | rfl | rfl | rfl | rfl | rfl | rfl | rfl | rfl | rfl | rfl | rfl | rfl
  all_goals simp [fitB, ruN, rul] at h0 h1 h2 hz
  all_goals first
    | omega
    | (have := tkF_lt hr h1 z hz; omega)
theorem fnS_ahead {s : ByteArray} {k : Nat} (hw : ∀ pc, r0 s k ≤ pc → pc < en s k → Wl s k pc) : (fnS s k).ahead := by
  intro i hi
  have hi' : (decide (i < en s k - r0 s k) && jmB (l0 s (r0 s k + i))) = true := hi
  rw [Bool.and_eq_true, decide_eq_true_eq] at hi'
  have := (hw (r0 s k + i) (by omega) (by omega)).jump hi'.2
  show i < l2 s (r0 s k + i) - r0 s k
  omega
end Go.Proofs.YtmkdoejpgkgpbaaDoor
