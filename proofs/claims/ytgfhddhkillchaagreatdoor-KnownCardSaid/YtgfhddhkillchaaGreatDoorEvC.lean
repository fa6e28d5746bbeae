import Derived.Test.YtgfhddhkillchaaGreatDoorEvB
import Derived.Deep.AppendSrc
import Derived.Deep.Upon
import Derived.Laws.BytesString
import Derived.Below
set_option linter.unusedVariables false
namespace Go.Proofs.YtgfhddhkillchaaGreatDoor
namespace Ev
open Go.RowKit
/-! lists side by side -/
inductive All2 {α β : Type} (R : α → β → Prop) : List α → List β → Prop where
  | nil : All2 R [] []
  | cons {a : α} {b : β} {l : List α} {m : List β} : R a b → All2 R l m → All2 R (a :: l) (b :: m)
section
variable {α β : Type} {R : α → β → Prop}
theorem All2.len {l : List α} {m : List β} (h : All2 R l m) : l.length = m.length := by
  induction h with
  | nil => rfl
  | cons _ _ ih => rw [List.length_cons, List.length_cons, ih]
theorem All2.at {l : List α} {m : List β} (h : All2 R l m) : ∀ {j : Nat} {a : α}, l[j]? = some a → ∃ b, m[j]? = some b ∧ R a b := by
  induction h with
  | nil => intro j a e; cases j <;> cases e
  | cons hr _ ih =>
    intro j a e
    cases j with
    | zero => cases e; exact ⟨_, rfl, hr⟩
    | succ j => exact ih e
theorem All2.of : ∀ {l : List α} {m : List β}, l.length = m.length → (∀ (j : Nat) (a : α) (b : β), l[j]? = some a → m[j]? = some b → R a b) → All2 R l m
  | [], [], _, _ => .nil
  | a :: l, b :: m, h1, h2 => .cons (h2 0 a b rfl rfl) (All2.of (by simpa using h1) fun j x y hx hy => h2 (j + 1) x y hx hy)
  | [], _ :: _, h, _ => by cases h
  | _ :: _, [], h, _ => by cases h
theorem All2.mono {R' : α → β → Prop} {l : List α} {m : List β} (h : All2 R l m) (hr : ∀ a b, R a b → R' a b) : All2 R' l m := by
  induction h with
  | nil => exact .nil
  | cons h1 _ ih => exact .cons (hr _ _ h1) ih
theorem All2.app {l l' : List α} {m m' : List β} (h : All2 R l m) (h' : All2 R l' m') : All2 R (l ++ l') (m ++ m') := by
  induction h with
  | nil => exact h'
  | cons h1 _ ih => exact .cons h1 ih
theorem All2.take {l : List α} {m : List β} (h : All2 R l m) (n : Nat) : All2 R (l.take n) (m.take n) := by
  induction h generalizing n with
  | nil => rw [List.take_nil, List.take_nil]; exact .nil
  | cons h1 _ ih =>
    cases n with
    | zero => exact .nil
    | succ n => exact .cons h1 (ih n)
theorem All2.drop {l : List α} {m : List β} (h : All2 R l m) (n : Nat) : All2 R (l.drop n) (m.drop n) := by
  induction h generalizing n with
  | nil => rw [List.drop_nil, List.drop_nil]; exact .nil
  | cons h1 h2 ih =>
    cases n with
    | zero => exact .cons h1 h2
    | succ n => exact ih n
end
/-! values -/
abbrev Rh := Nat → Option (Nat × Nat)
section
variable (env : Nat → Value) (ρ : Rh)
def VS : Sc → Value → Prop
  | .b x, v => v = .bool x
  | .i k n, v => v = .int k n
  | .s l, v => ∃ s : ByteArray, v = .string s ∧ s.data.toList.map (·.toNat) = l
  | .p b off, v => ∃ k z, ρ b = some (k, z) ∧ v = .pointer (some ⟨k, off, none⟩)
  | .pn, v => v = .pointer none
  | .sl b off len sz, v => ∃ k z cap, ρ b = some (k, z) ∧ v = .slice (some ⟨k, off, none⟩) len cap ∧ len ≤ cap ∧ off + cap * sz ≤ z
  | .sn, v => v = .slice none 0 0
  | .se, v => ∃ a cap, v = .slice a 0 cap
  | .y j, v => v = env j
def VT : TC → Value → Prop
  | .c x, v => VS env ρ x v
  | .ag l, v => ∃ arr : Array Value, v = .agg arr ∧ All2 (VS env ρ) l arr.toList
def VA : AV → Value → Prop
  | .c x, v => VS env ρ x v
  | .ag l, v => ∃ arr : Array Value, v = .agg arr ∧ All2 (VS env ρ) l arr.toList
  | .tp l, v => ∃ arr : Array Value, v = .tuple arr ∧ All2 (VT env ρ) l arr.toList
  | .u, _ => True
end
def Ext (ρ ρ' : Rh) : Prop := ∀ i x, ρ i = some x → ρ' i = some x
theorem Ext.refl (ρ : Rh) : Ext ρ ρ := fun _ _ h => h
theorem Ext.trans {ρ ρ' ρ'' : Rh} (h : Ext ρ ρ') (h' : Ext ρ' ρ'') : Ext ρ ρ'' := fun i x e => h' i x (h i x e)
section
variable {env : Nat → Value} {ρ ρ' : Rh}
theorem VS.ext (he : Ext ρ ρ') : ∀ {x : Sc} {v : Value}, VS env ρ x v → VS env ρ' x v
  | .b _, _, h => h
  | .i _ _, _, h => h
  | .s _, _, h => h
  | .p _ _, _, ⟨k, z, h, e⟩ => ⟨k, z, he _ _ h, e⟩
  | .pn, _, h => h
  | .sl _ _ _ _, _, ⟨k, z, c, h, e⟩ => ⟨k, z, c, he _ _ h, e⟩
  | .sn, _, h => h
  | .se, _, h => h
  | .y _, _, h => h
theorem VT.ext (he : Ext ρ ρ') : ∀ {x : TC} {v : Value}, VT env ρ x v → VT env ρ' x v
  | .c _, _, h => VS.ext he h
  | .ag _, _, ⟨arr, e, h⟩ => ⟨arr, e, h.mono fun _ _ h => VS.ext he h⟩
theorem VA.ext (he : Ext ρ ρ') : ∀ {x : AV} {v : Value}, VA env ρ x v → VA env ρ' x v
  | .c _, _, h => VS.ext he h
  | .ag _, _, ⟨arr, e, h⟩ => ⟨arr, e, h.mono fun _ _ h => VS.ext he h⟩
  | .tp _, _, ⟨arr, e, h⟩ => ⟨arr, e, h.mono fun _ _ h => VT.ext he h⟩
  | .u, _, _ => trivial
/-- what is not known is one cell -/
def EnvOk (env : Nat → Value) : Prop := ∀ j, (env j).oneCell' = true
theorem VS.one (hn : EnvOk env) : ∀ {x : Sc} {v : Value}, VS env ρ x v → v.oneCell' = true
  | .b _, _, h => by rw [h]; rfl
  | .i _ _, _, h => by rw [h]; rfl
  | .s _, _, ⟨s, h, _⟩ => by rw [h]; rfl
  | .p _ _, _, ⟨k, z, _, h⟩ => by rw [h]; rfl
  | .pn, _, h => by rw [h]; rfl
  | .sl _ _ _ _, _, ⟨k, z, c, _, h, _⟩ => by rw [h]; rfl
  | .sn, _, h => by rw [h]; rfl
  | .se, _, ⟨a, c, h⟩ => by rw [h]; rfl
  | .y j, _, h => by rw [h]; exact hn j
theorem one_cells {v : Value} (h : v.oneCell' = true) : v.cells = #[v] := by cases v <;> first | rfl | cases h
theorem VS.cells (hn : EnvOk env) {x : Sc} {v : Value} (h : VS env ρ x v) : v.cells.toList = [v] := by rw [one_cells (h.one hn)]
theorem cellsOf_V (hn : EnvOk env) {a : AV} {v : Value} (h : VA env ρ a v) {l : List Sc} (hl : cellsOf a = some l) : All2 (VS env ρ) l v.cells.toList := by
  cases a with
  | c x =>
    cases hl
    have h : VS env ρ x v := h
    rw [VS.cells hn h]
    exact .cons h .nil
  | ag m =>
    cases hl
    obtain ⟨arr, rfl, h⟩ := h
    exact h
  | tp m => cases hl
  | u => cases hl
theorem scOf_V {v : Value} {x : Sc} (h : scOf v = some x) : VS env ρ x v := by
  unfold scOf at h
  split at h
  · cases h; rfl
  · cases h; rfl
  · cases h; exact ⟨_, rfl, rfl⟩
  · cases h; rfl
  · cases h; rfl
  · cases h
theorem scsOf_V : ∀ {l : List Value} {m : List Sc}, scsOf l = some m → All2 (VS env ρ) m l
  | [], m, h => by cases h; exact .nil
  | v :: l, m, h => by
    unfold scsOf at h
    split at h
    · rename_i x hx
      split at h
      · rename_i m' hm
        cases h
        exact .cons (scOf_V hx) (scsOf_V hm)
      · cases h
    · cases h
theorem ofV_V (v : Value) : VA env ρ (ofV v) v := by
  unfold ofV
  split
  · rename_i l
    split
    · rename_i m hm
      exact ⟨⟨l⟩, rfl, scsOf_V hm⟩
    · trivial
  · exact ⟨#[], rfl, .nil⟩
  · split
    · rename_i x hx
      exact scOf_V hx
    · trivial
end
/-! memory -/
def Live (h : Hp) (i : Nat) : Prop := i < 32768 ∧ 0 < (get5 i h).t.room
structure BR (env : Nat → Value) (ρ : Rh) (B : Bk) (i : Nat) (w : World) : Prop where
  ex : ∃ k arr ty lo hi, ρ i = some (k, arr.size) ∧ w.heap[k]? = some (.cells arr ty (lo, hi)) ∧ (i < 8 ∨ lo = hi ∨ arr.size ≤ lo) ∧ B.n ≤ arr.size ∧ B.n ≤ B.t.room ∧ ∀ j, j < B.n → ∃ v, arr[j]? = some v ∧ VS env ρ (B.t.get j) v
structure HR (env : Nat → Value) (ρ : Rh) (h : Hp) (w : World) : Prop where
  blk : ∀ i, Live h i → BR env ρ (get5 i h) i w
  ded : ∀ i, i < 32768 → (get5 i h).t.room = 0 → (get5 i h).n = 0
  inj : ∀ i j k z z', Live h i → Live h j → ρ i = some (k, z) → ρ j = some (k, z') → i = j
  dom : ∀ i x, ρ i = some x → i < 32768
/-- what has become of memory -/
structure Post (env : Nat → Value) (ρ : Rh) (h : Hp) (n : Nat) (w : World) (ρ' : Rh) (h' : Hp) (n' : Nat) (w' : World) : Prop where
  ext : Ext ρ ρ'
  new : ∀ i x, ρ' i = some x → ρ i = some x ∨ (n ≤ i ∧ i < n')
  hr : HR env ρ' h' w'
  keep : ∀ k, k < w.heap.size → (∀ i z, Live h i → ρ i ≠ some (k, z)) → w'.heap[k]? = w.heap[k]?
  orig : ∀ i k z, Live h' i → ρ' i = some (k, z) → k < w.heap.size → ∃ j z', Live h j ∧ ρ j = some (k, z')
  low : Below 0 w w'
  ro : ∀ g k z, g < 8 → Live h g → ρ g = some (k, z) → Live h' g ∧ w'.heap[k]? = w.heap[k]?
/-- the numbers from n on are free -/
def Free (ρ : Rh) (n n' : Nat) : Prop := ∀ i, n ≤ i → i < n' → ρ i = none
section
variable {env : Nat → Value} {ρ ρ' ρ'' : Rh} {h h' h'' : Hp} {n n' n'' : Nat} {w w' w'' : World}
theorem Post.size (h1 : Post env ρ h n w ρ' h' n' w') : w.heap.size ≤ w'.heap.size := h1.low.size
theorem Post.refl (hr : HR env ρ h w) (n : Nat) : Post env ρ h n w ρ h n w :=
  ⟨Ext.refl _, fun i x e => .inl e, hr, fun _ _ _ => rfl, fun i k z hl e _ => ⟨i, z, hl, e⟩, Below.refl _ _, fun g k z _ hl _ => ⟨hl, rfl⟩⟩
theorem Post.trans (h1 : Post env ρ h n w ρ' h' n' w') (h2 : Post env ρ' h' n' w' ρ'' h'' n'' w'') (hn : n ≤ n') (hn' : n' ≤ n'') : Post env ρ h n w ρ'' h'' n'' w'' := by
  refine ⟨h1.ext.trans h2.ext, fun i x e => ?_, h2.hr, fun k hk hl => ?_, fun i k z hl e hk => ?_, h1.low.trans h2.low, fun g k z hg hl e => ?_⟩
  · rcases h2.new i x e with e | e
    · rcases h1.new i x e with e | e
      · exact .inl e
      · exact .inr ⟨e.1, by omega⟩
    · exact .inr ⟨by omega, e.2⟩
  · rw [h2.keep k (Nat.lt_of_lt_of_le hk h1.size) (fun i z hi e => ?_), h1.keep k hk hl]
    obtain ⟨j, z', hj, e'⟩ := h1.orig i k z hi e hk
    exact hl j z' hj e'
  · obtain ⟨j, z', hj, e'⟩ := h2.orig i k z hl e (Nat.lt_of_lt_of_le hk h1.size)
    exact h1.orig j k z' hj e' hk
  · obtain ⟨q1, q2⟩ := h1.ro g k z hg hl e
    obtain ⟨q3, q4⟩ := h2.ro g k z hg q1 (h1.ext _ _ e)
    exact ⟨q3, q4.trans q2⟩
theorem Free.step (h1 : Post env ρ h n w ρ' h' n' w') (hf : Free ρ n n'') (hn : n ≤ n') (hn' : n' ≤ n'') : Free ρ' n' n'' := fun i hi hi' => by
  cases e : ρ' i with
  | none => rfl
  | some x =>
    rcases h1.new i x e with e | e
    · rw [hf i (by omega) hi'] at e; cases e
    · omega
theorem Free.sub (hf : Free ρ n n'') (hn : n' ≤ n'') : Free ρ n n' := fun i hi hi' => hf i hi (by omega)
theorem HR.lt (hr : HR env ρ h w) {i k z : Nat} (hl : Live h i) (e : ρ i = some (k, z)) : k < w.heap.size := by
  obtain ⟨k', arr, ty, lo, hi, e', hb, _⟩ := (hr.blk i hl).ex
  rw [e] at e'
  cases e'
  exact (Array.getElem?_eq_some_iff.1 hb).1
theorem BR.ext {B : Bk} {i : Nat} (hb : BR env ρ B i w) (he : Ext ρ ρ') (hw : ∀ k z, ρ i = some (k, z) → w'.heap[k]? = w.heap[k]?) : BR env ρ' B i w' := by
  obtain ⟨k, arr, ty, lo, hi, e, h1, h2, h3, h4, h5⟩ := hb.ex
  exact ⟨k, arr, ty, lo, hi, he _ _ e, (hw _ _ e).trans h1, h2, h3, h4, fun j hj => by obtain ⟨v, e1, e2⟩ := h5 j hj; exact ⟨v, e1, e2.ext he⟩⟩
/-- nothing but the draws has turned -/
theorem HR.same (hr : HR env ρ h w) (hw : w'.heap = w.heap) : HR env ρ h w' := ⟨fun i hl => (hr.blk i hl).ext (Ext.refl _) (fun k z _ => by rw [hw]), hr.ded, hr.inj, hr.dom⟩
/-- a block's cells have been written -/
theorem Post.write (hr : HR env ρ h w) (n : Nat) {i k : Nat} {B : Bk} (h8 : 8 ≤ i) (hl : Live h i) (hro : B.t.room = (get5 i h).t.room) (hk : ∃ z, ρ i = some (k, z)) (hB : BR env ρ B i w') (hw : ∀ j, j ≠ k → w'.heap[j]? = w.heap[j]?) (hsz : Below 0 w w') :
    Post env ρ h n w ρ (hset h i B) n w' := by
  obtain ⟨z, hk⟩ := hk
  have hlv : ∀ j, Live (hset h i B) j ↔ Live h j := fun j => by
    unfold Live
    refine and_congr_right fun hj => ?_
    rw [get_hset hj hl.1]
    by_cases e : j = i
    · rw [if_pos e, e, hro]
    · rw [if_neg e]
  refine ⟨Ext.refl _, fun i x e => .inl e, ⟨fun j hj => ?_, fun j hj hd => ?_, fun j j' k z z' h1 h2 => hr.inj j j' k z z' ((hlv j).1 h1) ((hlv j').1 h2), hr.dom⟩, fun j hj hn => hw j (fun e => hn i z hl (by rw [e]; exact hk)), fun j k z hj e _ => ⟨j, z, (hlv j).1 hj, e⟩, hsz, fun g k' z' hg hlg e => ⟨(hlv g).2 hlg, hw k' fun ek => by have := hr.inj g i k z' z hlg hl (by rw [← ek]; exact e) hk; omega⟩⟩
  · rw [get_hset hj.1 hl.1]
    by_cases e : j = i
    · rw [if_pos e, e]; exact hB
    · rw [if_neg e]
      exact (hr.blk j ((hlv j).1 hj)).ext (Ext.refl _) fun k' z' e' => hw k' fun ek => e (hr.inj j i k z' z ((hlv j).1 hj) hl (by rw [← ek]; exact e') hk)
  · rw [get_hset hj hl.1] at hd ⊢
    by_cases e : j = i
    · rw [if_pos e] at hd
      have := hl.2
      omega
    · rw [if_neg e] at hd ⊢
      exact hr.ded j hj hd
def upR (ρ : Rh) (i : Nat) (x : Nat × Nat) : Rh := fun j => if j = i then some x else ρ j
theorem upR_ext (hn : ρ n = none) (x : Nat × Nat) : Ext ρ (upR ρ n x) := fun i y e => by
  unfold upR
  rw [if_neg (fun e' => by rw [e', hn] at e; cases e)]
  exact e
theorem upR_new (ρ : Rh) (n : Nat) (x : Nat × Nat) : upR ρ n x n = some x := if_pos rfl
theorem upR_old {ρ : Rh} {i n : Nat} {x : Nat × Nat} (h : i ≠ n) : upR ρ n x i = ρ i := if_neg h
theorem upR_inv {ρ : Rh} {i n : Nat} {x y : Nat × Nat} (h : upR ρ n x i = some y) : (i = n ∧ y = x) ∨ (i ≠ n ∧ ρ i = some y) := by
  by_cases e : i = n
  · rw [e, upR_new] at h; cases h; exact .inl ⟨e, rfl⟩
  · rw [upR_old e] at h; exact .inr ⟨e, h⟩
/-- a new block: nobody's yet -/
theorem Post.make (hr : HR env ρ h w) (hn : n < 32768) (hf : ρ n = none) {B : Bk} (hro : 0 < B.t.room) {arr : Array Value} {ty : TypeId} (hk : w'.heap[w.heap.size]? = some (.cells arr ty (0, 0))) (hw : ∀ j, j < w.heap.size → w'.heap[j]? = w.heap[j]?) (hsz : Below 0 w w')
    (h1 : B.n ≤ arr.size) (h2 : B.n ≤ B.t.room) (h3 : ∀ j, j < B.n → ∃ v, arr[j]? = some v ∧ VS env ρ (B.t.get j) v) :
    Post env ρ h n w (upR ρ n (w.heap.size, arr.size)) (hset h n B) (n + 1) w' := by
  have he := upR_ext hf (w.heap.size, arr.size)
  have hlv : ∀ j, Live (hset h n B) j → j ≠ n → Live h j := fun j hj e => ⟨hj.1, by have := hj.2; rw [get_hset hj.1 hn, if_neg e] at this; exact this⟩
  have hnl : ¬ Live h n := fun hl => by
    obtain ⟨k, arr, ty, lo, hi, e, _⟩ := (hr.blk n hl).ex
    rw [hf] at e; cases e
  refine ⟨he, fun i x e => ?_, ⟨fun j hj => ?_, fun j hj hd => ?_, fun j j' k z z' hj hj' e e' => ?_, fun i x e => ?_⟩, fun j hj _ => hw j hj, fun j k z hj e hk => ?_, hsz, fun g k z hg hlg e => ⟨⟨hlg.1, by rw [get_hset hlg.1 hn, if_neg (fun e' => hnl (by rw [← e']; exact hlg))]; exact hlg.2⟩, hw k (hr.lt hlg e)⟩⟩
  · rcases upR_inv e with ⟨e, _⟩ | ⟨_, e⟩
    · exact .inr ⟨by omega, by omega⟩
    · exact .inl e
  · rw [get_hset hj.1 hn]
    by_cases e : j = n
    · rw [if_pos e, e]
      exact ⟨w.heap.size, arr, ty, 0, 0, upR_new _ _ _, hk, .inr (.inl rfl), h1, h2, fun j hj => by obtain ⟨v, e1, e2⟩ := h3 j hj; exact ⟨v, e1, e2.ext he⟩⟩
    · rw [if_neg e]
      exact (hr.blk j (hlv j hj e)).ext he fun k z e' => hw k (hr.lt (hlv j hj e) e')
  · rw [get_hset hj hn] at hd ⊢
    by_cases e : j = n
    · rw [if_pos e] at hd; omega
    · rw [if_neg e] at hd ⊢; exact hr.ded j hj hd
  · rcases upR_inv e with ⟨e1, e2⟩ | ⟨e1, e2⟩ <;> rcases upR_inv e' with ⟨e3, e4⟩ | ⟨e3, e4⟩
    · rw [e1, e3]
    · cases e2
      have := hr.lt (hlv j' hj' e3) e4
      omega
    · cases e4
      have := hr.lt (hlv j hj e1) e2
      omega
    · exact hr.inj j j' k z z' (hlv j hj e1) (hlv j' hj' e3) e2 e4
  · rcases upR_inv e with ⟨e1, e2⟩ | ⟨e1, e2⟩
    · rw [e1]; exact hn
    · exact hr.dom i x e2
  · rcases upR_inv e with ⟨e1, e2⟩ | ⟨e1, e2⟩
    · cases e2; omega
    · exact ⟨j, z, hlv j hj e1, e2⟩
/-- a block is given up -/
theorem Post.kill (hr : HR env ρ h w) (n : Nat) {i : Nat} (h8 : 8 ≤ i) (hi : i < 32768) : Post env ρ h n w ρ (hset h i dead) n w := by
  have hlv : ∀ j, Live (hset h i dead) j → j ≠ i ∧ Live h j := fun j hj => by
    have := hj.2
    rw [get_hset hj.1 hi] at this
    by_cases e : j = i
    · rw [if_pos e] at this; exact absurd this (Nat.not_lt_zero _)
    · rw [if_neg e] at this; exact ⟨e, hj.1, this⟩
  refine ⟨Ext.refl _, fun i x e => .inl e, ⟨fun j hj => ?_, fun j hj hd => ?_, fun j j' k z z' h1 h2 => hr.inj j j' k z z' (hlv j h1).2 (hlv j' h2).2, hr.dom⟩, fun _ _ _ => rfl, fun j k z hj e _ => ⟨j, z, (hlv j hj).2, e⟩, Below.refl _ _, fun g k z hg hlg e => ⟨⟨hlg.1, by rw [get_hset hlg.1 hi, if_neg (by omega)]; exact hlg.2⟩, rfl⟩⟩
  · rw [get_hset hj.1 hi, if_neg (hlv j hj).1]
    exact hr.blk j (hlv j hj).2
  · rw [get_hset hj hi] at hd ⊢
    by_cases e : j = i
    · rw [if_pos e]; rfl
    · rw [if_neg e] at hd ⊢; exact hr.ded j hj hd
/-- a row has grown where it lies: it has another number now -/
theorem Post.move (hr : HR env ρ h w) (hn : n < 32768) (hf : ρ n = none) {i k : Nat} (h8 : 8 ≤ i) (hl : Live h i) {B : Bk} (hro : 0 < B.t.room) {arr : Array Value} {ty : TypeId} {lo hi : Nat} (hk : ρ i = some (k, arr.size)) (hb : w'.heap[k]? = some (.cells arr ty (lo, hi))) (hz : lo = hi ∨ arr.size ≤ lo)
    (hw : ∀ j, j ≠ k → w'.heap[j]? = w.heap[j]?) (hsz : Below 0 w w') (h1 : B.n ≤ arr.size) (h2 : B.n ≤ B.t.room) (h3 : ∀ j, j < B.n → ∃ v, arr[j]? = some v ∧ VS env ρ (B.t.get j) v) :
    Post env ρ h n w (upR ρ n (k, arr.size)) (hset (hset h i dead) n B) (n + 1) w' := by
  have he := upR_ext hf (k, arr.size)
  have hin : i ≠ n := fun e => by rw [e, hf] at hk; cases hk
  have hg' : ∀ j, j < 32768 → get5 j (hset (hset h i dead) n B) = if j = n then B else if j = i then dead else get5 j h := fun j hj => by rw [get_hset hj hn, get_hset hj hl.1]
  have hlv : ∀ j, Live (hset (hset h i dead) n B) j → j ≠ n → j ≠ i ∧ Live h j := fun j hj e => by
    have := hj.2
    rw [hg' j hj.1, if_neg e] at this
    by_cases e' : j = i
    · rw [if_pos e'] at this; exact absurd this (Nat.not_lt_zero _)
    · rw [if_neg e'] at this; exact ⟨e', hj.1, this⟩
  refine ⟨he, fun j x e => ?_, ⟨fun j hj => ?_, fun j hj hd => ?_, fun j j' k' z z' hj hj' e e' => ?_, fun j x e => ?_⟩, fun j hj hnl => hw j (fun e => hnl i arr.size hl (by rw [e]; exact hk)), fun j k' z hj e hk' => ?_, hsz, fun g k' z hg hlg e => ⟨⟨hlg.1, ?_⟩, hw k' fun ek => by have := hr.inj g i k z _ hlg hl (by rw [← ek]; exact e) hk; omega⟩⟩
  · rcases upR_inv e with ⟨e, _⟩ | ⟨_, e⟩
    · exact .inr ⟨by omega, by omega⟩
    · exact .inl e
  · rw [hg' j hj.1]
    by_cases e : j = n
    · rw [if_pos e, e]
      exact ⟨k, arr, ty, lo, hi, upR_new _ _ _, hb, .inr hz, h1, h2, fun j hj => by obtain ⟨v, e1, e2⟩ := h3 j hj; exact ⟨v, e1, e2.ext he⟩⟩
    · obtain ⟨e1, e2⟩ := hlv j hj e
      rw [if_neg e, if_neg e1]
      exact (hr.blk j e2).ext he fun k' z' e' => hw k' fun ek => e1 (hr.inj j i k z' _ e2 hl (by rw [← ek]; exact e') hk)
  · rw [hg' j hj] at hd ⊢
    by_cases e : j = n
    · rw [if_pos e] at hd; omega
    · rw [if_neg e] at hd ⊢
      by_cases e' : j = i
      · rw [if_pos e']; rfl
      · rw [if_neg e'] at hd ⊢; exact hr.ded j hj hd
  · rcases upR_inv e with ⟨e1, e2⟩ | ⟨e1, e2⟩ <;> rcases upR_inv e' with ⟨e3, e4⟩ | ⟨e3, e4⟩
    · rw [e1, e3]
    · cases e2
      obtain ⟨h5, h6⟩ := hlv j' hj' e3
      exact absurd (hr.inj j' i k z' _ h6 hl e4 hk) h5
    · cases e4
      obtain ⟨h5, h6⟩ := hlv j hj e1
      exact absurd (hr.inj j i k z _ h6 hl e2 hk) h5
    · exact hr.inj j j' k' z z' (hlv j hj e1).2 (hlv j' hj' e3).2 e2 e4
  · rcases upR_inv e with ⟨e1, e2⟩ | ⟨e1, e2⟩
    · rw [e1]; exact hn
    · exact hr.dom j x e2
  · rcases upR_inv e with ⟨e1, e2⟩ | ⟨e1, e2⟩
    · cases e2; exact ⟨i, _, hl, hk⟩
    · exact ⟨j, z, (hlv j hj e1).2, e2⟩
  · rw [hg' g hlg.1, if_neg (fun e' => by rw [e', hf] at e; cases e), if_neg (by omega)]
    exact hlg.2
end
/-! cells of a block, written one by one -/
def ovr (arr : Array Value) : Nat → List Value → Array Value
  | _, [] => arr
  | o, v :: r => ovr (arr.setIfInBounds o v) (o + 1) r
theorem ovr_size : ∀ (vs : List Value) (o : Nat) (arr : Array Value), (ovr arr o vs).size = arr.size
  | [], _, _ => rfl
  | v :: r, o, arr => by unfold ovr; rw [ovr_size r, Array.size_setIfInBounds]
theorem ovr_at : ∀ (vs : List Value) (o : Nat) (arr : Array Value) (j : Nat), o + vs.length ≤ arr.size → (ovr arr o vs)[j]? = if o ≤ j ∧ j < o + vs.length then vs[j - o]? else arr[j]?
  | [], o, arr, j, h => by rw [if_neg (by simp only [List.length_nil]; omega)]; rfl
  | v :: r, o, arr, j, h => by
    rw [List.length_cons] at h ⊢
    unfold ovr
    rw [ovr_at r (o + 1) _ j (by rw [Array.size_setIfInBounds]; omega)]
    by_cases h1 : o + 1 ≤ j ∧ j < o + 1 + r.length
    · rw [if_pos h1, if_pos (by omega), show j - o = (j - (o + 1)) + 1 by omega, List.getElem?_cons_succ]
    · rw [if_neg h1]
      by_cases h2 : j = o
      · rw [if_pos (by omega), h2, Nat.sub_self, List.getElem?_cons_zero, Array.getElem?_setIfInBounds_self_of_lt (by omega)]
      · rw [if_neg (by omega), Array.getElem?_setIfInBounds_ne (fun e => h2 e.symm)]
theorem setCells_low (b : Nat) : ∀ (vs : List Value) (o : Nat) (w : World), Below 0 w (w.setCells b o vs)
  | [], _, w => Below.refl _ _
  | v :: r, o, w => ((Below.refl 0 w).setCell (Nat.zero_le _) _).trans (setCells_low b r (o + 1) _)
theorem setCells_blk (b : Nat) : ∀ (vs : List Value) (o : Nat) (w : World) {arr : Array Value} {ty : TypeId} {fz : Nat × Nat}, w.heap[b]? = some (.cells arr ty fz) → (w.setCells b o vs).heap[b]? = some (.cells (ovr arr o vs) ty fz) ∧ (w.setCells b o vs).heap.size = w.heap.size ∧ ∀ j, j ≠ b → (w.setCells b o vs).heap[j]? = w.heap[j]?
  | [], o, w, arr, ty, fz, h => ⟨h, rfl, fun _ _ => rfl⟩
  | v :: r, o, w, arr, ty, fz, h => by
    have h1 : (w.setCell ⟨b, o, none⟩ v).heap[b]? = some (.cells (arr.setIfInBounds o v) ty fz) := by
      unfold World.setCell
      rw [Array.getElem?_modify, if_pos rfl, h]
      rfl
    obtain ⟨h2, h3, h4⟩ := setCells_blk b r (o + 1) (w.setCell ⟨b, o, none⟩ v) h1
    refine ⟨h2, h3.trans (World.size_setCell w _ _), fun j hj => (h4 j hj).trans ?_⟩
    unfold World.setCell
    rw [Array.getElem?_modify, if_neg (fun e => hj e.symm)]
end Ev
end Go.Proofs.YtgfhddhkillchaaGreatDoor
