/- AID: a set of places in memory. WALKS: meet. -/
import Derived.Test.YtmkdoejpgkgpbaaDoorRoD
import Derived.Deep.MidRow
set_option linter.unusedVariables false
set_option linter.unusedSimpArgs false
namespace Go.Proofs.YtmkdoejpgkgpbaaDoor
open Go.RowKit Li Ro

/-- the 18 cells of a set, and of none -/
def cv (c : Option Pl) (i : Nat) : Value :=
  match c with
  | none => if i = 0 then .bool false else if i = 1 then .int .i64 0 else .int .u64 0
  | some A => if i = 0 then .bool true else if i = 1 then .int .i64 ((mask A 8 : Nat) : Int) else .int .u64 ((mask (fun j => A (8 + 64 * (i - 2) + j)) 64 : Nat) : Int)
def LdAt (w : World) (b o : Nat) (c : Option Pl) : Prop := ∀ i, i < 18 → w.cell? ⟨b, o + i, none⟩ = some (cv c i)
/-- only the 18 cells from o on of block b have turned -/
structure Ch (b o : Nat) (w w' : World) : Prop where
  lone : Lone b w w'
  blk : ∀ arr t, w.heap[b]? = some (.cells arr t (0, 0)) → ∃ arr', w'.heap[b]? = some (.cells arr' t (0, 0)) ∧ arr'.size = arr.size ∧ ∀ j, (j < o ∨ o + 18 ≤ j) → arr'[j]? = arr[j]?
theorem Ch.refl (b o : Nat) (w : World) : Ch b o w w := ⟨Lone.refl _ _, fun arr t h => ⟨arr, h, rfl, fun _ _ => rfl⟩⟩
theorem Ch.trans {b o : Nat} {w w1 w2 : World} (h : Ch b o w w1) (h2 : Ch b o w1 w2) : Ch b o w w2 :=
  ⟨h.lone.trans h2.lone, fun arr t hb => by
    obtain ⟨a1, e1, s1, j1⟩ := h.blk arr t hb
    obtain ⟨a2, e2, s2, j2⟩ := h2.blk a1 t e1
    exact ⟨a2, e2, s2.trans s1, fun j hj => (j2 j hj).trans (j1 j hj)⟩⟩
theorem Ch.drew {b o : Nat} {w w1 : World} (h : Ch b o w w1) : Ch b o w w1.drew := ⟨h.lone.drew, h.blk⟩
theorem Ch.set {b o : Nat} {w w1 : World} (h : Ch b o w w1) (i : Nat) (u : Value) (h1 : o ≤ i) (h2 : i < o + 18) : Ch b o w (w1.setCell ⟨b, i, none⟩ u) :=
  ⟨h.lone.set i u, fun arr t hb => by
    obtain ⟨a1, e1, s1, j1⟩ := h.blk arr t hb
    refine ⟨_, lb_set e1 i u, by rw [Array.size_setIfInBounds, s1], fun j hj => ?_⟩
    rw [Array.getElem?_setIfInBounds_ne (by omega)]
    exact j1 j hj⟩
theorem Ch.of {b o : Nat} {w w1 : World} (h : Below w.heap.size w w1) (hb : b < w.heap.size) : Ch b o w w1 :=
  ⟨Lone.of h (Nat.le_of_lt hb), fun arr t he => ⟨arr, lb_below he h hb, rfl, fun _ _ => rfl⟩⟩
/-- cells elsewhere -/
theorem Ch.cell {b o : Nat} {w w1 : World} (h : Ch b o w w1) {g i : Nat} {arr : Array Value} {t : TypeId} (hb : w.heap[b]? = some (.cells arr t (0, 0))) (hg : g < w.heap.size) (hne : g ≠ b ∨ i < o ∨ o + 18 ≤ i) : w1.cell? ⟨g, i, none⟩ = w.cell? ⟨g, i, none⟩ := by
  by_cases e : g = b
  · subst e
    obtain ⟨a1, e1, s1, j1⟩ := h.blk arr t hb
    rw [(cells_of_block' e1 i).1, (cells_of_block' hb i).1]
    exact j1 i (hne.resolve_left (fun h => h rfl))
  · exact World.cell?_of_block (w := w) (a := ⟨g, i, none⟩) (h.lone.rest g hg e)
theorem lb_get {w : World} {b i j : Nat} {u v : Value} {arr : Array Value} {t : TypeId} (hb : w.heap[b]? = some (.cells arr t (0, 0))) (hc : w.cell? ⟨b, i, none⟩ = some v) : (w.setCell ⟨b, i, none⟩ u).cell? ⟨b, j, none⟩ = if i = j then some u else w.cell? ⟨b, j, none⟩ := by
  rw [(cells_of_block' (lb_set hb i u) j).1, (cells_of_block' hb j).1]
  rw [(cells_of_block' hb i).1] at hc
  have hi : i < arr.size := by
    rcases Nat.lt_or_ge i arr.size with h | h
    · exact h
    · rw [Array.getElem?_eq_none h] at hc; cases hc
  by_cases e : i = j
  · subst e; rw [if_pos rfl, Array.getElem?_setIfInBounds_self_of_lt hi]
  · rw [if_neg e, Array.getElem?_setIfInBounds_ne e]
theorem Ch.sets {b o : Nat} {w w1 : World} : ∀ (vs : List Value) (i : Nat) (w1 : World), Ch b o w w1 → o ≤ i → i + vs.length ≤ o + 18 → Ch b o w (w1.setCells b i vs)
  | [], _, _, h, _, _ => h
  | v :: r, i, w1, h, h1, h2 => by
    rw [World.setCells]
    simp only [List.length_cons] at h2
    exact Ch.sets (w1 := w1) r (i + 1) _ (h.set i v h1 (by omega)) (by omega) (by omega)
def cvs (c : Option Pl) : List Value := (List.range 18).map (cv c)
theorem cvs_len (c : Option Pl) : (cvs c).length = 18 := by simp [cvs]
theorem cvs_at (c : Option Pl) {i : Nat} (h : i < 18) : (cvs c)[i]? = some (cv c i) := by simp [cvs, h]
theorem cv_one (c : Option Pl) (i : Nat) : (cv c i).oneCell' = true := by
  cases c <;> simp only [cv] <;> (repeat' split) <;> rfl
theorem LdAt.range {w : World} {b o : Nat} {c : Option Pl} (h : LdAt w b o c) : w.rangeAt b o (cvs c) := fun j v hv => by
  have hj : j < 18 := by have := (List.getElem?_eq_some_iff.1 hv).1; rw [cvs_len] at this; exact this
  rw [cvs_at c hj] at hv
  injection hv with hv
  rw [← hv]
  exact h j hj
theorem LdAt.of_range {w : World} {b o : Nat} {c : Option Pl} (h : w.rangeAt b o (cvs c)) : LdAt w b o c := fun i hi => h i _ (cvs_at c hi)
theorem LdAt.there {w : World} {b o : Nat} {c : Option Pl} {arr : Array Value} {t : TypeId} (hb : w.heap[b]? = some (.cells arr t (0, 0))) (h : LdAt w b o c) : w.there b o 18 := fun j hj => ⟨by rw [h j hj]; rfl, lb_f hb _⟩
theorem Tryd.infoL : (Tryd.prog.info? 105).map (·.size) = some 18 := by kernel_rfl
theorem Tryd.undL' : (Tryd.prog.underlying 105).map (·.isRow) = some true := by kernel_rfl
theorem Tryd.undL : ∃ d, Tryd.prog.underlying 105 = some d ∧ d.isRow = true := by
  have h := Tryd.undL'
  cases hd : Tryd.prog.underlying 105 with
  | none => rw [hd] at h; cases h
  | some d => rw [hd] at h; injection h with h; exact ⟨d, rfl, h⟩
set_option maxRecDepth 100000 in
set_option maxHeartbeats 1600000 in
theorem meet_none {w : World} {b o b2 o2 : Nat} {A : Pl} {arr : Array Value} {t : TypeId} (hb : w.heap[b]? = some (.cells arr t (0, 0))) (h1 : LdAt w b o none) (h2 : LdAt w b2 o2 (some A)) :
    Calls Tryd.prog 58 #[.pointer (some ⟨b, o, none⟩), .pointer (some ⟨b2, o2, none⟩)] w fun e w' => e = .returned (.tuple #[]) ∧ LdAt w' b o (some A) ∧ Ch b o w w' := by
  have c0 : w.cell? ⟨b, o, none⟩ = some (.bool false) := h1 0 (by omega)
  obtain ⟨d, hd1, hd2⟩ := Tryd.undL
  have hth := h1.there hb
  have hrg := h2.range
  have hif : (Tryd.prog.info? 105).map (·.size) = some (cvs (some A)).length := by rw [cvs_len]; exact Tryd.infoL
  have hone : ∀ v ∈ cvs (some A), v.oneCell' = true := fun v hv => by obtain ⟨i, _, rfl⟩ := List.mem_map.1 hv; exact cv_one _ _
  have hcl := cvs_len (some A)
  have HL : Hid (LdAt (w.setCells b o (cvs (some A))) b o (some A)) := LdAt.of_range (w.rangeAt_setCells_same b o _ (by rw [cvs_len]; exact hth))
  have HC : Hid (Ch b o w (w.setCells b o (cvs (some A)))) := Ch.sets (w1 := w) _ _ _ (Ch.refl _ _ _) (Nat.le_refl _) (by rw [cvs_len]; omega)
  clear h1 h2 hb
  generalize cvs (some A) = cs at *
  go_enter Tryd.func58, Tryd.ntmps58
  go_wp2_with (first
    | (refine wpList_load_mid (op := ⟨some 13, Op.load 105 (.tmp 12), _, _, _, _⟩) rfl 105 (.tmp 12) rfl b2 o2 rfl cs d hrg hd1 hd2 hif ?_)
    | (refine wpList_store_mid (op := ⟨none, Op.store 105 (.tmp 14) (.tmp 13), _, _, _, _⟩) rfl 105 (.tmp 14) (.tmp 13) rfl b o cs.toArray rfl rfl (by rw [List.size_toArray, hcl]; exact hth) (by rw [List.size_toArray]; exact hif) (all_oneCell_toArray hone) ?_))
  go_returns
  exact ⟨rfl, HL.out, HC.out⟩
end Go.Proofs.YtmkdoejpgkgpbaaDoor
