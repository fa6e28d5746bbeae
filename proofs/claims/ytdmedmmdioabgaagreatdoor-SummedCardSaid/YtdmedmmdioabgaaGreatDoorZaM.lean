import Derived.Test.YtdmedmmdioabgaaGreatDoorZaL
import Derived.Deep.CutRange
import Derived.Deep.MidRow
import Derived.Test.YtdmedmmdioabgaaGreatDoorZaE
/- WALKS: summed, by what its calls answer. -/
set_option linter.unusedVariables false
set_option linter.unusedSimpArgs false
namespace Go.Proofs.YtdmedmmdioabgaaGreatDoor
namespace Sn
open Go.RowKit
def cmpS (o : Nat) (l : List UInt8) : List UInt8 := if 5 ≤ o then [105, 102, 32] ++ l ++ [32, 116, 104, 101, 110, 32, 49, 32, 101, 108, 115, 101, 32, 48] else l
def eS (o : Nat) (a b : Int) : List UInt8 := cmpS o (saidS a ++ sgnL o ++ saidS b)
def fS (o : Nat) : List UInt8 := cmpS o ([120] ++ sgnL o ++ [121])
def recS (o : Nat) (a b : Int) : List UInt8 := [108, 101, 116, 32, 114, 101, 99, 32, 102, 32, 120, 32, 121, 61] ++ fS o ++ [32, 105, 110, 32, 102, 40] ++ saidS a ++ [41, 40] ++ saidS b ++ [41]
def tupS (o : Nat) (a b : Int) : List UInt8 := [108, 101, 116, 40, 120, 44, 121, 41, 61, 40] ++ saidS a ++ [44] ++ saidS b ++ [41, 105, 110, 32] ++ fS o
def redS (o : Nat) : List UInt8 := [108, 101, 116, 32, 120, 61, 114, 101, 97, 100, 32, 105, 110, 32, 108, 101, 116, 32, 121, 61, 114, 101, 97, 100, 32, 105, 110, 32] ++ fS o
def negS : List UInt8 := [108, 101, 116, 32, 120, 61, 114, 101, 97, 100, 32, 105, 110, 32, 45, 120]
def minS (a : Int) : List UInt8 := [45] ++ saidS a
def prtS (o : Nat) : List UInt8 := [105, 102, 40, 112, 114, 105, 110, 116, 32, 49, 59, 49, 41] ++ sgnL o ++ (if 5 ≤ o then [40, 112, 114, 105, 110, 116, 32, 50, 59, 49, 41, 116, 104, 101, 110, 32, 49, 32, 101, 108, 115, 101, 32, 50] else [40, 112, 114, 105, 110, 116, 32, 50, 59, 49, 41, 61, 49, 32, 116, 104, 101, 110, 32, 49, 32, 101, 108, 115, 101, 32, 50])
def prt0 (o : Nat) : List UInt8 := [105, 102, 40, 112, 114, 105, 110, 116, 32, 49, 59, 49, 41] ++ sgnL o ++ [40, 112, 114, 105, 110, 116, 32, 50, 59, 49, 41, 61, 49, 32, 116, 104, 101, 110, 32, 49, 32, 101, 108, 115, 101, 32, 50]
def bs (l : List UInt8) : ByteArray := ⟨l.toArray⟩
/-- it answers true -/
def Yes (f : Nat) (args : Array Value) (w : World) : Prop := Calls Tryz.prog f args w fun e w' => e = .returned (.bool true) ∧ Below w.heap.size w w'
structure SumH (w : World) (x y : Int) (o : Nat) : Prop where
  g1 : ∀ W s, Below w.heap.size w W → s = bs (eS o (wv x) (wv y)) → Yes 9 #[.string s, .slice none 0 0, .int .i64 (wval o (wv x) (wv y)), .bool (wok o (wv y)), .int .i64 ((saidS (wv x)).length : Nat)] W
  t1 : ∀ W s, Below w.heap.size w W → s = bs (eS o (wv x) (wv y)) → Yes 10 #[.string s, .bool (wok o (wv y))] W
  t2 : ∀ W s, Below w.heap.size w W → s = bs (recS o (wv x) (wv y)) → Yes 10 #[.string s, .bool (wok o (wv y))] W
  t3 : ∀ W s, Below w.heap.size w W → s = bs (tupS o (wv x) (wv y)) → Yes 10 #[.string s, .bool (wok o (wv y))] W
  g2 : ∀ W s k, Below w.heap.size w W → s = bs (redS o) → W.cell? ⟨k, 0, none⟩ = some (.int .i64 x) → W.cell? ⟨k, 1, none⟩ = some (.int .i64 y) → Yes 9 #[.string s, .slice (some ⟨k, 0, none⟩) 2 2, .int .i64 (wval o (wv x) (wv y)), .bool (wok o (wv y)), .int .i64 29] W
  g3 : ∀ W s k, Below w.heap.size w W → s = bs negS → W.cell? ⟨k, 0, none⟩ = some (.int .i64 x) → Yes 9 #[.string s, .slice (some ⟨k, 0, none⟩) 1 1, .int .i64 (wv (-wv x)), .bool true, .int .i64 0] W
  g4 : ∀ W s, Below w.heap.size w W → s = bs (minS (wv x)) → Yes 9 #[.string s, .slice none 0 0, .int .i64 (wv (-wv x)), .bool true, .int .i64 0] W
  zn : 5 ≤ o → ∀ W s, Below w.heap.size w W → s = bs (prt0 o) → Calls Tryz.prog 11 #[.string s, .slice none 0 0, .int .i64 0, .int .i64 1, .int .i64 20000] W fun e w' => e = .returned (.tuple #[rsV 0 0 0 (.slice none 0 0) 0 0 0 0, .bool false]) ∧ Below W.heap.size W w'
  z : ∀ W s, Below w.heap.size w W → s = bs (prtS o) → Calls Tryz.prog 11 #[.string s, .slice none 0 0, .int .i64 0, .int .i64 1, .int .i64 20000] W fun e w' => ∃ v g c st rd gc us, e = .returned (.tuple #[rsV 0 0 v (.slice (some ⟨g, 0, none⟩) 2 c) st rd gc us, .bool true]) ∧ W.heap.size ≤ g ∧ w'.cell? ⟨g, 0, none⟩ = some (.int .i64 1) ∧ w'.cell? ⟨g, 1, none⟩ = some (.int .i64 2) ∧ Below W.heap.size W w'
theorem bs_app (a b : List UInt8) : bs a ++ bs b = bs (a ++ b) := app_l a b
theorem wv_in (n : Int) : I5 (wv n) := by unfold wv wrap64; omega
theorem said_len {a : Int} (ha : I5 a) : (saidS a).length ≤ 24 := by
  unfold saidS
  split
  · have := (decL_len 19 (-(a + 1)).toNat (by omega) (by omega)).2
    simp
    omega
  · have := (decL_len 19 a.toNat (by omega) (by omega)).2
    omega
theorem sg_size (o : Nat) : (sgnB o).size ≤ 2 := by
  unfold sgnB sgnL
  split <;> decide
theorem sg_fact {o : Nat} (ho : o < 5) : ∃ h : 0 < (sgnB o).size, (((sgnB o)[0].toNat : Int) == 61) = false ∧ (((sgnB o)[0].toNat : Int) == 60) = false ∧ (((sgnB o)[0].toNat : Int) == 62) = false := by
  have ho' : o = 0 ∨ o = 1 ∨ o = 2 ∨ o = 3 ∨ o = 4 := by omega
  rcases ho' with rfl | rfl | rfl | rfl | rfl <;> exact ⟨by decide, by decide, by decide, by decide⟩
theorem sg_fact' {o : Nat} (ho : o < 11) (h5 : 5 ≤ o) : ∃ h : 0 < (sgnB o).size, ((((sgnB o)[0].toNat : Int) == 61) = true ∨ ((((sgnB o)[0].toNat : Int) == 61) = false ∧ (((sgnB o)[0].toNat : Int) == 60) = true) ∨ ((((sgnB o)[0].toNat : Int) == 61) = false ∧ (((sgnB o)[0].toNat : Int) == 60) = false ∧ (((sgnB o)[0].toNat : Int) == 62) = true)) := by
  have ho' : o = 5 ∨ o = 6 ∨ o = 7 ∨ o = 8 ∨ o = 9 ∨ o = 10 := by omega
  rcases ho' with rfl | rfl | rfl | rfl | rfl | rfl <;> exact ⟨by decide, by decide⟩
theorem bs_size (l : List UInt8) : (bs l).size = l.length := by simp [bs, ByteArray.size]
theorem sgl_len (o : Nat) : (sgnL o).length ≤ 2 := by
  have := sg_size o
  simpa [sgnB, ByteArray.size] using this
theorem cmp_len (o : Nat) (l : List UInt8) : (cmpS o l).length ≤ l.length + 17 := by
  unfold cmpS
  split
  · simp only [List.length_append, List.length_cons, List.length_nil]; omega
  · omega
theorem e_size {o : Nat} {a b : Int} (ha : I5 a) (hb : I5 b) (ho : o < 11) : (bs (eS o a b)).size ≤ 100 := by
  rw [bs_size]
  unfold eS
  have h1 := cmp_len o (saidS a ++ sgnL o ++ saidS b)
  have h2 := said_len ha
  have h3 := said_len hb
  have h4 := sgl_len o
  rw [List.length_append, List.length_append] at h1
  omega
theorem f_size {o : Nat} (ho : o < 11) : (bs (fS o)).size ≤ 100 := by
  rw [bs_size]
  unfold fS
  have h1 := cmp_len o ([120] ++ sgnL o ++ [121])
  have h4 := sgl_len o
  simp only [List.length_append, List.length_cons, List.length_nil] at h1
  omega
theorem lit_bs (l : List UInt8) : (⟨l.toArray⟩ : ByteArray) = bs l := rfl
theorem str_rec {o : Nat} {a b : Int} {sa sb ft : ByteArray} (h1 : ⟨(saidS a).toArray⟩ = sa) (h2 : ⟨(saidS b).toArray⟩ = sb) (h3 : ft = bs (fS o)) : (⟨#[108, 101, 116, 32, 114, 101, 99, 32, 102, 32, 120, 32, 121, 61]⟩ : ByteArray) ++ ft ++ ⟨#[32, 105, 110, 32, 102, 40]⟩ ++ sa ++ ⟨#[41, 40]⟩ ++ sb ++ ⟨#[41]⟩ = bs (recS o a b) := by
  subst h1 h2 h3
  apply ByteArray.ext
  simp [recS, bs, ByteArray.data_append]
theorem str_tup {o : Nat} {a b : Int} {sa sb ft : ByteArray} (h1 : ⟨(saidS a).toArray⟩ = sa) (h2 : ⟨(saidS b).toArray⟩ = sb) (h3 : ft = bs (fS o)) : (⟨#[108, 101, 116, 40, 120, 44, 121, 41, 61, 40]⟩ : ByteArray) ++ sa ++ ⟨#[44]⟩ ++ sb ++ ⟨#[41, 105, 110, 32]⟩ ++ ft = bs (tupS o a b) := by
  subst h1 h2 h3
  apply ByteArray.ext
  simp [tupS, bs, ByteArray.data_append]
theorem str_red {o : Nat} {ft : ByteArray} (h3 : ft = bs (fS o)) : (⟨#[108, 101, 116, 32, 120, 61, 114, 101, 97, 100, 32, 105, 110, 32, 108, 101, 116, 32, 121, 61, 114, 101, 97, 100, 32, 105, 110, 32]⟩ : ByteArray) ++ ft = bs (redS o) := by
  subst h3
  apply ByteArray.ext
  simp [redS, bs, ByteArray.data_append]
theorem str_min {a : Int} {sa : ByteArray} (h1 : ⟨(saidS a).toArray⟩ = sa) : (⟨#[45]⟩ : ByteArray) ++ sa = bs (minS a) := by
  subst h1
  apply ByteArray.ext
  simp [minS, bs, ByteArray.data_append]
theorem str_prt0 {o : Nat} {sg : ByteArray} (h : sgnB o = sg) : (⟨#[105, 102, 40, 112, 114, 105, 110, 116, 32, 49, 59, 49, 41]⟩ : ByteArray) ++ sg ++ ⟨#[40, 112, 114, 105, 110, 116, 32, 50, 59, 49, 41, 61, 49, 32, 116, 104, 101, 110, 32, 49, 32, 101, 108, 115, 101, 32, 50]⟩ = bs (prt0 o) := by
  subst h
  apply ByteArray.ext
  simp [prt0, bs, sgnB, ByteArray.data_append]
theorem str_prt {o : Nat} (ho : 5 ≤ o) {sg : ByteArray} (h : sgnB o = sg) : (⟨#[105, 102, 40, 112, 114, 105, 110, 116, 32, 49, 59, 49, 41]⟩ : ByteArray) ++ sg ++ ⟨#[40, 112, 114, 105, 110, 116, 32, 50, 59, 49, 41, 116, 104, 101, 110, 32, 49, 32, 101, 108, 115, 101, 32, 50]⟩ = bs (prtS o) := by
  subst h
  apply ByteArray.ext
  simp [prtS, bs, sgnB, ByteArray.data_append, if_pos ho]
theorem prt_lo {o : Nat} (ho : o < 5) : prt0 o = prtS o := by unfold prt0 prtS; rw [if_neg (by omega)]
theorem row_at (w : World) (arr : List Value) (e : TypeId) (j : Nat) (u : Value) (hj : arr[j]? = some u) : (w.alloc (.cells arr.toArray e)).cell? ⟨w.heap.size, j, none⟩ = some u := by
  have := World.cell?_alloc_new (w := w) arr.toArray e j
  rw [this]; simpa using hj
theorem sm_w {w : World} {g cc k : Nat} {A : Obj} (d0 : w.cell? ⟨g, 0, none⟩ = some (.int .i64 1)) (d1 : w.cell? ⟨g, 1, none⟩ = some (.int .i64 2)) (hk : k = w.heap.size + 1) : Calls Tryz.prog 12 #[.slice (some ⟨g, 0, none⟩) 2 cc, .slice (some ⟨k, 0, none⟩) 2 2] ((w.alloc A).alloc (.cells #[.int .i64 1, .int .i64 2] 3)) fun e w' => e = .returned (.bool true) ∧ Below w.heap.size w w' := by
  have hs : (w.alloc A).heap.size = w.heap.size + 1 := World.size_alloc (w := w) A
  have h1 : Below w.heap.size w (w.alloc A) := (Below.refl _ _).alloc (Nat.le_refl _) _
  have h2 : Below w.heap.size w ((w.alloc A).alloc (.cells #[.int .i64 1, .int .i64 2] 3)) := h1.alloc (by omega) _
  have hg := cell_lt d0
  subst hk
  refine (same_w (l := [1, 2]) (by decide) (fun j z hz => ?_) (fun j z hz => ?_)).mono ?_
  · have hj : j = 0 ∨ j = 1 := by
      have := (List.getElem?_eq_some_iff.1 hz).1
      simp at this
      omega
    rcases hj with rfl | rfl <;> cases hz
    · exact (h2.cell (p := ⟨g, 0, none⟩) hg).trans d0
    · exact (h2.cell (p := ⟨g, 1, none⟩) hg).trans d1
  · rw [← hs]
    have hj : j = 0 ∨ j = 1 := by
      have := (List.getElem?_eq_some_iff.1 hz).1
      simp at this
      omega
    rcases hj with rfl | rfl <;> cases hz
    · exact row_at (w.alloc A) [.int .i64 1, .int .i64 2] _ 0 _ rfl
    · exact row_at (w.alloc A) [.int .i64 1, .int .i64 2] _ 1 _ rfl
  · rintro e w' ⟨rfl, hb⟩
    exact ⟨rfl, h2.trans (hb.mono h2.size)⟩
theorem ovr_all (arr cells : Array Value) (h : arr.size = cells.size) : Ev.ovr arr 0 cells.toList = cells := by
  apply Array.ext_getElem?
  intro i
  rw [Ev.ovr_at _ _ _ _ (by simp; omega)]
  by_cases hl : i < cells.size
  · rw [if_pos (by simp; omega)]; simp
  · rw [if_neg (by simp; omega), Array.getElem?_eq_none (by omega), Array.getElem?_eq_none (by omega)]
theorem st_all {w : World} {b : Nat} {arr cells : Array Value} {t : TypeId} (hb : w.heap[b]? = some (.cells arr t (0, 0))) (hsz : arr.size = cells.size) : (w.setCells b 0 cells.toList).heap[b]? = some (.cells cells t (0, 0)) ∧ (∀ j, j ≠ b → (w.setCells b 0 cells.toList).heap[j]? = w.heap[j]?) ∧ Below b w (w.setCells b 0 cells.toList) ∧ (w.setCells b 0 cells.toList).heap.size = w.heap.size := by
  obtain ⟨e1, e2, e3⟩ := Ev.setCells_blk b cells.toList 0 w hb
  have hlo := Ev.setCells_low b cells.toList 0 w
  exact ⟨by rw [e1, ovr_all arr cells hsz], e3, ⟨hlo.os, hlo.tape, hlo.output, hlo.size, fun k hk => e3 k (by omega)⟩, e2⟩
theorem two_on {w w' : World} {g : Nat} {u v : Value} (h0 : w.cell? ⟨g, 0, none⟩ = some u) (h1 : w.cell? ⟨g, 1, none⟩ = some v) (h : w'.heap[g]? = w.heap[g]?) : w'.cell? ⟨g, 0, none⟩ = some u ∧ w'.cell? ⟨g, 1, none⟩ = some v := by
  unfold World.cell? at h0 h1 ⊢
  simp only [h]
  exact ⟨h0, h1⟩
theorem eight {w : World} {b : Nat} {v0 v1 v2 v3 v4 v5 v6 v7 : Value} {t : TypeId} (h : w.heap[b]? = some (.cells #[v0, v1, v2, v3, v4, v5, v6, v7] t (0, 0))) : (w.cell? ⟨b, 0, none⟩ = some v0 ∧ w.cell? ⟨b, 1, none⟩ = some v1 ∧ w.cell? ⟨b, 2, none⟩ = some v2 ∧ w.cell? ⟨b, 3, none⟩ = some v3 ∧ w.cell? ⟨b, 4, none⟩ = some v4 ∧ w.cell? ⟨b, 5, none⟩ = some v5 ∧ w.cell? ⟨b, 6, none⟩ = some v6 ∧ w.cell? ⟨b, 7, none⟩ = some v7) ∧ w.frozen? ⟨b, 0, none⟩ = false ∧ w.frozen? ⟨b, 1, none⟩ = false ∧ w.frozen? ⟨b, 2, none⟩ = false ∧ w.frozen? ⟨b, 3, none⟩ = false ∧ w.frozen? ⟨b, 4, none⟩ = false ∧ w.frozen? ⟨b, 5, none⟩ = false ∧ w.frozen? ⟨b, 6, none⟩ = false ∧ w.frozen? ⟨b, 7, none⟩ = false := by
  have hc := fun j => Ev.cell_of h j
  have hf := fun j (hj : j < 8) => Ev.frozen_of h (.inl rfl) (j := j) hj
  exact ⟨⟨hc 0, hc 1, hc 2, hc 3, hc 4, hc 5, hc 6, hc 7⟩, hf 0 (by omega), hf 1 (by omega), hf 2 (by omega), hf 3 (by omega), hf 4 (by omega), hf 5 (by omega), hf 6 (by omega), hf 7 (by omega)⟩
theorem sm_w' {w : World} {g cc k : Nat} (d0 : w.cell? ⟨g, 0, none⟩ = some (.int .i64 1)) (d1 : w.cell? ⟨g, 1, none⟩ = some (.int .i64 2)) (hk : k = w.heap.size) : Calls Tryz.prog 12 #[.slice (some ⟨g, 0, none⟩) 2 cc, .slice (some ⟨k, 0, none⟩) 2 2] (w.alloc (.cells #[.int .i64 1, .int .i64 2] 3)) fun e w' => e = .returned (.bool true) ∧ Below w.heap.size w w' := by
  have h2 : Below w.heap.size w (w.alloc (.cells #[.int .i64 1, .int .i64 2] 3)) := (Below.refl _ _).alloc (Nat.le_refl _) _
  have hg := cell_lt d0
  subst hk
  refine (same_w (l := [1, 2]) (by decide) (fun j z hz => ?_) (fun j z hz => ?_)).mono ?_
  · have hj : j = 0 ∨ j = 1 := by
      have := (List.getElem?_eq_some_iff.1 hz).1
      simp at this
      omega
    rcases hj with rfl | rfl <;> cases hz
    · exact (h2.cell (p := ⟨g, 0, none⟩) hg).trans d0
    · exact (h2.cell (p := ⟨g, 1, none⟩) hg).trans d1
  · have hj : j = 0 ∨ j = 1 := by
      have := (List.getElem?_eq_some_iff.1 hz).1
      simp at this
      omega
    rcases hj with rfl | rfl <;> cases hz
    · exact row_at w [.int .i64 1, .int .i64 2] _ 0 _ rfl
    · exact row_at w [.int .i64 1, .int .i64 2] _ 1 _ rfl
  · rintro e w' ⟨rfl, hb⟩
    exact ⟨rfl, h2.trans (hb.mono h2.size)⟩
set_option maxRecDepth 100000 in
theorem summed_n {w : World} {x y c : Int} {o : Nat} (hx : I6 x) (hy : I6 y) (hp : ∀ w, Calls Tryz.prog 6 #[.int .i64 c, .int .i64 11] w fun e w' => e = .returned (.int .i64 (o : Nat)) ∧ w' = w) (ho : o < 5) (hS : SumH w x y o) : Yes 4 #[.int .i64 x, .int .i64 y, .int .i64 c] w := by
  have CP := Lib.hid hp
  have CX := Lib.hid (wrap_w x)
  have CY := Lib.hid (wrap_w y)
  have CN := Lib.hid (wrap_w (-wv x))
  have ha := wv_in x
  have hb := wv_in y
  have hla := said_len ha
  have hlb := said_len hb
  obtain ⟨a, hA⟩ : ∃ a, wv x = a := ⟨_, rfl⟩
  obtain ⟨b, hB⟩ : ∃ b, wv y = b := ⟨_, rfl⟩
  have CO := Lib.hid (works_w (o := o) (by omega) ha hb)
  have CA := Lib.hid (said_w ha)
  have CB := Lib.hid (said_w hb)
  obtain ⟨g1, t1, t2, t3, g2, g3, g4, zn, z⟩ := hS
  unfold Yes at g1 t1 t2 t3 g2 g3 g4
  rw [hA, hB] at CO g1 t1 t2 t3 g2
  rw [hA] at CA ha hla g3 g4 CX CN
  rw [hB] at CB hb hlb CY
  obtain ⟨val, hval⟩ : ∃ val, wval o a b = val := ⟨_, rfl⟩
  obtain ⟨okb, hokb⟩ : ∃ okb, wok o b = okb := ⟨_, rfl⟩
  rw [hval, hokb] at CO g1 g2
  rw [hokb] at t1 t2 t3
  obtain ⟨sa, hsa⟩ : ∃ sa : ByteArray, ⟨(saidS a).toArray⟩ = sa := ⟨_, rfl⟩
  obtain ⟨sb, hsb⟩ : ∃ sb : ByteArray, ⟨(saidS b).toArray⟩ = sb := ⟨_, rfl⟩
  have hsal : sa.size = (saidS a).length := by rw [← hsa]; simp [ByteArray.size]
  rw [← hsal] at g1
  have hsas : sa.size ≤ 24 := by omega
  have hsbs : sb.size ≤ 24 := by rw [← hsb]; simpa [ByteArray.size] using hlb
  rw [hsa] at CA
  rw [hsb] at CB
  obtain ⟨sg, hsg⟩ : ∃ sg, sgnB o = sg := ⟨_, rfl⟩
  have hsgs : sg.size ≤ 2 := by rw [← hsg]; exact sg_size o
  rw [hsg] at CO
  obtain ⟨hs0, q1, q2, q3⟩ : ∃ h : 0 < sg.size, ((sg[0].toNat : Int) == 61) = false ∧ ((sg[0].toNat : Int) == 60) = false ∧ ((sg[0].toNat : Int) == 62) = false := by
    rw [← hsg]
    exact sg_fact ho
  have HSG := Lib.hid hsg
  have HSA := Lib.hid hsa
  have HSB := Lib.hid hsb
  have HZN := Lib.hid zn
  clear hsa hsb hsal hla hlb hval hokb zn
  have G1 := Lib.hid g1
  have X1 := Lib.hid t1
  have X2 := Lib.hid t2
  have X3 := Lib.hid t3
  have G2 := Lib.hid g2
  have G3 := Lib.hid g3
  have G4 := Lib.hid g4
  have HZ := Lib.hid z
  clear g1 t1 t2 t3 g2 g3 g4 z hp
  have HA := Lib.hid hA
  have HBb := Lib.hid hB
  clear hA hB
  have HB0 := Lib.hid (Below.refl w.heap.size w)
  have e1 : sa ++ sg ++ sb = bs (eS o a b) := by
    unfold eS cmpS
    rw [if_neg (by omega), ← hsg, ← HSA.out, ← HSB.out]
    exact (congrArg (· ++ bs (saidS b)) (bs_app _ _)).trans (bs_app _ _)
  have e0 : (⟨#[120]⟩ : ByteArray) ++ sg ++ ⟨#[121]⟩ = bs (fS o) := by
    unfold fS cmpS
    rw [if_neg (by omega), ← hsg]
    exact (congrArg (· ++ bs [121]) (bs_app [120] _)).trans (bs_app _ _)
  have E1 := Lib.hid e1
  have E0 := Lib.hid e0
  have z1 : (sa ++ sg ++ sb).size ≤ 100 := by rw [e1]; exact e_size ha hb (by omega)
  have z2 : ((⟨#[120]⟩ : ByteArray) ++ sg ++ ⟨#[121]⟩).size ≤ 100 := by rw [e0]; exact f_size (by omega)
  clear e1 e0 hsg
  unfold Yes
  go_enter Tryz.func4, Tryz.ntmps4
  go_upto_region 2 with (go_at_call 5; refine (CX.out _).mono ?_; rintro e w1 ⟨rfl, rfl⟩)
  go_upto_region 3 with (go_at_call 5; refine (CY.out _).mono ?_; rintro e w1 ⟨rfl, rfl⟩)
  go_upto_region 4 with (go_at_call 6; refine (CP.out _).mono ?_; rintro e w1 ⟨rfl, rfl⟩)
  go_upto_region 5 with (go_at_call 7; refine (CO.out _).mono ?_; rintro e w4 ⟨rfl, hb4⟩)
  go_upto_region 6 with (go_at_call 8; refine (CA.out _).mono ?_; rintro e w5 ⟨rfl, hb5⟩)
  go_upto_region 7 with (go_at_call 8; refine (CB.out _).mono ?_; rintro e w6 ⟨rfl, hb6⟩)
  have B5 := hb4.trans (hb5.mono hb4.size)
  have B6 := B5.trans (hb6.mono B5.size)
  have HB6 := Lib.hid B6
  clear hb4 hb5 hb6 B5 B6
  go_upto_region 13 with (fail)
  generalize hee : sa ++ sg ++ sb = et at E1 z1 ⊢
  generalize hff : (⟨#[120]⟩ : ByteArray) ++ sg ++ ⟨#[121]⟩ = ft at E0 z2 ⊢
  clear hee hff
  go_upto_region 16 with (go_at_call 9; refine (G1.out _ _ HB6.out E1.out).mono ?_; rintro e w7 ⟨rfl, hb7⟩)
  have HB7 := Lib.hid (HB6.out.trans (hb7.mono HB6.out.size))
  clear hb7
  go_upto_region 19 with (go_at_call 10; refine (X1.out _ _ HB7.out E1.out).mono ?_; rintro e w8 ⟨rfl, hb8⟩)
  have HB8 := Lib.hid (HB7.out.trans (hb8.mono HB7.out.size))
  clear hb8
  have E2 := Lib.hid (str_rec (o := o) (a := a) (b := b) HSA.out HSB.out E0.out)
  have E3 := Lib.hid (str_tup (o := o) (a := a) (b := b) HSA.out HSB.out E0.out)
  have E4 := Lib.hid (str_red (o := o) E0.out)
  have E5 := Lib.hid (str_min (a := a) HSA.out)
  go_upto_region 22 with (go_at_call 10; refine (X2.out _ _ HB8.out E2.out).mono ?_; rintro e w9 ⟨rfl, hb9⟩)
  have HB9 := Lib.hid (HB8.out.trans (hb9.mono HB8.out.size))
  clear hb9
  go_upto_region 25 with (go_at_call 10; refine (X3.out _ _ HB9.out E3.out).mono ?_; rintro e w10 ⟨rfl, hb10⟩)
  have HB10 := Lib.hid (HB9.out.trans (hb10.mono HB9.out.size))
  clear hb10
  go_upto_region 28 with (go_at_call 9; refine (G2.out _ _ w10.heap.size (HB10.out.alloc HB10.out.size _) E4.out (row_at w10 [.int .i64 x, .int .i64 y] _ 0 _ rfl) (row_at w10 [.int .i64 x, .int .i64 y] _ 1 _ rfl)).mono ?_; rintro e w11 ⟨rfl, hb11⟩)
  have B10 := HB10.out.alloc HB10.out.size (.cells #[.int .i64 x, .int .i64 y] 3)
  have HB11 := Lib.hid (B10.trans (hb11.mono B10.size))
  clear hb11 B10
  go_upto_region 29 with (go_at_call 5; refine (CN.out _).mono ?_; rintro e w12 ⟨rfl, rfl⟩)
  go_upto_region 32 with (go_at_call 9; refine (G3.out _ _ w12.heap.size (HB11.out.alloc HB11.out.size _) rfl (row_at w12 [.int .i64 x] _ 0 _ rfl)).mono ?_; rintro e w13 ⟨rfl, hb13⟩)
  have B12 := HB11.out.alloc HB11.out.size (.cells #[.int .i64 x] 3)
  have HB13 := Lib.hid (B12.trans (hb13.mono B12.size))
  clear hb13 B12
  go_upto_region 35 with (go_at_call 9; refine (G4.out _ _ HB13.out E5.out).mono ?_; rintro e w14 ⟨rfl, hb14⟩)
  have HB14 := Lib.hid (HB13.out.trans (hb14.mono HB13.out.size))
  clear hb14
  have E6 := Lib.hid ((str_prt0 HSG.out).trans (congrArg bs (prt_lo ho)))
  have z6 : ((⟨#[105, 102, 40, 112, 114, 105, 110, 116, 32, 49, 59, 49, 41]⟩ : ByteArray) ++ sg).size ≤ 20 := by
    rw [ByteArray.size_append]
    have : (⟨#[105, 102, 40, 112, 114, 105, 110, 116, 32, 49, 59, 49, 41]⟩ : ByteArray).size = 13 := rfl
    omega
  go_upto_region 36 with (go_at_call 11; refine (HZ.out _ _ HB14.out E6.out).mono ?_; rintro e w15 ⟨v, g, cc, st, rd, gc, us, rfl, hgn, d0, d1, hb15⟩; unfold rsV)
  have HB15 := Lib.hid (HB14.out.trans (hb15.mono HB14.out.size))
  clear hb15
  have D0 := Lib.hid d0
  have D1 := Lib.hid d1
  clear d0 d1
  go_wp2_with (go_at_call 12; refine (sm_w D0.out D1.out rfl).mono ?_; rintro e w16 ⟨rfl, hb16⟩)
  go_ret
  exact ⟨rfl, HB15.out.trans (hb16.mono HB15.out.size)⟩
theorem blk_last (w : World) (arr : Array Value) (t : TypeId) : (w.alloc (.cells arr t)).heap[w.heap.size]? = some (.cells arr t (0, 0)) := by
  show (w.heap.push _)[w.heap.size]? = _
  simp
set_option maxRecDepth 100000 in
set_option maxHeartbeats 4000000 in
theorem summed_c {w : World} {x y c : Int} {o : Nat} (hx : I6 x) (hy : I6 y) (hp : ∀ w, Calls Tryz.prog 6 #[.int .i64 c, .int .i64 11] w fun e w' => e = .returned (.int .i64 (o : Nat)) ∧ w' = w) (ho : o < 11) (h5 : 5 ≤ o) (hS : SumH w x y o) : Yes 4 #[.int .i64 x, .int .i64 y, .int .i64 c] w := by
  have CP := Lib.hid hp
  have CX := Lib.hid (wrap_w x)
  have CY := Lib.hid (wrap_w y)
  have CN := Lib.hid (wrap_w (-wv x))
  have ha := wv_in x
  have hb := wv_in y
  have hla := said_len ha
  have hlb := said_len hb
  obtain ⟨a, hA⟩ : ∃ a, wv x = a := ⟨_, rfl⟩
  obtain ⟨b, hB⟩ : ∃ b, wv y = b := ⟨_, rfl⟩
  have CO := Lib.hid (works_w (o := o) (by omega) ha hb)
  have CA := Lib.hid (said_w ha)
  have CB := Lib.hid (said_w hb)
  obtain ⟨g1, t1, t2, t3, g2, g3, g4, zn, z⟩ := hS
  unfold Yes at g1 t1 t2 t3 g2 g3 g4
  rw [hA, hB] at CO g1 t1 t2 t3 g2
  rw [hA] at CA ha hla g3 g4 CX CN
  rw [hB] at CB hb hlb CY
  obtain ⟨val, hval⟩ : ∃ val, wval o a b = val := ⟨_, rfl⟩
  obtain ⟨okb, hokb⟩ : ∃ okb, wok o b = okb := ⟨_, rfl⟩
  rw [hval, hokb] at CO g1 g2
  rw [hokb] at t1 t2 t3
  obtain ⟨sa, hsa⟩ : ∃ sa : ByteArray, ⟨(saidS a).toArray⟩ = sa := ⟨_, rfl⟩
  obtain ⟨sb, hsb⟩ : ∃ sb : ByteArray, ⟨(saidS b).toArray⟩ = sb := ⟨_, rfl⟩
  have hsal : sa.size = (saidS a).length := by rw [← hsa]; simp [ByteArray.size]
  rw [← hsal] at g1
  have hsas : sa.size ≤ 24 := by omega
  have hsbs : sb.size ≤ 24 := by rw [← hsb]; simpa [ByteArray.size] using hlb
  rw [hsa] at CA
  rw [hsb] at CB
  obtain ⟨sg, hsg⟩ : ∃ sg, sgnB o = sg := ⟨_, rfl⟩
  have hsgs : sg.size ≤ 2 := by rw [← hsg]; exact sg_size o
  rw [hsg] at CO
  obtain ⟨hs0, q⟩ : ∃ h : 0 < sg.size, (((sg[0].toNat : Int) == 61) = true ∨ (((sg[0].toNat : Int) == 61) = false ∧ ((sg[0].toNat : Int) == 60) = true) ∨ (((sg[0].toNat : Int) == 61) = false ∧ ((sg[0].toNat : Int) == 60) = false ∧ ((sg[0].toNat : Int) == 62) = true)) := by
    rw [← hsg]
    exact sg_fact' ho h5
  have HSG := Lib.hid hsg
  have HSA := Lib.hid hsa
  have HSB := Lib.hid hsb
  have HZN := Lib.hid zn
  clear hsa hsb hsal hla hlb hval hokb zn
  have G1 := Lib.hid g1
  have X1 := Lib.hid t1
  have X2 := Lib.hid t2
  have X3 := Lib.hid t3
  have G2 := Lib.hid g2
  have G3 := Lib.hid g3
  have G4 := Lib.hid g4
  have HZ := Lib.hid z
  clear g1 t1 t2 t3 g2 g3 g4 z hp
  have HA := Lib.hid hA
  have HBb := Lib.hid hB
  clear hA hB
  have HB0 := Lib.hid (Below.refl w.heap.size w)
  have e1 : (⟨#[105, 102, 32]⟩ : ByteArray) ++ (sa ++ sg ++ sb) ++ ⟨#[32, 116, 104, 101, 110, 32, 49, 32, 101, 108, 115, 101, 32, 48]⟩ = bs (eS o a b) := by
    unfold eS cmpS
    rw [if_pos h5, ← hsg, ← HSA.out, ← HSB.out]
    exact (congrArg (fun s => bs [105, 102, 32] ++ s ++ bs [32, 116, 104, 101, 110, 32, 49, 32, 101, 108, 115, 101, 32, 48]) ((congrArg (· ++ bs (saidS b)) (bs_app _ _)).trans (bs_app _ _))).trans ((congrArg (· ++ bs [32, 116, 104, 101, 110, 32, 49, 32, 101, 108, 115, 101, 32, 48]) (bs_app _ _)).trans (bs_app _ _))
  have e0 : (⟨#[105, 102, 32]⟩ : ByteArray) ++ ((⟨#[120]⟩ : ByteArray) ++ sg ++ ⟨#[121]⟩) ++ ⟨#[32, 116, 104, 101, 110, 32, 49, 32, 101, 108, 115, 101, 32, 48]⟩ = bs (fS o) := by
    unfold fS cmpS
    rw [if_pos h5, ← hsg]
    exact (congrArg (fun s => bs [105, 102, 32] ++ s ++ bs [32, 116, 104, 101, 110, 32, 49, 32, 101, 108, 115, 101, 32, 48]) ((congrArg (· ++ bs [121]) (bs_app [120] _)).trans (bs_app _ _))).trans ((congrArg (· ++ bs [32, 116, 104, 101, 110, 32, 49, 32, 101, 108, 115, 101, 32, 48]) (bs_app _ _)).trans (bs_app _ _))
  have E1 := Lib.hid e1
  have E0 := Lib.hid e0
  have z1 : ((⟨#[105, 102, 32]⟩ : ByteArray) ++ (sa ++ sg ++ sb) ++ ⟨#[32, 116, 104, 101, 110, 32, 49, 32, 101, 108, 115, 101, 32, 48]⟩).size ≤ 100 := by rw [e1]; exact e_size ha hb (by omega)
  have z2 : ((⟨#[105, 102, 32]⟩ : ByteArray) ++ ((⟨#[120]⟩ : ByteArray) ++ sg ++ ⟨#[121]⟩) ++ ⟨#[32, 116, 104, 101, 110, 32, 49, 32, 101, 108, 115, 101, 32, 48]⟩).size ≤ 100 := by rw [e0]; exact f_size (by omega)
  clear e1 e0 hsg
  rcases q with q1 | ⟨q1, q2⟩ | ⟨q1, q2, q3⟩
  all_goals
    unfold Yes
    go_enter Tryz.func4, Tryz.ntmps4
    go_upto_region 2 with (go_at_call 5; refine (CX.out _).mono ?_; rintro e w1 ⟨rfl, rfl⟩)
    go_upto_region 3 with (go_at_call 5; refine (CY.out _).mono ?_; rintro e w1 ⟨rfl, rfl⟩)
    go_upto_region 4 with (go_at_call 6; refine (CP.out _).mono ?_; rintro e w1 ⟨rfl, rfl⟩)
    go_upto_region 5 with (go_at_call 7; refine (CO.out _).mono ?_; rintro e w4 ⟨rfl, hb4⟩)
    go_upto_region 6 with (go_at_call 8; refine (CA.out _).mono ?_; rintro e w5 ⟨rfl, hb5⟩)
    go_upto_region 7 with (go_at_call 8; refine (CB.out _).mono ?_; rintro e w6 ⟨rfl, hb6⟩)
    have B5 := hb4.trans (hb5.mono hb4.size)
    have B6 := B5.trans (hb6.mono B5.size)
    have HB6 := Lib.hid B6
    clear hb4 hb5 hb6 B5 B6
    go_upto_region 13 with (fail)
    generalize hee : (⟨#[105, 102, 32]⟩ : ByteArray) ++ (sa ++ sg ++ sb) ++ ⟨#[32, 116, 104, 101, 110, 32, 49, 32, 101, 108, 115, 101, 32, 48]⟩ = et at E1 z1 ⊢
    generalize hff : (⟨#[105, 102, 32]⟩ : ByteArray) ++ ((⟨#[120]⟩ : ByteArray) ++ sg ++ ⟨#[121]⟩) ++ ⟨#[32, 116, 104, 101, 110, 32, 49, 32, 101, 108, 115, 101, 32, 48]⟩ = ft at E0 z2 ⊢
    clear hee hff
    go_upto_region 16 with (go_at_call 9; refine (G1.out _ _ HB6.out E1.out).mono ?_; rintro e w7 ⟨rfl, hb7⟩)
    have HB7 := Lib.hid (HB6.out.trans (hb7.mono HB6.out.size))
    clear hb7
    go_upto_region 19 with (go_at_call 10; refine (X1.out _ _ HB7.out E1.out).mono ?_; rintro e w8 ⟨rfl, hb8⟩)
    have HB8 := Lib.hid (HB7.out.trans (hb8.mono HB7.out.size))
    clear hb8
    have E2 := Lib.hid (str_rec (o := o) (a := a) (b := b) HSA.out HSB.out E0.out)
    have E3 := Lib.hid (str_tup (o := o) (a := a) (b := b) HSA.out HSB.out E0.out)
    have E4 := Lib.hid (str_red (o := o) E0.out)
    have E5 := Lib.hid (str_min (a := a) HSA.out)
    go_upto_region 22 with (go_at_call 10; refine (X2.out _ _ HB8.out E2.out).mono ?_; rintro e w9 ⟨rfl, hb9⟩)
    have HB9 := Lib.hid (HB8.out.trans (hb9.mono HB8.out.size))
    clear hb9
    go_upto_region 25 with (go_at_call 10; refine (X3.out _ _ HB9.out E3.out).mono ?_; rintro e w10 ⟨rfl, hb10⟩)
    have HB10 := Lib.hid (HB9.out.trans (hb10.mono HB9.out.size))
    clear hb10
    go_upto_region 28 with (go_at_call 9; refine (G2.out _ _ w10.heap.size (HB10.out.alloc HB10.out.size _) E4.out (row_at w10 [.int .i64 x, .int .i64 y] _ 0 _ rfl) (row_at w10 [.int .i64 x, .int .i64 y] _ 1 _ rfl)).mono ?_; rintro e w11 ⟨rfl, hb11⟩)
    have B10 := HB10.out.alloc HB10.out.size (.cells #[.int .i64 x, .int .i64 y] 3)
    have HB11 := Lib.hid (B10.trans (hb11.mono B10.size))
    clear hb11 B10
    go_upto_region 29 with (go_at_call 5; refine (CN.out _).mono ?_; rintro e w12 ⟨rfl, rfl⟩)
    go_upto_region 32 with (go_at_call 9; refine (G3.out _ _ w12.heap.size (HB11.out.alloc HB11.out.size _) rfl (row_at w12 [.int .i64 x] _ 0 _ rfl)).mono ?_; rintro e w13 ⟨rfl, hb13⟩)
    have B12 := HB11.out.alloc HB11.out.size (.cells #[.int .i64 x] 3)
    have HB13 := Lib.hid (B12.trans (hb13.mono B12.size))
    clear hb13 B12
    go_upto_region 35 with (go_at_call 9; refine (G4.out _ _ HB13.out E5.out).mono ?_; rintro e w14 ⟨rfl, hb14⟩)
    have HB14 := Lib.hid (HB13.out.trans (hb14.mono HB13.out.size))
    clear hb14
    have E6 := Lib.hid (str_prt0 HSG.out)
    have E7 := Lib.hid (str_prt h5 HSG.out)
    have z6 : ((⟨#[105, 102, 40, 112, 114, 105, 110, 116, 32, 49, 59, 49, 41]⟩ : ByteArray) ++ sg).size ≤ 20 := by
      rw [ByteArray.size_append]
      have : (⟨#[105, 102, 40, 112, 114, 105, 110, 116, 32, 49, 59, 49, 41]⟩ : ByteArray).size = 13 := rfl
      omega
    go_upto_region 36 with (go_at_call 11; refine (HZN.out h5 _ _ HB14.out E6.out).mono ?_; rintro e w15 ⟨rfl, hb15⟩; unfold rsV)
    have HB15 := Lib.hid (HB14.out.trans (hb15.mono HB14.out.size))
    clear hb15
    have B15 := HB15.out.alloc HB15.out.size (.cells #[.int .i64 0, .int .i64 0, .int .i64 0, .slice none 0 0, .int .i64 0, .int .i64 0, .int .i64 0, .int .i64 0] 33)
    have HC15 := Lib.hid B15
    have BK := Lib.hid (blk_last w15 #[.int .i64 0, .int .i64 0, .int .i64 0, .slice none 0 0, .int .i64 0, .int .i64 0, .int .i64 0, .int .i64 0] 33)
    clear B15
    generalize hw15 : w15.alloc _ = wb at HC15 BK ⊢
    have hwb : w15.heap.size < wb.heap.size := by rw [← hw15, World.size_alloc]; omega
    have hwl : w1.heap.size ≤ w15.heap.size := HB15.out.size
    obtain ⟨bx, hbx⟩ : ∃ bx, w15.heap.size = bx := ⟨_, rfl⟩
    rw [hbx] at BK hwb hwl ⊢
    clear hw15 hbx
    go_upto_region 38 with (go_at_call 11; refine (HZ.out _ _ HC15.out E7.out).mono ?_; rintro e w17 ⟨v, g, cc, st, rd, gc, us, rfl, hgn, d0, d1, hb17⟩; have BK2 := Lib.hid ((hb17.block bx hwb).trans BK.out); obtain ⟨⟨k0, k1, k2, k3, k4, k5, k6, k7⟩, ⟨l0, l1, l2, l3, l4, l5, l6, l7⟩⟩ := eight BK2.out; have HB17 := Lib.hid (HC15.out.trans (hb17.mono HC15.out.size)); have D0 := Lib.hid d0; have D1 := Lib.hid d1; clear d0 d1 hb17; unfold rsV)
    clear k0 k1 k2 k3 k4 k5 k6 k7 l0 l1 l2 l3 l4 l5 l6 l7
    generalize hw18 : World.setCell _ _ _ = w18
    have hw18 : w17.setCells bx 0 (#[.int .i64 0, .int .i64 0, .int .i64 v, .slice (some ⟨g, 0, none⟩) 2 cc, .int .i64 st, .int .i64 rd, .int .i64 gc, .int .i64 us] : Array Value).toList = w18 := hw18
    obtain ⟨c1, c2, c3, c4⟩ := st_all (cells := #[.int .i64 0, .int .i64 0, .int .i64 v, .slice (some ⟨g, 0, none⟩) 2 cc, .int .i64 st, .int .i64 rd, .int .i64 gc, .int .i64 us]) BK2.out rfl
    rw [hw18] at c1 c2 c3 c4
    clear hw18
    obtain ⟨⟨k0, _, _, k3, _⟩, _⟩ := eight c1
    have DD := Lib.hid (two_on D0.out D1.out (c2 g (by omega)))
    have HB18 := Lib.hid (HB17.out.trans (c3.mono hwl))
    clear c1 c2 c3 c4
    go_wp2_with (go_at_call 12; refine (sm_w' DD.out.1 DD.out.2 rfl).mono ?_; rintro e w19 ⟨rfl, hb19⟩)
    go_ret
    exact ⟨rfl, HB18.out.trans (hb19.mono HB18.out.size)⟩
end Sn
end Go.Proofs.YtdmedmmdioabgaaGreatDoor
