/- WALKS: the document's row. -/
import Derived.Test.YtmkdoejpgkgpbaaDoorLiB
import Derived.Deep.AppendLies
import Derived.Deep.RegionLaw
import Derived.Deep.RegionHeld3
set_option linter.unusedVariables false
set_option linter.unusedSimpArgs false
namespace Go.Proofs.YtmkdoejpgkgpbaaDoor
open Go.RowKit Li

theorem ret_bool' {a b : Bool} (h : a = b) : Ending.returned (.bool a) = .returned (.bool b) := by rw [h]
def prB (vF vN vL : Value) : Obj := .cells #[vF, vN, vL] 48 (0, 0)
/-- is a row well made? f: its four numbers; l: the lines; p: the first line of the row ahead -/
def rwB (k f0 f1 f2 f3 l p : Nat) : Bool := decide (f1 ≤ 4) && (decide (f2 ≤ 1) && decide (f3 ≤ 1024)) && ((if k = 0 then (f0 == 0 && (f1 == 0 && f2 == 0)) else decide (p < f0)) && decide (f0 < l))
theorem rwB_rowB (s : ByteArray) (k : Nat) : rowB s k = rwB k (r0 s k) (r1 s k) (r2 s k) (r3 s k) (hL s) (r0 s (k - 1)) := rfl
theorem rwB_no {k f0 f1 f2 f3 l p : Nat} (h : 4 < f1 ∨ 1 < f2 ∨ 1024 < f3 ∨ l ≤ f0) : rwB k f0 f1 f2 f3 l p = false := by
  unfold rwB
  rcases h with h | h | h | h
  · rw [show decide (f1 ≤ 4) = false by simp; omega]; simp
  · rw [show decide (f2 ≤ 1) = false by simp; omega]; simp
  · rw [show decide (f3 ≤ 1024) = false by simp; omega]; simp
  · rw [show decide (f0 < l) = false by simp; omega]; simp
theorem rwB_0 {f0 f1 f2 f3 l p : Nat} (h1 : f1 ≤ 4) (h2 : f2 ≤ 1) (h3 : f3 ≤ 1024) (h0 : f0 < l) : rwB 0 f0 f1 f2 f3 l p = (f0 == 0 && (f1 == 0 && f2 == 0)) := by
  unfold rwB
  rw [show decide (f1 ≤ 4) = true by simp; omega, show decide (f2 ≤ 1) = true by simp; omega, show decide (f3 ≤ 1024) = true by simp; omega, show decide (f0 < l) = true by simp; omega]
  simp
theorem rwB_k {k f0 f1 f2 f3 l p : Nat} (hk : k ≠ 0) (h1 : f1 ≤ 4) (h2 : f2 ≤ 1) (h3 : f3 ≤ 1024) (h0 : f0 < l) : rwB k f0 f1 f2 f3 l p = decide (p < f0) := by
  unfold rwB
  rw [show decide (f1 ≤ 4) = true by simp; omega, show decide (f2 ≤ 1) = true by simp; omega, show decide (f3 ≤ 1024) = true by simp; omega, show decide (f0 < l) = true by simp; omega, if_neg hk]
  simp
set_option maxRecDepth 100000 in
set_option maxHeartbeats 1600000 in
theorem row_any {w : World} {base p g c k f0 f1 f2 f3 l pf : Nat} {vN vL : Value} {xs : List Value} (hk : k ≤ 70000) (hblk : w.heap[p]? = some (prB (.slice (some ⟨g, 0, none⟩) (k + 1) c) vN vL)) (hpb : p < base)
    (hown : w.ownsRow base 50 5 (.slice (some ⟨g, 0, none⟩) (k + 1) c) (k + 1) xs) (hc : k + 1 ≤ c)
    (x0 : xs[k * 5]? = some (.int .i64 f0)) (x1 : xs[k * 5 + 1]? = some (.int .i64 f1)) (x2 : xs[k * 5 + 2]? = some (.int .i64 f2)) (x3 : xs[k * 5 + 3]? = some (.int .i64 f3)) (x4 : xs[k * 5 + 4]? = some (.int .i64 l)) (hpf : 0 < k → xs[(k - 1) * 5]? = some (.int .i64 pf)) :
    Calls Tryd.prog 28 #[.pointer (some ⟨p, 0, none⟩), .int .i64 k, .int .i64 l] w fun e w' => e = .returned (.bool (rwB k f0 f1 f2 f3 l pf)) ∧ Below base w w' ∧ (∀ b, b < w.heap.size → b ≠ g → w'.heap[b]? = w.heap[b]?) ∧
      (rwB k f0 f1 f2 f3 l pf = true → w'.ownsRow base 50 5 (.slice (some ⟨g, 0, none⟩) (k + 1) c) (k + 1) (if k = 0 then xs else xs.set ((k - 1) * 5 + 4) (.int .i64 f0))) := by
  have hlt := lt_of_block hblk
  have hg := hown.lt g rfl
  have HOW : Hid (w.ownsRow base 50 5 (.slice (some ⟨g, 0, none⟩) (k + 1) c) (k + 1) xs) := hown
  have c0 := lb_at hblk 0 rfl
  simp only [List.getElem_toArray, List.getElem_cons_zero, List.getElem_cons_succ] at c0
  have d0 := (hown.cellAt (k * 5) (by omega)).trans x0
  have d1 := (hown.cellAt (k * 5 + 1) (by omega)).trans x1
  have d2 := (hown.cellAt (k * 5 + 2) (by omega)).trans x2
  have d3 := (hown.cellAt (k * 5 + 3) (by omega)).trans x3
  have d4 := (hown.cellAt (k * 5 + 4) (by omega)).trans x4
  have hA : ∀ o : Obj, Below w.heap.size w (w.alloc o) := fun o => (Below.refl _ _).alloc (Nat.le_refl _) _
  have hA' : ∀ o : Obj, Below base w (w.alloc o) := fun o => (hA o).mono (by omega)
  have HA : Hid (∀ o : Obj, Below w.heap.size w (w.alloc o)) := hA
  have HA' : Hid (∀ o : Obj, Below base w (w.alloc o)) := hA'
  obtain ⟨R, hR⟩ : ∃ R, rwB k f0 f1 f2 f3 l pf = R := ⟨_, rfl⟩
  rw [hR]
  clear hblk hown x0 x1 x2 x3 x4 hA hA'
  by_cases h1 : f1 ≤ 4 ∧ f2 ≤ 1 ∧ f3 ≤ 1024 ∧ f0 < l
  · obtain ⟨h1, h2, h3, h0⟩ := h1
    by_cases hk0 : k = 0
    · subst hk0
      have HR : Hid (R = (f0 == 0 && (f1 == 0 && f2 == 0))) := hR.symm.trans (rwB_0 h1 h2 h3 h0)
      clear hR
      simp only [Nat.zero_mul, Nat.zero_add] at d0 d1 d2 d3 d4
      go_enter Tryd.func28, Tryd.ntmps28
      go_wp2
      all_goals
        go_ret
        refine ⟨?_, HA'.out _, fun b hb _ => (HA.out _).block b hb, fun _ => ?_⟩
        · refine ret_bool' ?_
          rw [HR.out, Bool.eq_iff_iff]
          simp
          omega
        · exact HOW.out.alloc _
    · have HR : Hid (R = decide (pf < f0)) := hR.symm.trans (rwB_k hk0 h1 h2 h3 h0)
      clear hR
      obtain ⟨m, rfl⟩ : ∃ m, k = m + 1 := ⟨k - 1, by omega⟩
      have e0 : w.cell? ⟨g, m * 5, none⟩ = some (.int .i64 pf) := (HOW.out.cellAt (m * 5) (by omega)).trans (hpf (by omega))
      have e4 : w.cell? ⟨g, m * 5 + 4, none⟩ = xs[m * 5 + 4]? := HOW.out.cellAt (m * 5 + 4) (by omega)
      have hxl : m * 5 + 4 < xs.length := by have := HOW.out.1; omega
      rw [List.getElem?_eq_getElem hxl] at e4
      generalize xs[m * 5 + 4] = y4 at e4
      have g4 := HOW.out.frozenAt (m * 5 + 4)
      have hpg : p ≠ g := by omega
      have HS : Hid ((w.setCell ⟨g, m * 5 + 4, none⟩ (.int .i64 f0)).ownsRow base 50 5 (.slice (some ⟨g, 0, none⟩) (m + 1 + 1) c) (m + 1 + 1) (xs.set (m * 5 + 4) (.int .i64 f0))) := (HOW.out.stored (m * 5 + 4) (.int .i64 f0)).1
      have HB : Hid (Below base w (w.setCell ⟨g, m * 5 + 4, none⟩ (.int .i64 f0))) := (Below.refl _ _).setCell (p := ⟨g, m * 5 + 4, none⟩) (show base ≤ g by omega) _
      have hd1 : (((m + 1 : Nat) : Int) == 0) = false := by simp; omega
      clear hpf hk0
      go_enter Tryd.func28, Tryd.ntmps28
      go_wp2
      go_region
      go_wp2
      go_region
      go_wp2
      go_ret
      refine ⟨ret_bool' HR.out.symm, ((HB.out.alloc (by rw [setCell_size]; omega) _).drew).drew, fun b hb hbg => ?_, fun _ => ((HS.out.alloc _).drew).drew⟩
      show ((w.setCell _ _).alloc _).heap[b]? = _
      rw [Below.heap_alloc _ _ _ (by rw [setCell_size]; exact hb), Below.heap_setCell _ _ _ _ hbg]
  · have HR : Hid (R = false) := hR.symm.trans (rwB_no (by omega))
    clear hR
    go_enter Tryd.func28, Tryd.ntmps28
    go_wp2
    all_goals
      first
        | omega
        | (go_ret; exact ⟨by rw [HR.out]; rfl, HA'.out _, fun b hb _ => (HA.out _).block b hb, fun h => by rw [HR.out] at h; cases h⟩)
        | skip
/-- row, its answer named -/
theorem row_at {w : World} {base p g c k f0 f1 f2 f3 l pf : Nat} {R : Bool} {vN vL : Value} {xs : List Value} (hR : rwB k f0 f1 f2 f3 l pf = R) (hk : k ≤ 70000) (hblk : w.heap[p]? = some (prB (.slice (some ⟨g, 0, none⟩) (k + 1) c) vN vL)) (hpb : p < base)
    (hown : w.ownsRow base 50 5 (.slice (some ⟨g, 0, none⟩) (k + 1) c) (k + 1) xs) (hc : k + 1 ≤ c)
    (x0 : xs[k * 5]? = some (.int .i64 f0)) (x1 : xs[k * 5 + 1]? = some (.int .i64 f1)) (x2 : xs[k * 5 + 2]? = some (.int .i64 f2)) (x3 : xs[k * 5 + 3]? = some (.int .i64 f3)) (x4 : xs[k * 5 + 4]? = some (.int .i64 l)) (hpf : 0 < k → xs[(k - 1) * 5]? = some (.int .i64 pf)) :
    Calls Tryd.prog 28 #[.pointer (some ⟨p, 0, none⟩), .int .i64 k, .int .i64 l] w fun e w' => e = .returned (.bool R) ∧ Below base w w' ∧ (∀ b, b < w.heap.size → b ≠ g → w'.heap[b]? = w.heap[b]?) ∧
      (R = true → w'.ownsRow base 50 5 (.slice (some ⟨g, 0, none⟩) (k + 1) c) (k + 1) (if k = 0 then xs else xs.set ((k - 1) * 5 + 4) (.int .i64 f0))) := by
  subst hR
  exact row_any hk hblk hpb hown hc x0 x1 x2 x3 x4 hpf
theorem or_cap {w : World} {base size n g c : Nat} {e : TypeId} {xs : List Value} (h : w.ownsRow base e size (.slice (some ⟨g, 0, none⟩) n c) n xs) : n ≤ c := by
  rcases h.2 with ⟨h1, _⟩ | ⟨g', cap, cur, h1, h2, h3, h4, h5, _⟩
  · cases h1
  · injection h1 with _ _ h6; omega
theorem or_mono {w : World} {base base' size n : Nat} {e : TypeId} {v : Value} {xs : List Value} (h : w.ownsRow base e size v n xs) (hb : base' ≤ base) : w.ownsRow base' e size v n xs := by
  refine ⟨h.1, ?_⟩
  rcases h.2 with h' | ⟨g, cap, cur, h1, h2, h3⟩
  · exact .inl h'
  · exact .inr ⟨g, cap, cur, h1, by omega, h3⟩
theorem app_keep {w W w1 : World} {base n size : Nat} {e : TypeId} {v : Value} {xs : List Value} (hown : w.ownsRow base e size v n xs) (hW : Below w.heap.size w W) (hbase : base ≤ w.heap.size) (hg : W.grownBy w1 v.ownBlock) :
    (∀ b, b < w.heap.size → v.ownBlock ≠ some b → w1.heap[b]? = w.heap[b]?) ∧ w.heap.size ≤ w1.heap.size ∧ Below base w w1 := by
  have hs := hW.size
  have hs2 := hg.size
  exact ⟨fun b h1 h2 => (hg.block b (by omega) (fun h => h2 h.symm)).trans (hW.block b h1), by omega, (hW.mono hbase).grown hg (by omega) (own_ge hown)⟩
theorem app_right {α : Type} {f : Nat → List α} {w : Nat} (hf : ∀ i, (f i).length = w) (n j : Nat) (ys : List α) : (rowC f n ++ ys)[n * w + j]? = ys[j]? := by
  rw [List.getElem?_append_right (by rw [rowC_len hf]; omega), rowC_len hf, Nat.add_sub_cancel_left]
theorem app_left {α : Type} {f : Nat → List α} {w : Nat} (hf : ∀ i, (f i).length = w) {n i o : Nat} (ys : List α) (hi : i < n) (ho : o < w) : (rowC f n ++ ys)[i * w + o]? = (f i)[o]? := by
  have : (i + 1) * w ≤ n * w := Nat.mul_le_mul_right _ hi
  rw [Nat.succ_mul] at this
  rw [List.getElem?_append_left (by rw [rowC_len hf]; omega)]
  exact rowC_at hf ho n hi
end Go.Proofs.YtmkdoejpgkgpbaaDoor
