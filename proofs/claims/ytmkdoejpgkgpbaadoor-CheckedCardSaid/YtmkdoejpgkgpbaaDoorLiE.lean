/- WALKS: the code's small functions of a code's rows. -/
import Derived.Test.YtmkdoejpgkgpbaaDoorLiC
import Derived.Lib.Hide
set_option linter.unusedVariables false
set_option linter.unusedSimpArgs false
namespace Go.Proofs.YtmkdoejpgkgpbaaDoor
open Go.RowKit Li

/-- a function's row on the code's side -/
def cF (s : ByteArray) (i : Nat) : List Value := [.int .i64 (r0 s i), .int .i64 (r1 s i), .int .i64 (r2 s i), .int .i64 (r3 s i)]
theorem cF_len (s : ByteArray) : ∀ i, (cF s i).length = 4 := fun _ => rfl
def rdB (s : ByteArray) (at' : Nat) (vF vN vL : Value) : Obj := .cells #[.string s, .int .i64 at', vF, vN, vL] 60 (0, 0)
set_option maxRecDepth 100000 in
set_option maxHeartbeats 800000 in
theorem function_any {w : World} {g n c i nn cn nl cl : Nat} {an al : Option Addr} {a0 a1 a2 a3 : Int} (hn : n ≤ 70000) (hi : i < n) (hc : n ≤ c) (hg : g < w.heap.size) (d0 : w.cell? ⟨g, i * 4, none⟩ = some (.int .i64 a0)) (d1 : w.cell? ⟨g, i * 4 + 1, none⟩ = some (.int .i64 a1)) (d2 : w.cell? ⟨g, i * 4 + 2, none⟩ = some (.int .i64 a2)) (d3 : w.cell? ⟨g, i * 4 + 3, none⟩ = some (.int .i64 a3)) :
    Calls Tryd.prog 41 #[.agg #[.slice (some ⟨g, 0, none⟩) n c, .slice an nn cn, .slice al nl cl], .int .i64 i] w fun e w' => e = .returned (.agg #[.int .i64 a0, .int .i64 a1, .int .i64 a2, .int .i64 a3]) ∧ Below w.heap.size w w' := by
  have hB : ∀ o1 o2 : Obj, Below w.heap.size w ((w.alloc o1).alloc o2) := fun o1 o2 => ((Below.refl _ _).alloc (Nat.le_refl _) _).alloc (by rw [World.size_alloc]; omega) _
  have e0 : ∀ o1 o2 : Obj, ((w.alloc o1).alloc o2).cell? ⟨g, i * 4, none⟩ = some (.int .i64 a0) := fun o1 o2 => ((hB o1 o2).cell (p := ⟨g, _, none⟩) hg).trans d0
  have e1 : ∀ o1 o2 : Obj, ((w.alloc o1).alloc o2).cell? ⟨g, i * 4 + 1, none⟩ = some (.int .i64 a1) := fun o1 o2 => ((hB o1 o2).cell (p := ⟨g, _, none⟩) hg).trans d1
  have e2 : ∀ o1 o2 : Obj, ((w.alloc o1).alloc o2).cell? ⟨g, i * 4 + 2, none⟩ = some (.int .i64 a2) := fun o1 o2 => ((hB o1 o2).cell (p := ⟨g, _, none⟩) hg).trans d2
  have e3 : ∀ o1 o2 : Obj, ((w.alloc o1).alloc o2).cell? ⟨g, i * 4 + 3, none⟩ = some (.int .i64 a3) := fun o1 o2 => ((hB o1 o2).cell (p := ⟨g, _, none⟩) hg).trans d3
  have HB : Hid (∀ o1 o2 : Obj, Below w.heap.size w ((w.alloc o1).alloc o2)) := hB
  have g1 : decide ((n : Int) ≤ (i : Int)) = false := by simp; omega
  have g2 : (i : Int) < (n : Int) := by omega
  clear hB d0 d1 d2 d3
  go_enter Tryd.func41, Tryd.ntmps41
  go_wp2
  go_returns
  exact ⟨rfl, HB.out _ _⟩
/-- may a row follow k rows? -/
def flB (k f0 f1 f2 f3 p : Nat) : Bool := decide (f1 ≤ 4) && (decide (f2 ≤ 1) && decide (f3 ≤ 1024)) && (if k = 0 then (f0 == 0 && (f1 == 0 && f2 == 0)) else decide (p < f0))
theorem flB_rwB (k f0 f1 f2 f3 l p : Nat) : rwB k f0 f1 f2 f3 l p = (flB k f0 f1 f2 f3 p && decide (f0 < l)) := by
  unfold rwB flB; simp only [Bool.and_assoc]
theorem flB_no {k f0 f1 f2 f3 p : Nat} (h : 4 < f1 ∨ 1 < f2 ∨ 1024 < f3) : flB k f0 f1 f2 f3 p = false := by
  unfold flB
  rcases h with h | h | h
  · rw [show decide (f1 ≤ 4) = false by simp; omega]; simp
  · rw [show decide (f2 ≤ 1) = false by simp; omega]; simp
  · rw [show decide (f3 ≤ 1024) = false by simp; omega]; simp
theorem flB_0 {f0 f1 f2 f3 p : Nat} (h1 : f1 ≤ 4) (h2 : f2 ≤ 1) (h3 : f3 ≤ 1024) : flB 0 f0 f1 f2 f3 p = (f0 == 0 && (f1 == 0 && f2 == 0)) := by
  unfold flB
  rw [show decide (f1 ≤ 4) = true by simp; omega, show decide (f2 ≤ 1) = true by simp; omega, show decide (f3 ≤ 1024) = true by simp; omega]
  simp
theorem flB_k {k f0 f1 f2 f3 p : Nat} (hk : k ≠ 0) (h1 : f1 ≤ 4) (h2 : f2 ≤ 1) (h3 : f3 ≤ 1024) : flB k f0 f1 f2 f3 p = decide (p < f0) := by
  unfold flB
  rw [show decide (f1 ≤ 4) = true by simp; omega, show decide (f2 ≤ 1) = true by simp; omega, show decide (f3 ≤ 1024) = true by simp; omega, if_neg hk]
  simp
theorem fld_fn0 (a b c d : Int) (w : World) : Sem.run Tryd.prog (Instr.field 67 (.agg #[.int .i64 a, .int .i64 b, .int .i64 c, .int .i64 d]) 0) w = .ok (.int .i64 a) w := by kernel_rfl
set_option maxRecDepth 100000 in
set_option maxHeartbeats 1600000 in
theorem follows_any {s : ByteArray} {w : World} {r at' k nn cn nl cl f0 f1 f2 f3 : Nat} {vF : Value} {an al : Option Addr} {R : Bool} (hR : flB k f0 f1 f2 f3 (r0 s (k - 1)) = R) (hk : k ≤ 70000) (hblk : w.heap[r]? = some (rdB s at' vF (.slice an nn cn) (.slice al nl cl))) {base : Nat} (hown : w.ownsRow base 67 4 vF k (rowC (cF s) k)) :
    Calls Tryd.prog 38 #[.pointer (some ⟨r, 0, none⟩), .agg #[.int .i64 f0, .int .i64 f1, .int .i64 f2, .int .i64 f3]] w fun e w' => e = .returned (.bool R) ∧ Below w.heap.size w w' := by
  have hlt := lt_of_block hblk
  have c2 := lb_at hblk 2 rfl
  have c2' : ∀ o, (w.alloc o).cell? ⟨r, 2, none⟩ = some vF := lb_past hblk 2 rfl
  have c3' : ∀ o, (w.alloc o).cell? ⟨r, 3, none⟩ = some (.slice an nn cn) := lb_past hblk 3 rfl
  have c4' : ∀ o, (w.alloc o).cell? ⟨r, 4, none⟩ = some (.slice al nl cl) := lb_past hblk 4 rfl
  simp only [List.getElem_toArray, List.getElem_cons_zero, List.getElem_cons_succ] at c2
  obtain ⟨aF, cFc, rfl⟩ := or_slice hown
  have HB : Hid (∀ o : Obj, Below w.heap.size w (w.alloc o)) := fun o => (Below.refl _ _).alloc (Nat.le_refl _) _
  by_cases h1 : f1 ≤ 4 ∧ f2 ≤ 1 ∧ f3 ≤ 1024
  · obtain ⟨h1, h2, h3⟩ := h1
    by_cases hk0 : k = 0
    · subst hk0
      have HR : Hid (R = (f0 == 0 && (f1 == 0 && f2 == 0))) := hR.symm.trans (flB_0 h1 h2 h3)
      clear hR hblk hown
      go_enter Tryd.func38, Tryd.ntmps38
      go_wp2
      all_goals
        go_ret
        refine ⟨?_, HB.out _⟩
        refine ret_bool' ?_
        rw [HR.out, Bool.eq_iff_iff]
        simp
        omega
    · have HR : Hid (R = decide (r0 s (k - 1) < f0)) := hR.symm.trans (flB_k hk0 h1 h2 h3)
      obtain ⟨m, rfl⟩ : ∃ m, k = m + 1 := ⟨k - 1, by omega⟩
      obtain ⟨g, cap, hsl, hg1, hg2, hg3, hg4⟩ := or_shape hown (by omega)
      injection hsl with e1 e2 e3
      subst e1 e3
      have hk1 : (((m + 1 : Nat) : Int) == 0) = false := by simp; omega
      have HF : Hid (∀ (z : Int) w', z = (m : Int) → Below w.heap.size w w' → Calls Tryd.prog 41 #[.agg #[.slice (some ⟨g, 0, none⟩) (m + 1) cFc, .slice an nn cn, .slice al nl cl], .int .i64 z] w' fun e w2 => e = .returned (.agg #[.int .i64 (r0 s m), .int .i64 (r1 s m), .int .i64 (r2 s m), .int .i64 (r3 s m)]) ∧ Below w'.heap.size w' w2) := fun z w' hz hb => by
        subst hz
        have hcell : ∀ o v, o < 4 → (cF s m)[o]? = some v → w'.cell? ⟨g, m * 4 + o, none⟩ = some v := fun o v ho hv => by
          rw [hb.cell (p := ⟨g, m * 4 + o, none⟩) hg2, hown.cellAt (m * 4 + o) (by omega)]
          exact (rowC_at (cF_len s) ho (m + 1) (by omega)).trans hv
        have hs := hb.size
        exact function_any (by omega) (by omega) hg3 (by omega) (hcell 0 _ (by omega) rfl) (hcell 1 _ (by omega) rfl) (hcell 2 _ (by omega) rfl) (hcell 3 _ (by omega) rfl)
      rw [Nat.add_sub_cancel] at HR
      have hf := fld_fn0 (r0 s m) (r1 s m) (r2 s m) (r3 s m)
      generalize (r0 s m : Nat) = q0 at *
      generalize (r1 s m : Int) = q1 at *
      generalize (r2 s m : Int) = q2 at *
      generalize (r3 s m : Int) = q3 at *
      clear hR hblk hown hk0
      go_enter Tryd.func38, Tryd.ntmps38
      have hwm : IntKind.i64.wrap (m : Int) = m := by rw [IntKind.wrap_i64]; omega
      go_wp2
      go_region_with (go_at_call 41; refine (HF.out _ _ (by omega) (by first | exact HB.out _ | exact (HB.out _).drew)).mono ?_; rintro _ w2 ⟨rfl, hb2⟩; have hc2 : w2.cell? ⟨w.heap.size, 0, none⟩ = some (.int .i64 f0) := (hb2.cell (p := ⟨w.heap.size, 0, none⟩) (by first | (show w.heap.size < (w.alloc _).heap.size; rw [World.size_alloc]; omega) | (show w.heap.size < (w.alloc _).drew.heap.size; show w.heap.size < (w.alloc _).heap.size; rw [World.size_alloc]; omega))).trans (lb_at (lb_new w _) 0 rfl))
      all_goals
        rename_i Q' K hK
        refine hK _ _ ?_
        clear hK
        clear K
        go_wp2
        go_ret
        refine ⟨ret_bool' ?_, ?_⟩
        · rw [HR.out]
        · have hb3 := hb2.mono (show w.heap.size ≤ (w.alloc _).heap.size by rw [World.size_alloc]; omega)
          first | exact (HB.out _).trans hb3 | exact ((HB.out _).drew).trans hb3
  · have HR : Hid (R = false) := hR.symm.trans (flB_no (by omega))
    clear hR hblk hown
    go_enter Tryd.func38, Tryd.ntmps38
    go_wp2
    all_goals
      first
        | omega
        | (go_ret; exact ⟨by rw [HR.out]; rfl, HB.out _⟩)
end Go.Proofs.YtmkdoejpgkgpbaaDoor
