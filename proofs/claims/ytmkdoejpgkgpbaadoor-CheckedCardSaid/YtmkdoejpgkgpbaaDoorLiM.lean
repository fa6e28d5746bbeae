/- WALKS: the code's Read. -/
import Derived.Test.YtmkdoejpgkgpbaaDoorLiI
import Derived.Test.YtmkdoejpgkgpbaaDoorLiL
set_option linter.unusedVariables false
set_option linter.unusedSimpArgs false
namespace Go.Proofs.YtmkdoejpgkgpbaaDoor
open Go.RowKit Li

def O38 : Obj := .cells #[.slice none 0 0, .slice none 0 0, .slice none 0 0] 38 (0, 0)
def O60 (s : ByteArray) : Obj := .cells #[.string s, .int .i64 8, .slice none 0 0, .slice none 0 0, .slice none 0 0] 60 (0, 0)
theorem O60_rdB (s : ByteArray) : O60 s = rdB s 8 nilS nilS nilS := rfl
theorem lb_second {w : World} {o o2 : Obj} {b : Nat} (h : b = w.heap.size) : ((w.alloc o).alloc o2).heap[b]? = some o := by
  subst h
  rw [Below.heap_alloc _ _ _ (by rw [World.size_alloc]; omega)]
  exact lb_new w o
theorem Lone.own {r : Nat} {w w' : World} (h : Lone r w w') {base sz n : Nat} {e : TypeId} {v : Value} {xs : List Value} (ho : w.ownsRow base e sz v n xs) (hr : r < base) : w'.ownsRow base e sz v n xs :=
  or_keep ho fun b hb => h.rest b (ho.lt b hb).2 (by have := (ho.lt b hb).1; omega)
theorem read_ret {W : World} {tmps : Array Value} {q : Nat} {x0 x1 x2 : Value} {er at' : Int} {Q : Ending → World → Prop} (ht : tmps.getD 2 undef = .pointer (some ⟨q, 0, none⟩)) (h3 : tmps.getD 3 undef = .int .i64 er) (h4 : tmps.getD 4 undef = .int .i64 at')
    (c0 : W.cell? ⟨q, 0, none⟩ = some x0) (c1 : W.cell? ⟨q, 1, none⟩ = some x1) (c2 : W.cell? ⟨q, 2, none⟩ = some x2) (hq : Q (.returned (.tuple #[.agg #[x0, x1, x2], .int .i64 er, .int .i64 at'])) W) :
    bodyPost Tryd.prog Tryd.f12 Q Exit.ret { tmps := tmps, defers := [] } W := by
  have ht' : tmps[2]?.getD undef = .pointer (some ⟨q, 0, none⟩) := by simpa using ht
  have h3' : tmps[3]?.getD undef = .int .i64 er := by simpa using h3
  have h4' : tmps[4]?.getD undef = .int .i64 at' := by simpa using h4
  exact bodyPost_ret (v := .tuple #[.agg #[x0, x1, x2], .int .i64 er, .int .i64 at']) (by simp [results, Tryd.results12, go_sem, ht', h3', h4', c0, c1, c2]) rfl hq
theorem cread_head {s : ByteArray} {w : World} {er at' : Nat} (hs : s.size ≤ 1073741824) (hd : 600000 < s.size ∨ hdB s = false) (h : res s = some (er, at')) :
    Calls Tryd.prog 12 #[.string s] w fun e w' => e = .returned (.tuple #[.agg #[.slice none 0 0, .slice none 0 0, .slice none 0 0], .int .i64 er, .int .i64 at']) ∧ Below w.heap.size w w' := by
  by_cases h1 : 600000 < s.size
  · rw [res_long h1] at h
    injection h with h
    injection h with h2 h3
    subst h2 h3
    clear hd
    go_enter Tryd.func12, Tryd.ntmps12
    go_wp2
    go_returns
    exact ⟨rfl, (Below.refl _ _).alloc (Nat.le_refl _) _⟩
  · have hd' : hdB s = false := hd.resolve_left h1
    rw [res_head (by omega) hd'] at h
    injection h with h
    injection h with h2 h3
    subst h2 h3
    have HW : Hid (∀ W : World, Calls Tryd.prog 20 #[.string s] W fun e w' => e = .returned (.bool false) ∧ w' = W) := fun W => by
      have := isWhole_any (s := s) (w := W) (by omega)
      rw [hd'] at this
      exact this
    clear hd hd'
    go_enter Tryd.func12, Tryd.ntmps12
    go_wp2_with (go_at_call 20; refine (HW.out _).mono ?_; rintro _ w1 ⟨rfl, hw1⟩; have hw2 := hw1.symm; subst hw2)
    go_returns
    exact ⟨rfl, (Below.refl _ _).alloc (Nat.le_refl _) _⟩
structure Nums (s : ByteArray) (F N L : Nat) : Prop where
  hs : s.size ≤ 600000
  hd : hdB s = true
  eF : hF s = F
  eN : hN s = N
  eL : hL s = L
  lF : F < 65536
  lN : N < 65536
  lL : L < 65536
  sz : s.size = 8 + 6 * F + 8 * N + 8 * L
  wh : ∀ W : World, Calls Tryd.prog 20 #[.string s] W fun e w' => e = .returned (.bool true) ∧ w' = W
  cF : ∀ (z n : Int) (w : World), z = 2 ∧ n = 2 → Calls Tryd.prog 22 #[.string s, .int .i64 z, .int .i64 n] w fun e w' => e = .returned (.int .i64 (F : Int)) ∧ w' = w
  cN : ∀ (z n : Int) (w : World), z = 4 ∧ n = 2 → Calls Tryd.prog 22 #[.string s, .int .i64 z, .int .i64 n] w fun e w' => e = .returned (.int .i64 (N : Int)) ∧ w' = w
  cL : ∀ (z n : Int) (w : World), z = 6 ∧ n = 2 → Calls Tryd.prog 22 #[.string s, .int .i64 z, .int .i64 n] w fun e w' => e = .returned (.int .i64 (L : Int)) ∧ w' = w
theorem nums_mk {s : ByteArray} (hs : s.size ≤ 600000) (hd : hdB s = true) : Nums s (hF s) (hN s) (hL s) := by
  obtain ⟨h8, _, _, hz⟩ := hdB_of hd
  refine ⟨hs, hd, rfl, rfl, rfl, n2_lt _ _, n2_lt _ _, n2_lt _ _, hz, fun W => ?_, ?_, ?_, ?_⟩
  · have := isWhole_any (s := s) (w := W) hs
    rw [hd] at this
    exact this
  · intro z n w h
    have := number_any (s := s) (a := 2) (n := 2) (w := w) hs (by omega)
    rw [nV_2] at this
    rw [h.1, h.2]; exact this
  · intro z n w h
    have := number_any (s := s) (a := 4) (n := 2) (w := w) hs (by omega)
    rw [nV_2] at this
    rw [h.1, h.2]; exact this
  · intro z n w h
    have := number_any (s := s) (a := 6) (n := 2) (w := w) hs (by omega)
    rw [nV_2] at this
    rw [h.1, h.2]; exact this
set_option maxRecDepth 100000 in
set_option maxHeartbeats 1600000 in
theorem cread_row {s : ByteArray} {w : World} {F N L k : Nat} (hn : Nums s F N L) (hb : bad (rowB s) F 0 = some k) :
    Calls Tryd.prog 12 #[.string s] w fun e w' => e = .returned (.tuple #[.agg #[.slice none 0 0, .slice none 0 0, .slice none 0 0], .int .i64 10, .int .i64 ((8 + 6 * k : Nat) : Int)]) ∧ Below w.heap.size w w' := by
  have HN := Lib.hid hn
  have hll := hn.lL
  have hfl := hn.lF
  have h600 := hn.hs
  have h601 := hn.sz
  have h602 : s.size ≤ 600000 := hn.hs
  have HRB : Hid (∀ (W : World) b q, W.heap[b]? = some (O60 s) → W.heap[q]? = some O38 → q < b → Calls Tryd.prog 21 #[.pointer (some ⟨b, 0, none⟩), .int .i64 F, .int .i64 L] W fun e w' => e = .returned (.bool false) ∧ ∃ v, w'.heap[b]? = some (rdB s (8 + 6 * k) v nilS nilS) ∧ w'.heap[q]? = some O38 ∧ Below q W w') := fun W b q h1 h2 h3 => by
    refine (rows_bad hn.hs (by omega) hn.lF hn.lL hn.eL h1 hb).mono ?_
    rintro e w' ⟨he, v, h4, h5⟩
    exact ⟨he, v, h4, (h5.rest q (lt_of_block h2) (by omega)).trans h2, h5.below.mono (by omega)⟩
  clear hn hb h601 h600
  go_enter Tryd.func12, Tryd.ntmps12
  go_wp2_with (first
    | (go_at_call 20; refine (HN.out.wh _).mono ?_; rintro _ w1 ⟨rfl, hw1⟩; have hw2 := hw1.symm; subst hw2)
    | (go_at_call 22; refine (HN.out.cF _ _ _ (by omega)).mono ?_; rintro _ w1 ⟨rfl, hw1⟩; have hw2 := hw1.symm; subst hw2)
    | (go_at_call 22; refine (HN.out.cL _ _ _ (by omega)).mono ?_; rintro _ w1 ⟨rfl, hw1⟩; have hw2 := hw1.symm; subst hw2)
    | (go_at_call 21; refine (HRB.out _ _ w.heap.size (lb_new' (by simp)) (lb_second rfl) (by omega)).mono ?_; rintro _ w2 ⟨rfl, v, hk2, hq2, hb2⟩; have c1 := lb_at hk2 1 rfl; have e0 := lb_at hq2 0 rfl; have e1 := lb_at hq2 1 rfl; have e2 := lb_at hq2 2 rfl; have p0 := lb_f hq2 0; have p1 := lb_f hq2 1; have p2 := lb_f hq2 2; simp only [List.getElem_toArray, List.getElem_cons_zero, List.getElem_cons_succ] at c1 e0 e1 e2))
  go_region
  all_goals
    rename_i K2 hK2
    refine hK2 _ _ ?_
    clear hK2
    have hq3 := lb_set (lb_set (lb_set hq2 0 (.slice none 0 0)) 1 (.slice none 0 0)) 2 (.slice none 0 0)
    have HB3 : Hid (Below w.heap.size w (((w2.setCell ⟨w.heap.size, 0, none⟩ (.slice none 0 0)).setCell ⟨w.heap.size, 1, none⟩ (.slice none 0 0)).setCell ⟨w.heap.size, 2, none⟩ (.slice none 0 0))) := ((((((Below.refl w.heap.size w).alloc (Nat.le_refl _) O38).alloc (by rw [World.size_alloc]; omega) (O60 s)).trans hb2).setCell (p := ⟨w.heap.size, 0, none⟩) (Nat.le_refl _) _).setCell (p := ⟨w.heap.size, 1, none⟩) (Nat.le_refl _) _).setCell (p := ⟨w.heap.size, 2, none⟩) (Nat.le_refl _) _
    generalize ((w2.setCell ⟨w.heap.size, 0, none⟩ (.slice none 0 0)).setCell ⟨w.heap.size, 1, none⟩ (.slice none 0 0)).setCell ⟨w.heap.size, 2, none⟩ (.slice none 0 0) = W3 at *
    have x0 := lb_at hq3 0 rfl
    have x1 := lb_at hq3 1 rfl
    have x2 := lb_at hq3 2 rfl
    simp only [List.setIfInBounds_toArray, List.set_cons_zero, List.set_cons_succ, List.getElem_toArray, List.getElem_cons_zero, List.getElem_cons_succ] at x0 x1 x2
    clear hq3 c1 e0 e1 e2 p0 p1 p2
    go_wp2_with fail
    exact read_ret rfl rfl rfl x0 x1 x2 ⟨rfl, HB3.out.drew⟩
set_option maxRecDepth 100000 in
set_option maxHeartbeats 1600000 in
theorem cread_num {s : ByteArray} {w : World} {F N L k : Nat} (hn : Nums s F N L) (hb0 : bad (rowB s) F 0 = none) (hb : bad (numB s) N 0 = some k) :
    Calls Tryd.prog 12 #[.string s] w fun e w' => e = .returned (.tuple #[.agg #[.slice none 0 0, .slice none 0 0, .slice none 0 0], .int .i64 10, .int .i64 ((8 + 6 * F + 8 * k : Nat) : Int)]) ∧ Below w.heap.size w w' := by
  have HN := Lib.hid hn
  have hll := hn.lL
  have hfl := hn.lF
  have hnl := hn.lN
  have h601 := hn.sz
  have h602 : s.size ≤ 600000 := hn.hs
  have HRB : Hid (∀ (W : World) b q, W.heap[b]? = some (O60 s) → W.heap[q]? = some O38 → q < b → Calls Tryd.prog 21 #[.pointer (some ⟨b, 0, none⟩), .int .i64 F, .int .i64 L] W fun e w' => e = .returned (.bool true) ∧ ∃ a c, w'.heap[b]? = some (rdB s (8 + 6 * F) (.slice a F c) nilS nilS) ∧ w'.heap[q]? = some O38 ∧ Below q W w') := fun W b q h1 h2 h3 => by
    refine (rows_ok hn.hs (by omega) hn.lF hn.lL hn.eL h1 hb0).mono ?_
    rintro e w' ⟨he, a, c, h4, h5, h6⟩
    exact ⟨he, a, c, h4, (h5.rest q (lt_of_block h2) (by omega)).trans h2, h5.below.mono (by omega)⟩
  have HCB : Hid (∀ (W : World) b q a c, W.heap[b]? = some (rdB s (8 + 6 * F) (.slice a F c) nilS nilS) → W.heap[q]? = some O38 → q < b → Calls Tryd.prog 23 #[.pointer (some ⟨b, 0, none⟩), .int .i64 N] W fun e w' => e = .returned (.bool false) ∧ ∃ v, w'.heap[b]? = some (rdB s (8 + 6 * F + 8 * k) (.slice a F c) v nilS) ∧ w'.heap[q]? = some O38 ∧ Below q W w') := fun W b q a c h1 h2 h3 => by
    refine (constants_bad hn.hs (by omega) hn.lF hn.lN hn.eF h1 hb).mono ?_
    rintro e w' ⟨he, v, h4, h5⟩
    exact ⟨he, v, h4, (h5.rest q (lt_of_block h2) (by omega)).trans h2, h5.below.mono (by omega)⟩
  clear hn hb h601 hb0
  go_enter Tryd.func12, Tryd.ntmps12
  go_wp2_with (first
    | (go_at_call 20; refine (HN.out.wh _).mono ?_; rintro _ w1 ⟨rfl, hw1⟩; have hw2 := hw1.symm; subst hw2)
    | (go_at_call 22; refine (HN.out.cF _ _ _ (by omega)).mono ?_; rintro _ w1 ⟨rfl, hw1⟩; have hw2 := hw1.symm; subst hw2)
    | (go_at_call 22; refine (HN.out.cL _ _ _ (by omega)).mono ?_; rintro _ w1 ⟨rfl, hw1⟩; have hw2 := hw1.symm; subst hw2)
    | (go_at_call 22; refine (HN.out.cN _ _ _ (by omega)).mono ?_; rintro _ w1 ⟨rfl, hw1⟩; have hw2 := hw1.symm; subst hw2)
    | (go_at_call 21; refine (HRB.out _ _ w.heap.size (lb_new' (by simp)) (lb_second rfl) (by omega)).mono ?_; rintro _ w5 ⟨rfl, a5, c5, hk5, hq5, hb5⟩; have HK5 := Lib.hid hk5; have HQ5 := Lib.hid hq5; clear hk5 hq5)
    | (go_at_call 23; refine (HCB.out _ _ w.heap.size _ _ HK5.out HQ5.out (by omega)).mono ?_; rintro _ w2 ⟨rfl, v, hk2, hq2, hb2⟩; have c1 := lb_at hk2 1 rfl; have e0 := lb_at hq2 0 rfl; have e1 := lb_at hq2 1 rfl; have e2 := lb_at hq2 2 rfl; have p0 := lb_f hq2 0; have p1 := lb_f hq2 1; have p2 := lb_f hq2 2; simp only [List.getElem_toArray, List.getElem_cons_zero, List.getElem_cons_succ] at c1 e0 e1 e2))
  go_region
  all_goals
    rename_i K2 hK2
    refine hK2 _ _ ?_
    clear hK2
    have hq3 := lb_set (lb_set (lb_set hq2 0 (.slice none 0 0)) 1 (.slice none 0 0)) 2 (.slice none 0 0)
    have HB3 : Hid (Below w.heap.size w (((w2.setCell ⟨w.heap.size, 0, none⟩ (.slice none 0 0)).setCell ⟨w.heap.size, 1, none⟩ (.slice none 0 0)).setCell ⟨w.heap.size, 2, none⟩ (.slice none 0 0))) := (((((((Below.refl w.heap.size w).alloc (Nat.le_refl _) O38).alloc (by rw [World.size_alloc]; omega) (O60 s)).trans hb5).trans hb2).setCell (p := ⟨w.heap.size, 0, none⟩) (Nat.le_refl _) _).setCell (p := ⟨w.heap.size, 1, none⟩) (Nat.le_refl _) _).setCell (p := ⟨w.heap.size, 2, none⟩) (Nat.le_refl _) _
    generalize ((w2.setCell ⟨w.heap.size, 0, none⟩ (.slice none 0 0)).setCell ⟨w.heap.size, 1, none⟩ (.slice none 0 0)).setCell ⟨w.heap.size, 2, none⟩ (.slice none 0 0) = W3 at *
    have x0 := lb_at hq3 0 rfl
    have x1 := lb_at hq3 1 rfl
    have x2 := lb_at hq3 2 rfl
    simp only [List.setIfInBounds_toArray, List.set_cons_zero, List.set_cons_succ, List.getElem_toArray, List.getElem_cons_zero, List.getElem_cons_succ] at x0 x1 x2
    clear hq3 c1 e0 e1 e2 p0 p1 p2
    go_wp2_with fail
    exact read_ret rfl rfl rfl x0 x1 x2 ⟨rfl, HB3.out.drew⟩
set_option maxRecDepth 100000 in
set_option maxHeartbeats 1600000 in
theorem cread_fine {s : ByteArray} {w : World} {F N L : Nat} (hn : Nums s F N L) (hb0 : bad (rowB s) F 0 = none) (hb : bad (numB s) N 0 = none) :
    Calls Tryd.prog 12 #[.string s] w fun e w' => ∃ vF vN vL, e = .returned (.tuple #[.agg #[vF, vN, vL], .int .i64 0, .int .i64 0]) ∧ w'.ownsRow w.heap.size 67 4 vF F (rowC (cF s) F) ∧ w'.ownsRow w.heap.size 3 1 vN N (rowC (cN s) N) ∧ w'.ownsRow w.heap.size 70 5 vL L (rowC (cL s) L) ∧ Below w.heap.size w w' := by
  have HN := Lib.hid hn
  have hll := hn.lL
  have hfl := hn.lF
  have hnl := hn.lN
  have h601 := hn.sz
  have h602 : s.size ≤ 600000 := hn.hs
  have HRB : Hid (∀ (W : World) b q, W.heap[b]? = some (O60 s) → W.heap[q]? = some O38 → q < b → Calls Tryd.prog 21 #[.pointer (some ⟨b, 0, none⟩), .int .i64 F, .int .i64 L] W fun e w' => e = .returned (.bool true) ∧ ∃ a c, w'.heap[b]? = some (rdB s (8 + 6 * F) (.slice a F c) nilS nilS) ∧ w'.heap[q]? = some O38 ∧ Below q W w' ∧ w'.ownsRow (b + 1) 67 4 (.slice a F c) F (rowC (cF s) F)) := fun W b q h1 h2 h3 => by
    refine (rows_ok hn.hs (by omega) hn.lF hn.lL hn.eL h1 hb0).mono ?_
    rintro e w' ⟨he, a, c, h4, h5, h6⟩
    exact ⟨he, a, c, h4, (h5.rest q (lt_of_block h2) (by omega)).trans h2, h5.below.mono (by omega), or_mono h6 (lt_of_block h1)⟩
  have HCB : Hid (∀ (W : World) b q a c, W.heap[b]? = some (rdB s (8 + 6 * F) (.slice a F c) nilS nilS) → W.heap[q]? = some O38 → q < b → W.ownsRow (b + 1) 67 4 (.slice a F c) F (rowC (cF s) F) → Calls Tryd.prog 23 #[.pointer (some ⟨b, 0, none⟩), .int .i64 N] W fun e w' => e = .returned (.bool true) ∧ ∃ a2 c2, w'.heap[b]? = some (rdB s (8 + 6 * F + 8 * N) (.slice a F c) (.slice a2 N c2) nilS) ∧ w'.heap[q]? = some O38 ∧ Below q W w' ∧ w'.ownsRow (b + 1) 67 4 (.slice a F c) F (rowC (cF s) F) ∧ w'.ownsRow (b + 1) 3 1 (.slice a2 N c2) N (rowC (cN s) N)) := fun W b q a c h1 h2 h3 ho => by
    refine (constants_ok hn.hs (by omega) hn.lF hn.lN hn.eF h1 hb).mono ?_
    rintro e w' ⟨he, a2, c2, h4, h5, h6⟩
    exact ⟨he, a2, c2, h4, (h5.rest q (lt_of_block h2) (by omega)).trans h2, h5.below.mono (by omega), h5.own ho (by omega), or_mono h6 (lt_of_block h1)⟩
  have HLB : Hid (∀ (W : World) b q a c a2 c2, W.heap[b]? = some (rdB s (8 + 6 * F + 8 * N) (.slice a F c) (.slice a2 N c2) nilS) → W.heap[q]? = some O38 → q < b → W.ownsRow (b + 1) 67 4 (.slice a F c) F (rowC (cF s) F) → W.ownsRow (b + 1) 3 1 (.slice a2 N c2) N (rowC (cN s) N) → Calls Tryd.prog 24 #[.pointer (some ⟨b, 0, none⟩), .int .i64 L] W fun e w' => e = .returned (.tuple #[]) ∧ ∃ a3 c3, w'.heap[b]? = some (rdB s (8 + 6 * F + 8 * N + 8 * L) (.slice a F c) (.slice a2 N c2) (.slice a3 L c3)) ∧ w'.heap[q]? = some O38 ∧ Below q W w' ∧ w'.ownsRow (b + 1) 67 4 (.slice a F c) F (rowC (cF s) F) ∧ w'.ownsRow (b + 1) 3 1 (.slice a2 N c2) N (rowC (cN s) N) ∧ w'.ownsRow (b + 1) 70 5 (.slice a3 L c3) L (rowC (cL s) L)) := fun W b q a c a2 c2 h1 h2 h3 ho ho2 => by
    refine (lines_any hn.hs (by omega) hn.lF hn.lN hn.lL hn.eF hn.eN h1).mono ?_
    rintro e w' ⟨he, v, h4, h5, h6⟩
    obtain ⟨a3, c3, rfl⟩ := or_slice h6
    exact ⟨he, a3, c3, h4, (h5.rest q (lt_of_block h2) (by omega)).trans h2, h5.below.mono (by omega), h5.own ho (by omega), h5.own ho2 (by omega), or_mono h6 (lt_of_block h1)⟩
  clear hn hb h601 hb0
  go_enter Tryd.func12, Tryd.ntmps12
  go_wp2_with (first
    | (go_at_call 20; refine (HN.out.wh _).mono ?_; rintro _ w1 ⟨rfl, hw1⟩; have hw2 := hw1.symm; subst hw2)
    | (go_at_call 22; refine (HN.out.cF _ _ _ (by omega)).mono ?_; rintro _ w1 ⟨rfl, hw1⟩; have hw2 := hw1.symm; subst hw2)
    | (go_at_call 22; refine (HN.out.cL _ _ _ (by omega)).mono ?_; rintro _ w1 ⟨rfl, hw1⟩; have hw2 := hw1.symm; subst hw2)
    | (go_at_call 22; refine (HN.out.cN _ _ _ (by omega)).mono ?_; rintro _ w1 ⟨rfl, hw1⟩; have hw2 := hw1.symm; subst hw2)
    | (go_at_call 21; refine (HRB.out _ _ w.heap.size (lb_new' (by simp)) (lb_second rfl) (by omega)).mono ?_; rintro _ w5 ⟨rfl, a5, c5, hk5, hq5, hb5, ho5⟩; have HK5 := Lib.hid hk5; have HQ5 := Lib.hid hq5; have HO5 := Lib.hid ho5; have HB5 := Lib.hid hb5; clear hk5 hq5 ho5 hb5)
    | (go_at_call 23; refine (HCB.out _ _ w.heap.size _ _ HK5.out HQ5.out (by omega) HO5.out).mono ?_; rintro _ w6 ⟨rfl, a6, c6, hk6, hq6, hb6, ho6, hm6⟩; have HK6 := Lib.hid hk6; have HQ6 := Lib.hid hq6; have HO6 := Lib.hid ho6; have HM6 := Lib.hid hm6; have HB6 := Lib.hid hb6; clear hk6 hq6 ho6 hm6 hb6)
    | (go_at_call 24; refine (HLB.out _ _ w.heap.size _ _ _ _ HK6.out HQ6.out (by omega) HO6.out HM6.out).mono ?_; rintro _ w2 ⟨rfl, a7, c7, hk2, hq2, hb2, ho7, hm7, hl7⟩; have HO7 := Lib.hid ho7; have HM7 := Lib.hid hm7; have HL7 := Lib.hid hl7; have HB7 := Lib.hid hb2; clear ho7 hm7 hl7 hb2; have c2 := lb_at hk2 2 rfl; have c3 := lb_at hk2 3 rfl; have c4 := lb_at hk2 4 rfl; have e0 := lb_at hq2 0 rfl; have e1 := lb_at hq2 1 rfl; have e2 := lb_at hq2 2 rfl; have p0 := lb_f hq2 0; have p1 := lb_f hq2 1; have p2 := lb_f hq2 2; have HQ7 := Lib.hid hq2; clear hq2 hk2; simp only [List.getElem_toArray, List.getElem_cons_zero, List.getElem_cons_succ] at c2 c3 c4 e0 e1 e2))
  have hq3 := lb_set (lb_set (lb_set HQ7.out 0 (.slice a5 F c5)) 1 (.slice a6 N c6)) 2 (.slice a7 L c7)
  have HB3 : Hid (Below w.heap.size w (((w2.setCell ⟨w.heap.size, 0, none⟩ (.slice a5 F c5)).setCell ⟨w.heap.size, 1, none⟩ (.slice a6 N c6)).setCell ⟨w.heap.size, 2, none⟩ (.slice a7 L c7))) := ((((((((Below.refl w.heap.size w).alloc (Nat.le_refl _) O38).alloc (by rw [World.size_alloc]; omega) (O60 s)).trans HB5.out).trans HB6.out).trans HB7.out).setCell (p := ⟨w.heap.size, 0, none⟩) (Nat.le_refl _) _).setCell (p := ⟨w.heap.size, 1, none⟩) (Nat.le_refl _) _).setCell (p := ⟨w.heap.size, 2, none⟩) (Nat.le_refl _) _
  have x0 := lb_at hq3 0 rfl
  have x1 := lb_at hq3 1 rfl
  have x2 := lb_at hq3 2 rfl
  have hlt : w.heap.size < w.heap.size + 1 + 1 := by omega
  refine read_ret rfl rfl rfl x0 x1 x2 ⟨_, _, _, rfl, ?_, ?_, ?_, HB3.out⟩
  · exact or_mono (ownsRow_setCell_below (a := ⟨w.heap.size, 2, none⟩) (ownsRow_setCell_below (a := ⟨w.heap.size, 1, none⟩) (ownsRow_setCell_below (a := ⟨w.heap.size, 0, none⟩) HO7.out hlt _) hlt _) hlt _) (by omega)
  · exact or_mono (ownsRow_setCell_below (a := ⟨w.heap.size, 2, none⟩) (ownsRow_setCell_below (a := ⟨w.heap.size, 1, none⟩) (ownsRow_setCell_below (a := ⟨w.heap.size, 0, none⟩) HM7.out hlt _) hlt _) hlt _) (by omega)
  · exact or_mono (ownsRow_setCell_below (a := ⟨w.heap.size, 2, none⟩) (ownsRow_setCell_below (a := ⟨w.heap.size, 1, none⟩) (ownsRow_setCell_below (a := ⟨w.heap.size, 0, none⟩) HL7.out hlt _) hlt _) hlt _) (by omega)
theorem cread_bad {s : ByteArray} {w : World} {er at' : Nat} (hs : s.size ≤ 1073741824) (h : res s = some (er, at')) :
    Calls Tryd.prog 12 #[.string s] w fun e w' => e = .returned (.tuple #[.agg #[.slice none 0 0, .slice none 0 0, .slice none 0 0], .int .i64 er, .int .i64 at']) ∧ Below w.heap.size w w' := by
  by_cases hh : 600000 < s.size ∨ hdB s = false
  · exact cread_head hs hh h
  · have h1 : ¬ 600000 < s.size := fun h => hh (.inl h)
    have h2 : hdB s = true := by
      cases hd : hdB s with
      | true => rfl
      | false => exact absurd (.inr hd) hh
    have hn := nums_mk (by omega) h2
    cases hr : bad (rowB s) (hF s) 0 with
    | some k =>
      rw [res_row (by omega) h2 hr] at h
      injection h with h
      injection h with h3 h4
      subst h3 h4
      exact cread_row hn hr
    | none =>
      cases hq : bad (numB s) (hN s) 0 with
      | some k =>
        rw [res_num (by omega) h2 hr hq] at h
        injection h with h
        injection h with h3 h4
        subst h3 h4
        exact cread_num hn hr hq
      | none => rw [res_ok (by omega) h2 hr hq] at h; cases h
theorem cread_ok {s : ByteArray} {w : World} (h : res s = none) :
    Calls Tryd.prog 12 #[.string s] w fun e w' => ∃ vF vN vL, e = .returned (.tuple #[.agg #[vF, vN, vL], .int .i64 0, .int .i64 0]) ∧ CdAt s w' w.heap.size vF vN vL ∧ Below w.heap.size w w' := by
  obtain ⟨h1, h2, h3, h4⟩ := res_none h
  refine (cread_fine (nums_mk h1 h2) h3 h4).mono ?_
  rintro e w' ⟨vF, vN, vL, he, a, b, c, d⟩
  exact ⟨vF, vN, vL, he, ⟨a, b, c⟩, d⟩
end Go.Proofs.YtmkdoejpgkgpbaaDoor
