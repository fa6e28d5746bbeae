/- WALKS: arrive, leave. -/
import Derived.Test.YtmkdoejpgkgpbaaDoorRoL
set_option linter.unusedVariables false
set_option linter.unusedSimpArgs false
namespace Go.Proofs.YtmkdoejpgkgpbaaDoor
open Go.RowKit Li Ro

theorem meet_any {w : World} {b o b2 o2 : Nat} {c : Option Pl} {A : Pl} {arr : Array Value} {t : TypeId} (hb : w.heap[b]? = some (.cells arr t (0, 0))) (hb2 : b2 < w.heap.size) (hne : b2 ≠ b ∨ o2 + 18 ≤ o) (h1 : LdAt w b o c) (h2 : LdAt w b2 o2 (some A)) :
    Calls Tryd.prog 58 #[.pointer (some ⟨b, o, none⟩), .pointer (some ⟨b2, o2, none⟩)] w fun e w' => e = .returned (.tuple #[]) ∧ LdAt w' b o (Ro.meet c A) ∧ Ch b o w w' := by
  cases c with
  | none => exact meet_none hb h1 h2
  | some B => exact Go.Proofs.YtmkdoejpgkgpbaaDoor.meet_some hb hb2 hne h1 h2
set_option maxRecDepth 100000 in
set_option maxHeartbeats 1600000 in
theorem arrive_any {w : World} {f g first j cnt b2 o2 : Nat} {vF vN vL : Value} {c : Option Pl} {A : Pl} {arr : Array Value} {t : TypeId} (hf : w.heap[f]? = some (flB' vF vN vL first (.slice (some ⟨g, 0, none⟩) cnt cnt))) (hb : w.heap[g]? = some (.cells arr t (0, 0))) (hj : j < cnt) (hcn : cnt ≤ 70000) (hfi : first ≤ 70000) (hb2 : b2 < w.heap.size) (hne : b2 ≠ g ∨ o2 + 18 ≤ j * 18) (h1 : LdAt w g (j * 18) c) (h2 : LdAt w b2 o2 (some A)) (z : Int) (hz : z = ((first + j : Nat) : Int)) :
    Calls Tryd.prog 52 #[.pointer (some ⟨f, 0, none⟩), .int .i64 z, .pointer (some ⟨b2, o2, none⟩)] w fun e w' => e = .returned (.tuple #[]) ∧ LdAt w' g (j * 18) (Ro.meet c A) ∧ Ch g (j * 18) w w' := by
  have C : Hid (Calls Tryd.prog 58 #[.pointer (some ⟨g, j * 18, none⟩), .pointer (some ⟨b2, o2, none⟩)] w fun e w' => e = .returned (.tuple #[]) ∧ LdAt w' g (j * 18) (Ro.meet c A) ∧ Ch g (j * 18) w w') := meet_any hb hb2 hne h1 h2
  have c3 := lb_at hf 3 rfl
  have c4 := lb_at hf 4 rfl
  simp only [List.getElem_toArray, List.getElem_cons_zero, List.getElem_cons_succ] at c3 c4
  have hz2 : z - (first : Int) = (j : Int) := by omega
  have hz3 : IntKind.i64.wrap (z - (first : Int)) = (j : Int) := by rw [hz2, IntKind.wrap_i64]; omega
  have g1 : (j : Int) < (cnt : Int) := by omega
  have g2 : z ≤ 200000 := by omega
  have g3 : 0 ≤ z := by omega
  clear hf hb h1 h2 hz
  go_enter Tryd.func52, Tryd.ntmps52
  go_wp2_with (go_at_call 58; refine C.out.mono ?_; rintro _ w1 ⟨rfl, hA1, hC1⟩)
  go_returns
  exact ⟨rfl, hA1, hC1⟩
/-- of the blocks that were there g alone has changed, and is cells still -/
structure Lg (g : Nat) (w w' : World) : Prop where
  lone : Lone g w w'
  blk : ∀ arr t, w.heap[g]? = some (.cells arr t (0, 0)) → ∃ arr', w'.heap[g]? = some (.cells arr' t (0, 0))
theorem Ch.lg {b o : Nat} {w w' : World} (h : Ch b o w w') : Lg b w w' := ⟨h.lone, fun arr t hb => by obtain ⟨a, h1, _⟩ := h.blk arr t hb; exact ⟨a, h1⟩⟩
theorem Lg.refl (g : Nat) (w : World) : Lg g w w := ⟨Lone.refl _ _, fun arr t h => ⟨arr, h⟩⟩
theorem Lg.trans {g : Nat} {w w1 w2 : World} (h : Lg g w w1) (h2 : Lg g w1 w2) : Lg g w w2 := ⟨h.lone.trans h2.lone, fun arr t hb => by obtain ⟨a, h3⟩ := h.blk arr t hb; exact h2.blk a t h3⟩
theorem Lg.of {g : Nat} {w w1 : World} (h : Below w.heap.size w w1) (hb : g < w.heap.size) : Lg g w w1 := ⟨Lone.of h (Nat.le_of_lt hb), fun arr t he => ⟨arr, lb_below he h hb⟩⟩
/-- the roads from line i on -/
def RoadS (w : World) (g cnt i : Nat) (S : Nat → Option Pl) : Prop := ∀ j, i ≤ j → j < cnt → LdAt w g (j * 18) (S j)
theorem RoadS.arr {w w' : World} {g cnt i j : Nat} {S : Nat → Option Pl} {A : Pl} {ar : Array Value} {t : TypeId} (hb : w.heap[g]? = some (.cells ar t (0, 0))) (h : RoadS w g cnt i S) (hc : Ch g (j * 18) w w') (h1 : LdAt w' g (j * 18) (Ro.meet (S j) A)) : RoadS w' g cnt i (Ro.arr S j A) := fun n hn hnc => by
  by_cases e : n = j
  · subst e; rw [Ro.arr_eq]; exact h1
  · rw [Ro.arr_ne e]
    exact fun q hq => (hc.cell hb (lt_of_block hb) (.inr (by omega))).trans (h n hn hnc q hq)
theorem LdAt.keep {w w' : World} {g n j : Nat} {c : Option Pl} {ar : Array Value} {t : TypeId} (hb : w.heap[g]? = some (.cells ar t (0, 0))) (h : LdAt w g (n * 18) c) (hc : Ch g (j * 18) w w') (e : n ≠ j) : LdAt w' g (n * 18) c := fun q hq => (hc.cell hb (lt_of_block hb) (.inr (by omega))).trans (h q hq)
set_option maxRecDepth 100000 in
set_option maxHeartbeats 1600000 in
theorem leave_any {s : ByteArray} {w : World} {f g k i cnt : Nat} {vF vN vL : Value} {S : Nat → Option Pl} {A : Pl} {arr : Array Value} {t : TypeId} (hcnt : cnt = en s k - r0 s k) (hi : i < cnt) (hen : en s k ≤ 65536) (hw : Wl s k (r0 s k + i)) (hfg : f ≠ g)
    (hf : w.heap[f]? = some (flB' vF vN vL (r0 s k) (.slice (some ⟨g, 0, none⟩) cnt cnt))) (hb : w.heap[g]? = some (.cells arr t (0, 0))) (hA : LdAt w g (i * 18) (some A)) (hS : RoadS w g cnt (i + 1) S) :
    Calls Tryd.prog 56 #[.pointer (some ⟨f, 0, none⟩), .int .i64 ((r0 s k + i : Nat) : Int), .agg #[.int .i64 (l0 s (r0 s k + i)), .int .i64 (l1 s (r0 s k + i)), .int .i64 (l2 s (r0 s k + i)), .int .i64 (l3 s (r0 s k + i)), .int .i64 (l4 s (r0 s k + i))], .pointer (some ⟨g, i * 18, none⟩)] w fun e w' => e = .returned (.tuple #[]) ∧ RoadS w' g cnt (i + 1) ((fnS s k).leave i A S) ∧ Lg g w w' := by
  have hflt := lt_of_block hf
  have hglt := lt_of_block hb
  have HB : Hid (∀ ob : Obj, Below w.heap.size w (w.alloc ob)) := fun ob => (Below.refl _ _).alloc (Nat.le_refl _) _
  obtain ⟨jm, hjm⟩ : ∃ jm, jmB (l0 s (r0 s k + i)) = jm := ⟨_, rfl⟩
  obtain ⟨go, hgo⟩ : ∃ go, (!overB (l0 s (r0 s k + i))) = go := ⟨_, rfl⟩
  have hJ : (fnS s k).jmp i = jm := by
    show (decide (i < en s k - r0 s k) && jmB (l0 s (r0 s k + i))) = jm
    rw [decide_eq_true (by omega), Bool.true_and, hjm]
  have hG : (fnS s k).goes i = go := hgo
  have hT : (fnS s k).tgt i = l2 s (r0 s k + i) - r0 s k := rfl
  have hjt : jm = true → r0 s k + i < l2 s (r0 s k + i) ∧ l2 s (r0 s k + i) < en s k := fun h => hw.jump (by rw [hjm, h])
  have hgt : go = true → i + 1 < cnt := fun h => by
    rcases hw.on with h1 | h1
    · rw [h1] at hgo; rw [← hgo] at h; cases h
    · omega
  have CG : Hid (∀ W : World, Calls Tryd.prog 50 #[.int .i64 (l0 s (r0 s k + i))] W fun e w' => e = .returned (.bool go) ∧ w' = W) := fun W => by rw [← hgo]; exact goesOn_any
  -- one road more
  have CA : Hid (∀ (W : World) (S' : Nat → Option Pl) (j : Nat) (z : Int), Lg g w W → RoadS W g cnt (i + 1) S' → LdAt W g (i * 18) (some A) → i < j → j < cnt → z = ((r0 s k + j : Nat) : Int) → Calls Tryd.prog 52 #[.pointer (some ⟨f, 0, none⟩), .int .i64 z, .pointer (some ⟨g, i * 18, none⟩)] W fun e w' => e = .returned (.tuple #[]) ∧ RoadS w' g cnt (i + 1) (Ro.arr S' j A) ∧ LdAt w' g (i * 18) (some A) ∧ Lg g W w') := fun W S' j z hW hS' hA' hij hjc hz => by
    obtain ⟨arr', hb'⟩ := hW.blk arr t hb
    have hs := hW.lone.size
    refine (arrive_any ((hW.lone.rest f hflt hfg).trans hf) hb' hjc (by omega) (by omega) (by omega) (.inr (by omega)) (hS' j (by omega) hjc) hA' z hz).mono ?_
    rintro e w' ⟨rfl, h1, h2⟩
    exact ⟨rfl, hS'.arr hb' h2 h1, hA'.keep hb' h2 (by omega), h2.lg⟩
  have H0 : Hid (∀ ob : Obj, Lg g w (w.alloc ob) ∧ RoadS (w.alloc ob) g cnt (i + 1) S ∧ LdAt (w.alloc ob) g (i * 18) (some A)) := fun ob => ⟨Lg.of (HB.out ob) hglt, fun j h1 h2 => (hS j h1 h2).on (HB.out ob) hglt, hA.on (HB.out ob) hglt⟩
  obtain ⟨x, hx⟩ : ∃ x, l2 s (r0 s k + i) = x := ⟨_, rfl⟩
  obtain ⟨op, hop⟩ : ∃ op, l0 s (r0 s k + i) = op := ⟨_, rfl⟩
  rw [hx] at hT hjt
  rw [hx, hop]
  rw [hop] at CG hjm
  unfold jmB at hjm
  clear hf hb hA hS hw hgo hx hop
  generalize (l1 s (r0 s k + i) : Int) = q1 at *
  generalize (l3 s (r0 s k + i) : Int) = q3 at *
  generalize (l4 s (r0 s k + i) : Int) = q4 at *
  have hr0 : r0 s k < 65536 := n2_lt _ _
  cases jm with
  | true =>
    obtain ⟨hj1, hj2⟩ := hjt rfl
    have hjm2 : op = 17 ∨ op = 18 := by simpa using hjm
    cases go with
    | true =>
      have hg2 := hgt rfl
      have HF : Hid ((fnS s k).leave i A S = Ro.arr (Ro.arr S (x - r0 s k) A) (i + 1) A) := by show _ = _; rw [leave_jg hJ hG, hT]
      rw [HF.out]
      clear HF hJ hG hT hjt hgt hjm
      rcases hjm2 with rfl | rfl
      all_goals
        go_enter Tryd.func56, Tryd.ntmps56
        go_wp2_with (first
          | (go_at_call_of 52 x; refine (CA.out _ S (x - r0 s k) _ (H0.out _).1 (H0.out _).2.1 (H0.out _).2.2 (by omega) (by omega) (by omega)).mono ?_; rintro _ w1 ⟨rfl, hS1, hA1, hL1⟩; have kb := (hL1.lone.rest w.heap.size (by rw [World.size_alloc]; omega) (by omega)).trans (lb_new w _); have c0 := lb_at kb 0 rfl; simp only [List.getElem_toArray, List.getElem_cons_zero, List.getElem_cons_succ] at c0)
          | (go_at_call 52; refine (CA.out _ _ (i + 1) _ ((H0.out _).1.trans hL1) hS1 hA1 (by omega) (by omega) (by omega)).mono ?_; rintro _ w2 ⟨rfl, hS2, hA2, hL2⟩)
          | (go_at_call 50; refine (CG.out _).mono ?_; rintro _ w3 ⟨rfl, hw3⟩; have hw4 := hw3.symm; subst hw4))
        go_returns
        exact ⟨rfl, hS2, ((H0.out _).1.trans hL1).trans hL2⟩
    | false =>
      have HF : Hid ((fnS s k).leave i A S = Ro.arr S (x - r0 s k) A) := by show _ = _; rw [leave_j hJ hG, hT]
      rw [HF.out]
      clear HF hJ hG hT hjt hgt hjm
      rcases hjm2 with rfl | rfl
      all_goals
        go_enter Tryd.func56, Tryd.ntmps56
        go_wp2_with (first
          | (go_at_call_of 52 x; refine (CA.out _ S (x - r0 s k) _ (H0.out _).1 (H0.out _).2.1 (H0.out _).2.2 (by omega) (by omega) (by omega)).mono ?_; rintro _ w1 ⟨rfl, hS1, hA1, hL1⟩; have kb := (hL1.lone.rest w.heap.size (by rw [World.size_alloc]; omega) (by omega)).trans (lb_new w _); have c0 := lb_at kb 0 rfl; simp only [List.getElem_toArray, List.getElem_cons_zero, List.getElem_cons_succ] at c0)
          | (go_at_call 50; refine (CG.out _).mono ?_; rintro _ w3 ⟨rfl, hw3⟩; have hw4 := hw3.symm; subst hw4))
        go_returns
        exact ⟨rfl, hS1, (H0.out _).1.trans hL1⟩
  | false =>
    have e17 : ((op : Int) == 17) = false := by simp at hjm ⊢; omega
    have e18 : ((op : Int) == 18) = false := by simp at hjm ⊢; omega
    cases go with
    | true =>
      have hg2 := hgt rfl
      have HF : Hid ((fnS s k).leave i A S = Ro.arr S (i + 1) A) := by show _ = _; rw [leave_g hJ hG]
      rw [HF.out]
      clear HF hJ hG hT hjt hgt hjm
      go_enter Tryd.func56, Tryd.ntmps56
      go_wp2_with (first
        | (go_at_call 52; refine (CA.out _ S (i + 1) _ (H0.out _).1 (H0.out _).2.1 (H0.out _).2.2 (by omega) (by omega) (by omega)).mono ?_; rintro _ w2 ⟨rfl, hS2, hA2, hL2⟩)
        | (go_at_call 50; refine (CG.out _).mono ?_; rintro _ w3 ⟨rfl, hw3⟩; have hw4 := hw3.symm; subst hw4))
      go_returns
      exact ⟨rfl, hS2, (H0.out _).1.trans hL2⟩
    | false =>
      have HF : Hid ((fnS s k).leave i A S = S) := by show _ = _; rw [leave_n hJ hG]
      rw [HF.out]
      clear HF hJ hG hT hjt hgt hjm
      go_enter Tryd.func56, Tryd.ntmps56
      go_wp2_with (go_at_call 50; refine (CG.out _).mono ?_; rintro _ w3 ⟨rfl, hw3⟩; have hw4 := hw3.symm; subst hw4)
      go_returns
      exact ⟨rfl, (H0.out _).2.1, (H0.out _).1⟩
end Go.Proofs.YtmkdoejpgkgpbaaDoor
