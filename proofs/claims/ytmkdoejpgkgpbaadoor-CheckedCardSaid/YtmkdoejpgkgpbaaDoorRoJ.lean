/- WALKS: mayRead. AID: a set in memory that changes. -/
import Derived.Test.YtmkdoejpgkgpbaaDoorRoI
set_option linter.unusedVariables false
set_option linter.unusedSimpArgs false
namespace Go.Proofs.YtmkdoejpgkgpbaaDoor
open Go.RowKit Li Ro

theorem LdAt.on {w w' : World} {b o : Nat} {c : Option Pl} (h : LdAt w b o c) (hb : Below w.heap.size w w') (hlt : b < w.heap.size) : LdAt w' b o c := fun i hi => (hb.cell (p := ⟨b, o + i, none⟩) hlt).trans (h i hi)
theorem LdAt.reg {w : World} {b o : Nat} {A A' : Pl} {arr : Array Value} {t : TypeId} (hb : w.heap[b]? = some (.cells arr t (0, 0))) (h : LdAt w b o (some A)) (he : ∀ i, 8 ≤ i → A' i = A i) : LdAt (w.setCell ⟨b, o + 1, none⟩ (.int .i64 ((mask A' 8 : Nat) : Int))) b o (some A') := fun q hq => by
  rw [lb_get hb (h 1 (by omega)), h q hq]
  by_cases e : q = 1
  · subst e; rw [if_pos rfl]; rfl
  · rw [if_neg (by omega)]
    by_cases e0 : q = 0
    · subst e0; rfl
    · simp only [cv, if_neg e0, if_neg e]
      rw [mask_congr (p := fun j => A (8 + 64 * (q - 2) + j)) (q := fun j => A' (8 + 64 * (q - 2) + j)) (fun j _ => (he _ (by omega)).symm)]
theorem LdAt.word {w : World} {b o : Nat} {A : Pl} (h : LdAt w b o (some A)) {x : Nat} (hx : x < 1024) : w.cell? ⟨b, o + 2 + x / 64, none⟩ = some (.int .u64 ((mask (fun j => A (8 + 64 * (x / 64) + j)) 64 : Nat) : Int)) := by
  rw [show o + 2 + x / 64 = o + (2 + x / 64) by omega, h (2 + x / 64) (by omega)]
  simp only [cv, if_neg (show ¬ 2 + x / 64 = 0 by omega), if_neg (show ¬ 2 + x / 64 = 1 by omega), Nat.add_sub_cancel_left]
theorem LdAt.slot {w : World} {b o x : Nat} {A A' : Pl} {arr : Array Value} {t : TypeId} (hb : w.heap[b]? = some (.cells arr t (0, 0))) (h : LdAt w b o (some A)) (hx : x < 1024) (he : ∀ i, i ≠ 8 + x → A' i = A i) : LdAt (w.setCell ⟨b, o + 2 + x / 64, none⟩ (.int .u64 ((mask (fun j => A' (8 + 64 * (x / 64) + j)) 64 : Nat) : Int))) b o (some A') := fun q hq => by
  rw [lb_get hb (h.word hx), h q hq]
  by_cases e : q = 2 + x / 64
  · subst e
    rw [if_pos (by omega)]
    simp only [cv, if_neg (show ¬ 2 + x / 64 = 0 by omega), if_neg (show ¬ 2 + x / 64 = 1 by omega), Nat.add_sub_cancel_left]
  · rw [if_neg (by omega)]
    by_cases e0 : q = 0
    · subst e0; rfl
    · by_cases e1 : q = 1
      · subst e1
        simp only [cv, if_neg (show ¬ 1 = 0 by omega), if_true]
        rw [mask_congr (p := A) (q := A') (fun j _ => (he _ (by omega)).symm)]
      · simp only [cv, if_neg e0, if_neg e1]
        rw [mask_congr (p := fun j => A (8 + 64 * (q - 2) + j)) (q := fun j => A' (8 + 64 * (q - 2) + j)) (fun j _ => (he _ (by omega)).symm)]
theorem all_bits {l : List Nat} {A : Pl} (h : ∀ x ∈ l, x < 8) : (bits BinOp.andNot IntKind.i64 ((mkR l : Nat) : Int) ((mask A 8 : Nat) : Int) == 0) = l.all A := by
  have h1 := mkR_lt l
  have h2 := mask_lt A 8
  rw [i64_andNot _ _ (by omega) (by omega), Bool.eq_iff_iff]
  have h3 := mask_sub (fun i => l.contains i) A 8 64 (by omega)
  simp only [beq_iff_eq]
  rw [show ((mkR l &&& (2 ^ 64 - 1 - mask A 8) : Nat) : Int) = 0 ↔ (mkR l &&& (2 ^ 64 - 1 - mask A 8)) = 0 by omega]
  refine h3.trans ?_
  rw [List.all_eq_true]
  exact ⟨fun h' x hx => h' x (h x hx) (by simpa using hx), fun h' i _ hi => h' i (by simpa using hi)⟩
theorem rd_lt8 {s : ByteArray} (hr : bad (rowB s) (hF s) 0 = none) {k pc : Nat} (h : Wl s k pc) (h34 : l0 s pc ≠ 3 ∧ l0 s pc ≠ 4) : ∀ x ∈ rdL s pc, x < 8 := by
  unfold rdL
  have h0 := h.f0
  have h1 := h.f1
  have h2 := h.f2
  have h3 := h.op1
  have h4 := h.op2
  generalize l0 s pc = op at *
  generalize l1 s pc = r at *
  generalize l2 s pc = x at *
  generalize l3 s pc = y at *
  intro z hz
  unfold rdO at hz
  have hc : op = 1 ∨ op = 2 ∨ op = 5 ∨ op = 6 ∨ op = 7 ∨ op = 8 ∨ op = 9 ∨ op = 10 ∨ op = 11 ∨ op = 12 ∨ op = 13 ∨ op = 14 ∨ op = 15 ∨ op = 16 ∨ op = 17 ∨ op = 18 ∨ op = 19 ∨ op = 20 ∨ op = 21 ∨ op = 22 ∨ op = 23 ∨ op = 24 ∨ op = 25 ∨ op = 26 ∨ op = 27 ∨ op = 28 ∨ op = 29 ∨ op = 30 ∨ op = 31 ∨ op = 32 ∨ op = 33 := by omega
  rcases hc with rfl | rfl | rfl | rfl | rfl | rfl | rfl | rfl | rfl | rfl | rfl | rfl | rfl | rfl | rfl | rfl | rfl | rfl | rfl | rfl | rfl | rfl | rfl | rfl | rfl | rfl | rfl | rfl | rfl | rfl | rfl
  all_goals simp [fitB, ruN, rul] at h0 h1 h2 hz
  all_goals first
    | omega
    | exact tkF_lt hr h1 z hz
set_option maxRecDepth 100000 in
set_option maxHeartbeats 1600000 in
theorem mayRead_any {s : ByteArray} {w : World} {B f first k pc b o : Nat} {A : Pl} {aF aN aL : Option Addr} {nF cFc nN cNc nL cLc : Nat} {vR : Value} {R : Bool} (hcd : CdAt s w B (.slice aF nF cFc) (.slice aN nN cNc) (.slice aL nL cLc)) (hrow : bad (rowB s) (hF s) 0 = none) (hk : k < hF s) (hf : w.heap[f]? = some (flB' (.slice aF nF cFc) (.slice aN nN cNc) (.slice aL nL cLc) first vR)) (hw : Wl s k pc) (hA : LdAt w b o (some A)) (hb : b < w.heap.size) (hR : (rdL s pc).all A = R) :
    Calls Tryd.prog 54 #[.pointer (some ⟨f, 0, none⟩), .agg #[.int .i64 (l0 s pc), .int .i64 (l1 s pc), .int .i64 (l2 s pc), .int .i64 (l3 s pc), .int .i64 (l4 s pc)], .pointer (some ⟨b, o, none⟩)] w fun e w' => e = .returned (.bool R) ∧ Below w.heap.size w w' := by
  have HB : Hid (∀ o : Obj, Below w.heap.size w (w.alloc o)) := fun o => (Below.refl _ _).alloc (Nat.le_refl _) _
  have hlt := lt_of_block hf
  by_cases h34 : l0 s pc = 3 ∨ l0 s pc = 4
  · have hx : l2 s pc < 1024 := by
      have h1 := hw.f1
      have h2 := (r1_le hrow hk).2.2.1
      have : l2 s pc < r3 s k := by rcases h34 with e | e <;> rw [e] at h1 <;> simpa [fitB, ruN, rul] using h1
      omega
    have hRx : decide (mask (fun j => A (8 + 64 * (l2 s pc / 64) + j)) 64 / 2 ^ (l2 s pc % 64) % 2 = 1) = R := by
      rw [mask_has _ (by omega), ← hR]
      have e : rdL s pc = [8 + l2 s pc] := by unfold rdL rdO; rw [if_pos h34]
      rw [e, show 8 + 64 * (l2 s pc / 64) + l2 s pc % 64 = 8 + l2 s pc by omega]
      cases hAx : A (8 + l2 s pc) <;> simp [hAx]
    have C : Hid (∀ ob : Obj, Calls Tryd.prog 61 #[.pointer (some ⟨b, o, none⟩), .int .i64 (l2 s pc)] (w.alloc ob) fun e w' => e = .returned (.bool R) ∧ w' = w.alloc ob) := fun ob => hasSlot_any hx (mask_lt _ 64) ((hA.on (HB.out ob) hb).word hx) hRx
    clear hRx hR hcd hrow hf hw hA
    generalize (l1 s pc : Int) = q1 at *
    generalize (l2 s pc : Int) = q2 at *
    generalize (l3 s pc : Int) = q3 at *
    generalize (l4 s pc : Int) = q4 at *
    rcases h34 with h34 | h34
    all_goals
      rw [h34]
      go_enter Tryd.func54, Tryd.ntmps54
      go_wp2_with (go_at_call 61; refine (C.out _).mono ?_; rintro _ w1 ⟨rfl, hw1⟩; have hw2 := hw1.symm; subst hw2)
      go_ret
      exact ⟨rfl, HB.out _⟩
  · have h3 : ((l0 s pc : Int) == 3) = false := by simp; omega
    have h4 : ((l0 s pc : Int) == 4) = false := by simp; omega
    have hbits : (bits BinOp.andNot IntKind.i64 ((mkR (rdL s pc) : Nat) : Int) ((mask A 8 : Nat) : Int) == 0) = R := by
      rw [all_bits (rd_lt8 hrow hw (by omega))]; exact hR
    have HBZ : Hid (∀ (ob : Obj) (x : Wd (w.alloc ob).heap.size (w.alloc ob)), Below w.heap.size w x.v) := fun ob x => (HB.out ob).trans (x.h.mono (by rw [World.size_alloc]; omega))
    have C : Hid (∀ (ob : Obj) (x : Wd (w.alloc ob).heap.size (w.alloc ob)), Calls Tryd.prog 62 #[.pointer (some ⟨f, 0, none⟩), .agg #[.int .i64 (l0 s pc), .int .i64 (l1 s pc), .int .i64 (l2 s pc), .int .i64 (l3 s pc), .int .i64 (l4 s pc)]] x.v fun e w' => e = .returned (.int .i64 ((mkR (rdL s pc) : Nat) : Int)) ∧ Below x.v.heap.size x.v w') := fun ob x => read_any (hcd.on (HBZ.out ob x)) hrow (lb_below hf (HBZ.out ob x) hlt) hw
    have u1 : ∀ (ob : Obj) (x : Wd (w.alloc ob).heap.size (w.alloc ob)), x.v.cell? ⟨b, o + 1, none⟩ = some (.int .i64 ((mask A 8 : Nat) : Int)) := fun ob x => hA.on (HBZ.out ob x) hb 1 (by omega)
    clear hR hcd hrow hf hw hA h34
    generalize mkR (rdL s pc) = M at *
    generalize mask A 8 = MA at *
    generalize (l0 s pc : Int) = q0 at *
    generalize (l1 s pc : Int) = q1 at *
    generalize (l2 s pc : Int) = q2 at *
    generalize (l3 s pc : Int) = q3 at *
    generalize (l4 s pc : Int) = q4 at *
    have hl1 : w.heap.size < (w.alloc (.cells #[.int .i64 q0, .int .i64 q1, .int .i64 q2, .int .i64 q3, .int .i64 q4] 70 (0, 0))).heap.size := by rw [World.size_alloc]; omega
    have v0 : ∀ z : Wd (w.alloc (.cells #[.int .i64 q0, .int .i64 q1, .int .i64 q2, .int .i64 q3, .int .i64 q4] 70 (0, 0))).heap.size (w.alloc (.cells #[.int .i64 q0, .int .i64 q1, .int .i64 q2, .int .i64 q3, .int .i64 q4] 70 (0, 0))), z.v.cell? ⟨w.heap.size, 0, none⟩ = some (.int .i64 q0) := fun z => Wd.at (lb_new w _) hl1 0 rfl z
    have v1 : ∀ z : Wd (w.alloc (.cells #[.int .i64 q0, .int .i64 q1, .int .i64 q2, .int .i64 q3, .int .i64 q4] 70 (0, 0))).heap.size (w.alloc (.cells #[.int .i64 q0, .int .i64 q1, .int .i64 q2, .int .i64 q3, .int .i64 q4] 70 (0, 0))), z.v.cell? ⟨w.heap.size, 1, none⟩ = some (.int .i64 q1) := fun z => Wd.at (lb_new w _) hl1 1 rfl z
    have v2 : ∀ z : Wd (w.alloc (.cells #[.int .i64 q0, .int .i64 q1, .int .i64 q2, .int .i64 q3, .int .i64 q4] 70 (0, 0))).heap.size (w.alloc (.cells #[.int .i64 q0, .int .i64 q1, .int .i64 q2, .int .i64 q3, .int .i64 q4] 70 (0, 0))), z.v.cell? ⟨w.heap.size, 2, none⟩ = some (.int .i64 q2) := fun z => Wd.at (lb_new w _) hl1 2 rfl z
    have v3 : ∀ z : Wd (w.alloc (.cells #[.int .i64 q0, .int .i64 q1, .int .i64 q2, .int .i64 q3, .int .i64 q4] 70 (0, 0))).heap.size (w.alloc (.cells #[.int .i64 q0, .int .i64 q1, .int .i64 q2, .int .i64 q3, .int .i64 q4] 70 (0, 0))), z.v.cell? ⟨w.heap.size, 3, none⟩ = some (.int .i64 q3) := fun z => Wd.at (lb_new w _) hl1 3 rfl z
    have v4 : ∀ z : Wd (w.alloc (.cells #[.int .i64 q0, .int .i64 q1, .int .i64 q2, .int .i64 q3, .int .i64 q4] 70 (0, 0))).heap.size (w.alloc (.cells #[.int .i64 q0, .int .i64 q1, .int .i64 q2, .int .i64 q3, .int .i64 q4] 70 (0, 0))), z.v.cell? ⟨w.heap.size, 4, none⟩ = some (.int .i64 q4) := fun z => Wd.at (lb_new w _) hl1 4 rfl z
    clear hl1
    haveI : ∀ (B : Nat) (W : World), Nonempty (Wd B W) := Wd.ne
    go_enter Tryd.func54, Tryd.ntmps54
    go_wp2_with fail
    refine wp_region_wd (by kernel_rfl) (by kernel_rfl) ?_
    repeat (go_big_quiet_step ((go_at_call 62; exact calls_wd (Nat.le_refl _) (C.out _ _))))
    refine wpQuiet_nil ?_
    intro z
    go_wp2_with fail
    go_ret
    exact ⟨rfl, HBZ.out _ z⟩
end Go.Proofs.YtmkdoejpgkgpbaaDoor
