/- WALKS: run: a register more. -/
import Derived.Test.YtmkdoejpgkgpbaaDoorRoK
set_option linter.unusedVariables false
set_option linter.unusedSimpArgs false
namespace Go.Proofs.YtmkdoejpgkgpbaaDoor
open Go.RowKit Li Ro

theorem calls_same {P : Program} {f : FuncId} {args : Array Value} {W : World} {v : Value} (h : Calls P f args W fun e w' => e = .returned v ∧ w' = W) : Calls P f args W fun e w' => e = .returned v ∧ Below W.heap.size W w' := h.mono fun _ _ ⟨a, b⟩ => ⟨a, b ▸ Below.refl _ _⟩
set_option maxRecDepth 100000 in
set_option maxHeartbeats 6400000 in
theorem run_reg {w : World} {op r x y p b o : Nat} {A : Pl} {arr : Array Value} {t : TypeId} (hb : w.heap[b]? = some (.cells arr t (0, 0))) (hA : LdAt w b o (some A)) (hop : op = 1 ∨ op = 2 ∨ op = 3 ∨ op = 7 ∨ op = 8 ∨ op = 9 ∨ op = 10 ∨ op = 11 ∨ op = 12 ∨ op = 13 ∨ op = 14 ∨ op = 15 ∨ op = 16 ∨ op = 22 ∨ op = 24 ∨ op = 26 ∨ op = 28) (hr : r < 8) :
    Calls Tryd.prog 55 #[.pointer (some ⟨b, o, none⟩), .agg #[.int .i64 op, .int .i64 r, .int .i64 x, .int .i64 y, .int .i64 p]] w fun e w' => e = .returned (.tuple #[]) ∧ LdAt w' b o (some (afO op r x A)) ∧ Ch b o w w' := by
  have HB : Hid (∀ ob : Obj, Below w.heap.size w (w.alloc ob)) := fun ob => (Below.refl _ _).alloc (Nat.le_refl _) _
  have hlt := lt_of_block hb
  have HBZ : Hid (∀ (ob : Obj) (z : Wd (w.alloc ob).heap.size (w.alloc ob)), Below w.heap.size w z.v) := fun ob z => (HB.out ob).trans (z.h.mono (by rw [World.size_alloc]; omega))
  have HV : Hid (bits BinOp.or IntKind.i64 ((mask A 8 : Nat) : Int) ((mkR [r] : Nat) : Int) = ((mask (fun i => i == r || A i) 8 : Nat) : Int)) := by
    show _ = _
    have h1 := mask_lt A 8
    have h2 := mkR_lt [r]
    rw [i64_or _ _ (by omega) (by omega)]
    unfold mkR
    rw [mask_or]
    congr 1
    apply mask_congr
    intro i hi
    rw [Bool.eq_iff_iff]; simp [or_comm]
  have HZ : Hid (∀ (ob : Obj) (z : Wd (w.alloc ob).heap.size (w.alloc ob)), LdAt (z.v.setCell ⟨b, o + 1, none⟩ (.int .i64 (bits BinOp.or IntKind.i64 ((mask A 8 : Nat) : Int) ((mkR [r] : Nat) : Int)))) b o (some fun i => i == r || A i) ∧ Ch b o w (z.v.setCell ⟨b, o + 1, none⟩ (.int .i64 (bits BinOp.or IntKind.i64 ((mask A 8 : Nat) : Int) ((mkR [r] : Nat) : Int)))) ∧ ∃ arr', (z.v.setCell ⟨b, o + 1, none⟩ (.int .i64 (bits BinOp.or IntKind.i64 ((mask A 8 : Nat) : Int) ((mkR [r] : Nat) : Int)))).heap[b]? = some (.cells arr' t (0, 0))) := fun ob z => by
    rw [HV.out]
    have hbz := lb_below hb (HBZ.out ob z) hlt
    refine ⟨LdAt.reg hbz (hA.on (HBZ.out ob z) hlt) (fun i hi => ?_), (Ch.of (HBZ.out ob z) hlt).set _ _ (by omega) (by omega), _, lb_set hbz _ _⟩
    have : ¬ i = r := by omega
    simp [this]
  have C : Hid (∀ W, Calls Tryd.prog 60 #[.int .i64 r] W fun e w' => e = .returned (.int .i64 ((mkR [r] : Nat) : Int)) ∧ Below W.heap.size W w') := fun W => calls_same (only_at hr _ rfl W)
  have k1 : ∀ (ob : Obj) (z : Wd (w.alloc ob).heap.size (w.alloc ob)), z.v.cell? ⟨b, o + 1, none⟩ = some (.int .i64 ((mask A 8 : Nat) : Int)) := fun ob z => hA.on (HBZ.out ob z) hlt 1 (by omega)
  have f1 : ∀ (ob : Obj) (z : Wd (w.alloc ob).heap.size (w.alloc ob)), z.v.frozen? ⟨b, o + 1, none⟩ = false := fun ob z => lb_f (lb_below hb (HBZ.out ob z) hlt) _
  have hl1 : ∀ ob : Obj, w.heap.size < (w.alloc ob).heap.size := fun ob => by rw [World.size_alloc]; omega
  have v1 : ∀ z : Wd (w.alloc (.cells #[.int .i64 op, .int .i64 r, .int .i64 x, .int .i64 y, .int .i64 p] 70 (0, 0))).heap.size (w.alloc (.cells #[.int .i64 op, .int .i64 r, .int .i64 x, .int .i64 y, .int .i64 p] 70 (0, 0))), z.v.cell? ⟨w.heap.size, 1, none⟩ = some (.int .i64 r) := fun z => Wd.at (lb_new w _) (hl1 _) 1 rfl z
  have v2 : ∀ z : Wd (w.alloc (.cells #[.int .i64 op, .int .i64 r, .int .i64 x, .int .i64 y, .int .i64 p] 70 (0, 0))).heap.size (w.alloc (.cells #[.int .i64 op, .int .i64 r, .int .i64 x, .int .i64 y, .int .i64 p] 70 (0, 0))), z.v.cell? ⟨w.heap.size, 2, none⟩ = some (.int .i64 x) := fun z => Wd.at (lb_new w _) (hl1 _) 2 rfl z
  have HE : Hid ((fun i => i == r || A i) = afO op r x A) := by
    show _ = _
    funext i
    rcases hop with rfl | rfl | rfl | rfl | rfl | rfl | rfl | rfl | rfl | rfl | rfl | rfl | rfl | rfl | rfl | rfl | rfl <;> simp [afO, lyO, loO]
  generalize afO op r x A = A' at *
  generalize mkR [r] = M at *
  generalize mask A 8 = MA at *
  clear hb hA hl1
  rcases hop with rfl | rfl | rfl | rfl | rfl | rfl | rfl | rfl | rfl | rfl | rfl | rfl | rfl | rfl | rfl | rfl | rfl
  all_goals
    go_enter Tryd.func55, Tryd.ntmps55
    go_wp2_with fail
    refine wp_region_tail 10 11 (by kernel_rfl) (by kernel_rfl) (by decide) ?_
    simp only [List.take_succ_cons, List.take_zero, List.drop_succ_cons, List.drop_zero]
    refine wpB_step (by decide) (by rfl) (v := ?v0) ?hv0 ?_
    case hv0 => (intro z; go_simp; all_goals with_reducible rfl)
    simp only [Act.put, List.setIfInBounds_toArray, List.set_cons_zero, List.set_cons_succ]
    refine wpB_step (by decide) (by rfl) (v := ?v1) ?hv1 ?_
    case hv1 => (intro z; go_simp; all_goals with_reducible rfl)
    simp only [Act.put, List.setIfInBounds_toArray, List.set_cons_zero, List.set_cons_succ]
    refine wpB_step (by decide) (by rfl) (v := ?v2) ?hv2 ?_
    case hv2 => (intro z; go_simp; all_goals with_reducible rfl)
    simp only [Act.put, List.setIfInBounds_toArray, List.set_cons_zero, List.set_cons_succ]
    refine wpB_step (by decide) (by rfl) (v := ?v3) ?hv3 ?_
    case hv3 => (intro z; go_simp; all_goals with_reducible rfl)
    simp only [Act.put, List.setIfInBounds_toArray, List.set_cons_zero, List.set_cons_succ]
    refine wpB_step (by decide) (by rfl) (v := ?v4) ?hv4 ?_
    case hv4 => (intro z; go_simp; all_goals with_reducible rfl)
    simp only [Act.put, List.setIfInBounds_toArray, List.set_cons_zero, List.set_cons_succ]
    refine wpB_step (by decide) (by rfl) (v := ?v5) ?hv5 ?_
    case hv5 => (intro z; go_simp; all_goals with_reducible rfl)
    simp only [Act.put, List.setIfInBounds_toArray, List.set_cons_zero, List.set_cons_succ]
    refine wpB_step (by decide) (by rfl) (v := ?v6) ?hv6 ?_
    case hv6 => (intro z; go_simp; exact C.out _)
    simp only [Act.put, List.setIfInBounds_toArray, List.set_cons_zero, List.set_cons_succ]
    refine wpB_step (by decide) (by rfl) (v := ?v7) ?hv7 ?_
    case hv7 => (intro z; go_simp; all_goals with_reducible rfl)
    simp only [Act.put, List.setIfInBounds_toArray, List.set_cons_zero, List.set_cons_succ]
    refine wpB_step (by decide) (by rfl) (v := ?v8) ?hv8 ?_
    case hv8 => (intro z; go_simp; all_goals with_reducible rfl)
    simp only [Act.put, List.setIfInBounds_toArray, List.set_cons_zero, List.set_cons_succ]
    refine wpB_step (by decide) (by rfl) (v := ?v9) ?hv9 ?_
    case hv9 => (intro z; go_simp; all_goals with_reducible rfl)
    simp only [Act.put, List.setIfInBounds_toArray, List.set_cons_zero, List.set_cons_succ]
    refine wpB_nil ?_
    intro z
    go_wp2_with fail
    go_returns
    obtain ⟨h1, h2, _⟩ := HZ.out _ z
    exact ⟨rfl, h1.congr HE.out, h2⟩
set_option maxRecDepth 100000 in
set_option maxHeartbeats 6400000 in
theorem run_ldk {w : World} {op r x y p b o : Nat} {A : Pl} {arr : Array Value} {t : TypeId} (hb : w.heap[b]? = some (.cells arr t (0, 0))) (hA : LdAt w b o (some A)) (hop : op = 4) (hr : r < 8) (hx : x < 1024) :
    Calls Tryd.prog 55 #[.pointer (some ⟨b, o, none⟩), .agg #[.int .i64 op, .int .i64 r, .int .i64 x, .int .i64 y, .int .i64 p]] w fun e w' => e = .returned (.tuple #[]) ∧ LdAt w' b o (some (afO op r x A)) ∧ Ch b o w w' := by
  have HB : Hid (∀ ob : Obj, Below w.heap.size w (w.alloc ob)) := fun ob => (Below.refl _ _).alloc (Nat.le_refl _) _
  have hlt := lt_of_block hb
  have HBZ : Hid (∀ (ob : Obj) (z : Wd (w.alloc ob).heap.size (w.alloc ob)), Below w.heap.size w z.v) := fun ob z => (HB.out ob).trans (z.h.mono (by rw [World.size_alloc]; omega))
  have HV : Hid (bits BinOp.or IntKind.i64 ((mask A 8 : Nat) : Int) ((mkR [r] : Nat) : Int) = ((mask (fun i => i == r || A i) 8 : Nat) : Int)) := by
    show _ = _
    have h1 := mask_lt A 8
    have h2 := mkR_lt [r]
    rw [i64_or _ _ (by omega) (by omega)]
    unfold mkR
    rw [mask_or]
    congr 1
    apply mask_congr
    intro i hi
    rw [Bool.eq_iff_iff]; simp [or_comm]
  have HZ : Hid (∀ (ob : Obj) (z : Wd (w.alloc ob).heap.size (w.alloc ob)), LdAt (z.v.setCell ⟨b, o + 1, none⟩ (.int .i64 (bits BinOp.or IntKind.i64 ((mask A 8 : Nat) : Int) ((mkR [r] : Nat) : Int)))) b o (some fun i => i == r || A i) ∧ Ch b o w (z.v.setCell ⟨b, o + 1, none⟩ (.int .i64 (bits BinOp.or IntKind.i64 ((mask A 8 : Nat) : Int) ((mkR [r] : Nat) : Int)))) ∧ ∃ arr', (z.v.setCell ⟨b, o + 1, none⟩ (.int .i64 (bits BinOp.or IntKind.i64 ((mask A 8 : Nat) : Int) ((mkR [r] : Nat) : Int)))).heap[b]? = some (.cells arr' t (0, 0))) := fun ob z => by
    rw [HV.out]
    have hbz := lb_below hb (HBZ.out ob z) hlt
    refine ⟨LdAt.reg hbz (hA.on (HBZ.out ob z) hlt) (fun i hi => ?_), (Ch.of (HBZ.out ob z) hlt).set _ _ (by omega) (by omega), _, lb_set hbz _ _⟩
    have : ¬ i = r := by omega
    simp [this]
  have C : Hid (∀ W, Calls Tryd.prog 60 #[.int .i64 r] W fun e w' => e = .returned (.int .i64 ((mkR [r] : Nat) : Int)) ∧ Below W.heap.size W w') := fun W => calls_same (only_at hr _ rfl W)
  have k1 : ∀ (ob : Obj) (z : Wd (w.alloc ob).heap.size (w.alloc ob)), z.v.cell? ⟨b, o + 1, none⟩ = some (.int .i64 ((mask A 8 : Nat) : Int)) := fun ob z => hA.on (HBZ.out ob z) hlt 1 (by omega)
  have f1 : ∀ (ob : Obj) (z : Wd (w.alloc ob).heap.size (w.alloc ob)), z.v.frozen? ⟨b, o + 1, none⟩ = false := fun ob z => lb_f (lb_below hb (HBZ.out ob z) hlt) _
  have hl1 : ∀ ob : Obj, w.heap.size < (w.alloc ob).heap.size := fun ob => by rw [World.size_alloc]; omega
  have v1 : ∀ z : Wd (w.alloc (.cells #[.int .i64 op, .int .i64 r, .int .i64 x, .int .i64 y, .int .i64 p] 70 (0, 0))).heap.size (w.alloc (.cells #[.int .i64 op, .int .i64 r, .int .i64 x, .int .i64 y, .int .i64 p] 70 (0, 0))), z.v.cell? ⟨w.heap.size, 1, none⟩ = some (.int .i64 r) := fun z => Wd.at (lb_new w _) (hl1 _) 1 rfl z
  have v2 : ∀ z : Wd (w.alloc (.cells #[.int .i64 op, .int .i64 r, .int .i64 x, .int .i64 y, .int .i64 p] 70 (0, 0))).heap.size (w.alloc (.cells #[.int .i64 op, .int .i64 r, .int .i64 x, .int .i64 y, .int .i64 p] 70 (0, 0))), z.v.cell? ⟨w.heap.size, 2, none⟩ = some (.int .i64 x) := fun z => Wd.at (lb_new w _) (hl1 _) 2 rfl z
  have HE : Hid (∀ i, i ≠ 8 + x → afO op r x A i = (i == r || A i)) := fun i hi => by
    have e4 : (i == 8 + x) = false := by rw [beq_eq_false_iff_ne]; exact hi
    rw [hop]; simp [afO, lyO, loO, e4]
  have HU : Hid ((mask (fun j => (8 + 64 * (x / 64) + j == r || A (8 + 64 * (x / 64) + j))) 64 &&& (18446744073709551615 - 2 ^ (x % 64))) = mask (fun j => afO op r x A (8 + 64 * (x / 64) + j)) 64) := by
    show _ = _
    rw [mask_one (show x % 64 < 64 by omega), show 18446744073709551615 = 2 ^ 64 - 1 from rfl, mask_andNot]
    apply mask_congr
    intro j hj
    rw [hop]
    have e0 : (8 + 64 * (x / 64) + j == r) = false := by rw [beq_eq_false_iff_ne]; omega
    by_cases e : j = x % 64
    · have e4 : (8 + 64 * (x / 64) + x % 64 == r) = false := by rw [beq_eq_false_iff_ne]; omega
      simp [afO, lyO, loO, e, show 8 + 64 * (x / 64) + x % 64 = 8 + x by omega]
      omega
    · have e2 : ¬ 8 + 64 * (x / 64) + j = 8 + x := by omega
      have e3 : (j == x % 64) = false := by rw [beq_eq_false_iff_ne]; exact e
      have e4 : (8 + 64 * (x / 64) + j == 8 + x) = false := by rw [beq_eq_false_iff_ne]; exact e2
      simp [afO, lyO, loO, e3, e4, e0]
  have CU : Hid (∀ (ob : Obj) (z : Wd (w.alloc ob).heap.size (w.alloc ob)), Calls Tryd.prog 63 #[.pointer (some ⟨b, o, none⟩), .int .i64 x] (z.v.setCell ⟨b, o + 1, none⟩ (.int .i64 (bits BinOp.or IntKind.i64 ((mask A 8 : Nat) : Int) ((mkR [r] : Nat) : Int)))) fun e w' => e = .returned (.tuple #[]) ∧ LdAt w' b o (some (afO op r x A)) ∧ Ch b o w w') := fun ob z => by
    obtain ⟨h1, h2, arr', h3⟩ := HZ.out ob z
    refine (unlaySlot_any hx (mask_lt _ 64) (h1.word hx) (lb_f h3 _)).mono ?_
    rintro e w' ⟨rfl, rfl⟩
    refine ⟨rfl, ?_, (h2.set _ _ (by omega) (by omega)).drew⟩
    rw [HU.out]
    exact LdAt.slot h3 h1 hx HE.out
  have HVV := Lib.hid (show ∀ (ob : Obj) (z : Wd (w.alloc ob).heap.size (w.alloc ob)) (v : Value), (z.v.setCell ⟨b, o + 1, none⟩ v).cell? ⟨w.heap.size, 2, none⟩ = z.v.cell? ⟨w.heap.size, 2, none⟩ from fun ob z v => World.cell?_of_block (w := z.v) (a := ⟨w.heap.size, 2, none⟩) (Below.heap_setCell _ _ _ _ (show w.heap.size ≠ b by omega)))
  generalize afO op r x A = A' at *
  generalize mkR [r] = M at *
  generalize mask A 8 = MA at *
  clear hb hA hl1
  rcases hop with rfl
  all_goals
    go_enter Tryd.func55, Tryd.ntmps55
    go_wp2_with fail
    refine wp_region_tail 10 11 (by kernel_rfl) (by kernel_rfl) (by decide) ?_
    simp only [List.take_succ_cons, List.take_zero, List.drop_succ_cons, List.drop_zero]
    refine wpB_step (by decide) (by rfl) (v := ?v0) ?hv0 ?_
    case hv0 => (intro z; go_simp; all_goals with_reducible rfl)
    simp only [Act.put, List.setIfInBounds_toArray, List.set_cons_zero, List.set_cons_succ]
    refine wpB_step (by decide) (by rfl) (v := ?v1) ?hv1 ?_
    case hv1 => (intro z; go_simp; all_goals with_reducible rfl)
    simp only [Act.put, List.setIfInBounds_toArray, List.set_cons_zero, List.set_cons_succ]
    refine wpB_step (by decide) (by rfl) (v := ?v2) ?hv2 ?_
    case hv2 => (intro z; go_simp; all_goals with_reducible rfl)
    simp only [Act.put, List.setIfInBounds_toArray, List.set_cons_zero, List.set_cons_succ]
    refine wpB_step (by decide) (by rfl) (v := ?v3) ?hv3 ?_
    case hv3 => (intro z; go_simp; all_goals with_reducible rfl)
    simp only [Act.put, List.setIfInBounds_toArray, List.set_cons_zero, List.set_cons_succ]
    refine wpB_step (by decide) (by rfl) (v := ?v4) ?hv4 ?_
    case hv4 => (intro z; go_simp; all_goals with_reducible rfl)
    simp only [Act.put, List.setIfInBounds_toArray, List.set_cons_zero, List.set_cons_succ]
    refine wpB_step (by decide) (by rfl) (v := ?v5) ?hv5 ?_
    case hv5 => (intro z; go_simp; all_goals with_reducible rfl)
    simp only [Act.put, List.setIfInBounds_toArray, List.set_cons_zero, List.set_cons_succ]
    refine wpB_step (by decide) (by rfl) (v := ?v6) ?hv6 ?_
    case hv6 => (intro z; go_simp; exact C.out _)
    simp only [Act.put, List.setIfInBounds_toArray, List.set_cons_zero, List.set_cons_succ]
    refine wpB_step (by decide) (by rfl) (v := ?v7) ?hv7 ?_
    case hv7 => (intro z; go_simp; all_goals with_reducible rfl)
    simp only [Act.put, List.setIfInBounds_toArray, List.set_cons_zero, List.set_cons_succ]
    refine wpB_step (by decide) (by rfl) (v := ?v8) ?hv8 ?_
    case hv8 => (intro z; go_simp; all_goals with_reducible rfl)
    simp only [Act.put, List.setIfInBounds_toArray, List.set_cons_zero, List.set_cons_succ]
    refine wpB_step (by decide) (by rfl) (v := ?v9) ?hv9 ?_
    case hv9 => (intro z; go_simp; all_goals with_reducible rfl)
    simp only [Act.put, List.setIfInBounds_toArray, List.set_cons_zero, List.set_cons_succ]
    refine wpB_nil ?_
    intro z
    have hvv := HVV.out _ z
    go_wp2_with (go_at_call 63; refine (CU.out _ z).mono ?_; rintro _ w1 ⟨rfl, hA1, hC1⟩)
    go_returns
    exact ⟨rfl, hA1, hC1⟩
/-- what a line that is well made lays -/
theorem run_any {s : ByteArray} {w : World} {k pc b o : Nat} {A : Pl} {arr : Array Value} {t : TypeId} (hrow : bad (rowB s) (hF s) 0 = none) (hk : k < hF s) (hw : Wl s k pc) (hb : w.heap[b]? = some (.cells arr t (0, 0))) (hA : LdAt w b o (some A)) :
    Calls Tryd.prog 55 #[.pointer (some ⟨b, o, none⟩), .agg #[.int .i64 (l0 s pc), .int .i64 (l1 s pc), .int .i64 (l2 s pc), .int .i64 (l3 s pc), .int .i64 (l4 s pc)]] w fun e w' => e = .returned (.tuple #[]) ∧ LdAt w' b o (some (afO (l0 s pc) (l1 s pc) (l2 s pc) A)) ∧ Ch b o w w' := by
  have h0 := hw.f0
  have h1 := hw.f1
  have h3 := hw.op1
  have h4 := hw.op2
  have h5 := (r1_le hrow hk).2.2.1
  generalize l0 s pc = op at *
  generalize l1 s pc = r at *
  generalize l2 s pc = x at *
  generalize l3 s pc = y at *
  generalize l4 s pc = p at *
  by_cases g0 : op = 17 ∨ op = 18 ∨ op = 21 ∨ op = 25 ∨ op = 27 ∨ op = 31 ∨ op = 32 ∨ op = 33
  · exact run_none hb hA g0
  by_cases g1 : op = 5
  · exact run_sts hb hA g1 (by subst g1; have : x < r3 s k := by simpa [fitB, ruN, rul] using h1
                               omega)
  by_cases g2 : op = 6
  · exact run_clr hb hA g2 (by subst g2; have : x < r3 s k := by simpa [fitB, ruN, rul] using h1
                               omega)
  by_cases g3 : op = 19 ∨ op = 20 ∨ op = 23
  · exact run_alone hb hA g3 (by rcases g3 with rfl | rfl | rfl <;> simpa [fitB, ruN, rul] using h0)
  by_cases g4 : op = 29 ∨ op = 30
  · exact run_call hb hA g4
  by_cases g5 : op = 4
  · exact run_ldk hb hA g5 (by subst g5; simpa [fitB, ruN, rul] using h0) (by subst g5; have : x < r3 s k := by simpa [fitB, ruN, rul] using h1
                                                                              omega)
  · have g6 : op = 1 ∨ op = 2 ∨ op = 3 ∨ op = 7 ∨ op = 8 ∨ op = 9 ∨ op = 10 ∨ op = 11 ∨ op = 12 ∨ op = 13 ∨ op = 14 ∨ op = 15 ∨ op = 16 ∨ op = 22 ∨ op = 24 ∨ op = 26 ∨ op = 28 := by omega
    exact run_reg hb hA g6 (by rcases g6 with rfl | rfl | rfl | rfl | rfl | rfl | rfl | rfl | rfl | rfl | rfl | rfl | rfl | rfl | rfl | rfl | rfl <;> simpa [fitB, ruN, rul] using h0)
end Go.Proofs.YtmkdoejpgkgpbaaDoor
