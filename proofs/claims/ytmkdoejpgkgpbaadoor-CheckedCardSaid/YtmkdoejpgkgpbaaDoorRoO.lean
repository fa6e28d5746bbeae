/- WALKS: begin. -/
import Derived.Test.YtmkdoejpgkgpbaaDoorRoN
set_option linter.unusedVariables false
set_option linter.unusedSimpArgs false
namespace Go.Proofs.YtmkdoejpgkgpbaaDoor
open Go.RowKit Li Ro

theorem Tryd.infM : (Tryd.prog.info? 105).map (fun i => (i.zero, i.size, i.bytes)) = some (some (.agg #[.bool false, .int .i64 0, .int .u64 0, .int .u64 0, .int .u64 0, .int .u64 0, .int .u64 0, .int .u64 0, .int .u64 0, .int .u64 0, .int .u64 0, .int .u64 0, .int .u64 0, .int .u64 0, .int .u64 0, .int .u64 0, .int .u64 0, .int .u64 0]), 18, 144) := by kernel_rfl
theorem Tryd.undM : Tryd.prog.underlying 96 = some (.slice 105) := by kernel_rfl
def mdC (n : Nat) : Array Value := madeCells #[.bool false, .int .i64 0, .int .u64 0, .int .u64 0, .int .u64 0, .int .u64 0, .int .u64 0, .int .u64 0, .int .u64 0, .int .u64 0, .int .u64 0, .int .u64 0, .int .u64 0, .int .u64 0, .int .u64 0, .int .u64 0, .int .u64 0, .int .u64 0] (n * 18)
theorem mdC_at {n j q : Nat} (hj : j < n) (hq : q < 18) : (mdC n)[j * 18 + q]? = some (cv none q) := by
  unfold mdC madeCells
  have h1 : j * 18 + q < n * 18 := by omega
  have h2 : (j * 18 + q) % 18 = q := by omega
  simp only [Array.getElem?_map, Array.getElem?_range, h1, if_true, Option.map_some]
  rw [show (#[.bool false, .int .i64 0, .int .u64 0, .int .u64 0, .int .u64 0, .int .u64 0, .int .u64 0, .int .u64 0, .int .u64 0, .int .u64 0, .int .u64 0, .int .u64 0, .int .u64 0, .int .u64 0, .int .u64 0, .int .u64 0, .int .u64 0, .int .u64 0] : Array Value).size = 18 from rfl, h2]
  have hc : q = 0 ∨ q = 1 ∨ q = 2 ∨ q = 3 ∨ q = 4 ∨ q = 5 ∨ q = 6 ∨ q = 7 ∨ q = 8 ∨ q = 9 ∨ q = 10 ∨ q = 11 ∨ q = 12 ∨ q = 13 ∨ q = 14 ∨ q = 15 ∨ q = 16 ∨ q = 17 := by omega
  rcases hc with rfl | rfl | rfl | rfl | rfl | rfl | rfl | rfl | rfl | rfl | rfl | rfl | rfl | rfl | rfl | rfl | rfl | rfl <;> rfl
theorem make_laid (n : Nat) (hn : n ≤ 70000) (w : World) : (Instr.makeSlice 96 (.int .i64 (n : Int)) (.int .i64 (n : Int))).run Tryd.prog w = .ok (.slice (some ⟨w.heap.size, 0, none⟩) n n) (w.alloc (.cells (mdC n) 105)) := by
  obtain ⟨i, hi, hzz⟩ := Option.map_eq_some_iff.1 Tryd.infM
  simp only [Prod.mk.injEq] at hzz
  obtain ⟨hz, hs, hb⟩ := hzz
  have hr := run_make (P := Tryd.prog) w 96 105 i _ Tryd.undM hi hz .i64 .i64 n n (by omega) (Int.le_refl _) (by rw [hb]; omega) (by omega)
  rw [hs] at hr
  simp only [Int.toNat_natCast] at hr
  exact hr
theorem init_at (s : ByteArray) (k : Nat) (hr : ∀ x ∈ tkF s k, x < 8) : ∀ q, q < 18 → (#[.bool true, .int .i64 ((mkR (tkL (r1 s k) (r2 s k)) : Nat) : Int), .int .u64 0, .int .u64 0, .int .u64 0, .int .u64 0, .int .u64 0, .int .u64 0, .int .u64 0, .int .u64 0, .int .u64 0, .int .u64 0, .int .u64 0, .int .u64 0, .int .u64 0, .int .u64 0, .int .u64 0, .int .u64 0] : Array Value)[q]? = some (cv (some (fnS s k).init) q) := by
  intro q hq
  have h0 : ∀ n, mask (fun j => (fnS s k).init (8 + 64 * n + j)) 64 = 0 := fun n => by
    rw [← mask_none 64]
    apply mask_congr
    intro j _
    show (tkF s k).contains (8 + 64 * n + j) = false
    rw [List.contains_eq_any_beq, List.any_eq_false]
    intro x hx
    have := hr x hx
    simp; omega
  have h1 : mask (fnS s k).init 8 = mkR (tkL (r1 s k) (r2 s k)) := rfl
  by_cases e0 : q = 0
  · subst e0; rfl
  · by_cases e1 : q = 1
    · subst e1; rfl
    · have hc : cv (some (fnS s k).init) q = .int .u64 0 := by
        simp only [cv, if_neg e0, if_neg e1]
        rw [h0]; rfl
      rw [hc]
      have hq2 : q = 2 ∨ q = 3 ∨ q = 4 ∨ q = 5 ∨ q = 6 ∨ q = 7 ∨ q = 8 ∨ q = 9 ∨ q = 10 ∨ q = 11 ∨ q = 12 ∨ q = 13 ∨ q = 14 ∨ q = 15 ∨ q = 16 ∨ q = 17 := by omega
      rcases hq2 with rfl | rfl | rfl | rfl | rfl | rfl | rfl | rfl | rfl | rfl | rfl | rfl | rfl | rfl | rfl | rfl <;> rfl
theorem meet_none_init (A : Pl) : Ro.meet none A = some A := rfl
set_option maxRecDepth 100000 in
set_option maxHeartbeats 1600000 in
theorem begin_any {s : ByteArray} {w : World} {B k : Nat} {aF aN aL : Option Addr} {nF cFc nN cNc nL cLc : Nat} (hcd : CdAt s w B (.slice aF nF cFc) (.slice aN nN cNc) (.slice aL nL cLc)) (hrow : bad (rowB s) (hF s) 0 = none) (hk : k < hF s) :
    Calls Tryd.prog 44 #[.agg #[.slice aF nF cFc, .slice aN nN cNc, .slice aL nL cLc], .int .i64 k] w fun e w' => ∃ (f g : Nat) (arr : Array Value), e = .returned (.pointer (some ⟨f, 0, none⟩)) ∧ w.heap.size ≤ f ∧ w.heap.size ≤ g ∧ f ≠ g ∧ w'.heap[f]? = some (flB' (.slice aF nF cFc) (.slice aN nN cNc) (.slice aL nL cLc) (r0 s k) (.slice (some ⟨g, 0, none⟩) (en s k - r0 s k) (en s k - r0 s k))) ∧ w'.heap[g]? = some (.cells arr 105 (0, 0)) ∧ RoadS w' g (en s k - r0 s k) 0 ((fnS s k).st 0) ∧ Below w.heap.size w w' := by
  obtain ⟨he1, he2⟩ := en_lt hrow hk
  have hLl : hL s < 65536 := n2_lt _ _
  have hr0 : r0 s k < 65536 := n2_lt _ _
  obtain ⟨hr1, hr2, hr3, hr4⟩ := r1_le hrow hk
  have HIN := Lib.hid (init_at s k (tkF_lt hrow hk))
  have HB : Hid (∀ o : Obj, Below w.heap.size w (w.alloc o)) := fun o => (Below.refl _ _).alloc (Nat.le_refl _) _
  have CF : Hid (∀ W, Below w.heap.size w W → Calls Tryd.prog 41 #[.agg #[.slice aF nF cFc, .slice aN nN cNc, .slice aL nL cLc], .int .i64 k] W fun e w' => e = .returned (.agg #[.int .i64 (r0 s k), .int .i64 (r1 s k), .int .i64 (r2 s k), .int .i64 (r3 s k)]) ∧ Below W.heap.size W w') := fun W hW => fn_at hcd hk W hW
  have CE : Hid (∀ W, Below w.heap.size w W → Calls Tryd.prog 42 #[.agg #[.slice aF nF cFc, .slice aN nN cNc, .slice aL nL cLc], .int .i64 k] W fun e w' => e = .returned (.int .i64 (en s k)) ∧ Below W.heap.size W w') := fun W hW => end_any (hcd.on hW) hk
  have CN : Hid (∀ W, Calls Tryd.prog 53 #[.agg #[.int .i64 (r0 s k), .int .i64 (r1 s k), .int .i64 (r2 s k), .int .i64 (r3 s k)]] W fun e w' => e = .returned (.int .i64 ((mkR (tkL (r1 s k) (r2 s k)) : Nat) : Int)) ∧ Below W.heap.size W w') := fun W => entry_any hr1
  clear hcd hrow
  go_enter Tryd.func44, Tryd.ntmps44
  go_wp2_with (go_at_call 41; refine (CF.out _ (HB.out _)).mono ?_; rintro _ w1 ⟨rfl, hb1⟩; have hs1 := Nat.le_trans (by rw [World.size_alloc]; omega : w.heap.size + 1 ≤ (w.alloc _).heap.size) hb1.size; have hbox := lb_below (lb_new w _) hb1 (by rw [World.size_alloc]; omega); have HBX := Lib.hid hbox; have k0 : ∀ o : Obj, (w1.alloc o).cell? ⟨w.heap.size, 0, none⟩ = some (.slice aF nF cFc) := lb_past hbox 0 rfl; have k1 : ∀ o : Obj, (w1.alloc o).cell? ⟨w.heap.size, 1, none⟩ = some (.slice aN nN cNc) := lb_past hbox 1 rfl; have k2 : ∀ o : Obj, (w1.alloc o).cell? ⟨w.heap.size, 2, none⟩ = some (.slice aL nL cLc) := lb_past hbox 2 rfl; have HBW1 := Lib.hid ((HB.out _).trans (hb1.mono (by rw [World.size_alloc]; omega))); clear hbox)
  obtain ⟨W2, hW2⟩ : ∃ W2, W2 = (w1.alloc (Obj.cells #[.int .i64 (r0 s k), .int .i64 (r1 s k), .int .i64 (r2 s k), .int .i64 (r3 s k)] 67 (0, 0))).alloc (flB' (.slice aF nF cFc) (.slice aN nN cNc) (.slice aL nL cLc) (r0 s k) (.slice none 0 0)) := ⟨_, rfl⟩
  have hz2 : W2.heap.size = w1.heap.size + 2 := by rw [hW2, World.size_alloc, World.size_alloc]
  have hrow2 : W2.heap[w1.heap.size]? = some (Obj.cells #[.int .i64 (r0 s k), .int .i64 (r1 s k), .int .i64 (r2 s k), .int .i64 (r3 s k)] 67 (0, 0)) := by rw [hW2]; exact (Below.heap_alloc _ _ _ (by rw [World.size_alloc]; omega)).trans (lb_new w1 _)
  have hfl2 : W2.heap[w1.heap.size + 1]? = some (flB' (.slice aF nF cFc) (.slice aN nN cNc) (.slice aL nL cLc) (r0 s k) (.slice none 0 0)) := by
    rw [hW2]
    have := lb_new (w1.alloc (Obj.cells #[.int .i64 (r0 s k), .int .i64 (r1 s k), .int .i64 (r2 s k), .int .i64 (r3 s k)] 67 (0, 0))) (flB' (.slice aF nF cFc) (.slice aN nN cNc) (.slice aL nL cLc) (r0 s k) (.slice none 0 0))
    rw [World.size_alloc] at this
    exact this
  have hbox2 : W2.heap[w.heap.size]? = some (.cells #[.slice aF nF cFc, .slice aN nN cNc, .slice aL nL cLc] 38 (0, 0)) := by rw [hW2]; exact (Below.heap_alloc _ _ _ (by rw [World.size_alloc]; omega)).trans ((Below.heap_alloc _ _ _ (by omega)).trans HBX.out)
  have hbw2 : Below w.heap.size w W2 := by rw [hW2]; exact ((HBW1.out).alloc (by omega) _).alloc (by rw [World.size_alloc]; omega) _
  show Code.wp _ _ _ _ ((w1.alloc (Obj.cells #[.int .i64 (r0 s k), .int .i64 (r1 s k), .int .i64 (r2 s k), .int .i64 (r3 s k)] 67 (0, 0))).alloc (flB' (.slice aF nF cFc) (.slice aN nN cNc) (.slice aL nL cLc) (r0 s k) (.slice none 0 0)))
  rw [← hW2]
  have u0 : ∀ x : Wd W2.heap.size W2, x.v.cell? ⟨w.heap.size, 0, none⟩ = some (.slice aF nF cFc) := fun x => Wd.at hbox2 (by omega) 0 rfl x
  have u1 : ∀ x : Wd W2.heap.size W2, x.v.cell? ⟨w.heap.size, 1, none⟩ = some (.slice aN nN cNc) := fun x => Wd.at hbox2 (by omega) 1 rfl x
  have u2 : ∀ x : Wd W2.heap.size W2, x.v.cell? ⟨w.heap.size, 2, none⟩ = some (.slice aL nL cLc) := fun x => Wd.at hbox2 (by omega) 2 rfl x
  have u3 : ∀ x : Wd W2.heap.size W2, x.v.cell? ⟨w1.heap.size, 0, none⟩ = some (.int .i64 (r0 s k)) := fun x => Wd.at hrow2 (by omega) 0 rfl x
  have HBZ : Hid (∀ x : Wd W2.heap.size W2, Below w.heap.size w x.v) := fun x => hbw2.trans (x.h.mono (by omega))
  have HFL := Lib.hid hfl2
  have HRO := Lib.hid hrow2
  have HZ2 := Lib.hid hz2
  haveI : ∀ (B : Nat) (W : World), Nonempty (Wd B W) := Wd.ne
  clear hW2 hbox2 hbw2 hfl2 hrow2 k0 k1 k2 hz2
  refine wp_region_wd (by kernel_rfl) (by kernel_rfl) ?_
  repeat (go_big_quiet_step ((go_at_call 42; exact calls_wd (Nat.le_refl _) (CE.out _ (HBZ.out _)))))
  refine wpQuiet_nil ?_
  intro x
  have hxb := lb_below HFL.out x.h (by have := HZ2.out; omega)
  have hx3 : ∀ o, (x.v.alloc o).cell? ⟨w1.heap.size + 1, 4, none⟩ = some (.slice none 0 0) := lb_past hxb 4 rfl
  have hx4 : ∀ o, (x.v.alloc o).frozen? ⟨w1.heap.size + 1, 4, none⟩ = false := fun o => lb_f ((Below.heap_alloc _ _ _ (lt_of_block hxb)).trans hxb) 4
  have HXB := Lib.hid hxb
  clear hxb
  have hmk := make_laid (en s k - r0 s k) (by omega)
  rw [show ((en s k - r0 s k : Nat) : Int) = (en s k : Int) - (r0 s k : Int) by omega] at hmk
  clear u0 u1 u2 u3
  go_wp2_with fail
  obtain ⟨W3, hW3⟩ : ∃ W3, W3 = ((x.v.alloc (Obj.cells (mdC (en s k - r0 s k)) 105)).setCell ⟨w1.heap.size + 1, 4, none⟩ (.slice (some ⟨x.v.heap.size, 0, none⟩) (en s k - r0 s k) (en s k - r0 s k))) := ⟨_, rfl⟩
  have hxs := x.h.size
  have hz2 := HZ2.out
  have hz3 : W3.heap.size = x.v.heap.size + 1 := by rw [hW3, setCell_size, World.size_alloc]
  have hfl3 : W3.heap[w1.heap.size + 1]? = some (flB' (.slice aF nF cFc) (.slice aN nN cNc) (.slice aL nL cLc) (r0 s k) (.slice (some ⟨x.v.heap.size, 0, none⟩) (en s k - r0 s k) (en s k - r0 s k))) := by rw [hW3]; exact lb_set ((Below.heap_alloc _ _ _ (by omega)).trans HXB.out) 4 _
  have hg3 : W3.heap[x.v.heap.size]? = some (.cells (mdC (en s k - r0 s k)) 105 (0, 0)) := by rw [hW3]; exact (Below.heap_setCell _ _ _ _ (show x.v.heap.size ≠ w1.heap.size + 1 by omega)).trans (lb_new x.v _)
  have hrow3 : W3.heap[w1.heap.size]? = some (Obj.cells #[.int .i64 (r0 s k), .int .i64 (r1 s k), .int .i64 (r2 s k), .int .i64 (r3 s k)] 67 (0, 0)) := by rw [hW3]; exact (Below.heap_setCell _ _ _ _ (show w1.heap.size ≠ w1.heap.size + 1 by omega)).trans ((Below.heap_alloc _ _ _ (by omega)).trans (lb_below HRO.out x.h (by omega)))
  have hbw3 : Below w.heap.size w W3 := by rw [hW3]; exact (((HBZ.out x).alloc (by omega) _).setCell (p := ⟨w1.heap.size + 1, 4, none⟩) (show w.heap.size ≤ w1.heap.size + 1 by omega) _)
  rw [← hW3]
  generalize x.v.heap.size = g at *
  have v0 : ∀ z : Wd W3.heap.size W3, z.v.cell? ⟨w1.heap.size, 0, none⟩ = some (.int .i64 (r0 s k)) := fun z => Wd.at hrow3 (by omega) 0 rfl z
  have v1 : ∀ z : Wd W3.heap.size W3, z.v.cell? ⟨w1.heap.size, 1, none⟩ = some (.int .i64 (r1 s k)) := fun z => Wd.at hrow3 (by omega) 1 rfl z
  have v2 : ∀ z : Wd W3.heap.size W3, z.v.cell? ⟨w1.heap.size, 2, none⟩ = some (.int .i64 (r2 s k)) := fun z => Wd.at hrow3 (by omega) 2 rfl z
  have v3 : ∀ z : Wd W3.heap.size W3, z.v.cell? ⟨w1.heap.size, 3, none⟩ = some (.int .i64 (r3 s k)) := fun z => Wd.at hrow3 (by omega) 3 rfl z
  have HFL3 := Lib.hid hfl3
  have HG3 := Lib.hid hg3
  have HBW3 := Lib.hid hbw3
  have HZ3 := Lib.hid hz3
  have HLT := Lib.hid (show w1.heap.size + 1 < g ∧ w.heap.size < w1.heap.size + 1 by omega)
  clear hW3 hfl3 hg3 hrow3 hbw3 hz3 hx3 hx4 hmk hz2 hxs
  refine wp_region_made 7 6 35 (.cells #[.bool true, .int .i64 ((mkR (tkL (r1 s k) (r2 s k)) : Nat) : Int), .int .u64 0, .int .u64 0, .int .u64 0, .int .u64 0, .int .u64 0, .int .u64 0, .int .u64 0, .int .u64 0, .int .u64 0, .int .u64 0, .int .u64 0, .int .u64 0, .int .u64 0, .int .u64 0, .int .u64 0, .int .u64 0] 105 (0, 0)) _ (by kernel_rfl) (by kernel_rfl) (by kernel_rfl) (by decide) rfl rfl rfl ?_
  simp only [List.take_succ_cons, List.take_zero, List.drop_succ_cons, List.drop_zero]
  refine wpB_step (by decide) (by rfl) (v := ?v0) ?hv0 ?_
  case hv0 => (intro x; go_simp; all_goals with_reducible rfl)
  simp only [Act.put, List.setIfInBounds_toArray, List.set_cons_zero, List.set_cons_succ]
  refine wpB_step (by decide) (by rfl) (v := ?v1) ?hv1 ?_
  case hv1 => (intro x; go_simp; all_goals with_reducible rfl)
  simp only [Act.put, List.setIfInBounds_toArray, List.set_cons_zero, List.set_cons_succ]
  refine wpB_step (by decide) (by rfl) (v := ?v2) ?hv2 ?_
  case hv2 => (intro x; go_simp; all_goals with_reducible rfl)
  simp only [Act.put, List.setIfInBounds_toArray, List.set_cons_zero, List.set_cons_succ]
  refine wpB_step (by decide) (by rfl) (v := ?v3) ?hv3 ?_
  case hv3 => (intro x; go_simp; all_goals with_reducible rfl)
  simp only [Act.put, List.setIfInBounds_toArray, List.set_cons_zero, List.set_cons_succ]
  refine wpB_step (by decide) (by rfl) (v := ?v4) ?hv4 ?_
  case hv4 => (intro x; go_simp; exact CN.out _)
  simp only [Act.put, List.setIfInBounds_toArray, List.set_cons_zero, List.set_cons_succ]
  refine wpB_step (by decide) (by rfl) (v := ?v5) ?hv5 ?_
  case hv5 => (intro x; go_simp; all_goals with_reducible rfl)
  simp only [Act.put, List.setIfInBounds_toArray, List.set_cons_zero, List.set_cons_succ]
  refine wpB_skip (by decide) (fun w => by kernel_rfl) ?_
  refine wpB_nil ?_
  intro b z hb hbk
  have hz3 := HZ3.out
  have hlt := HLT.out
  have hflz := lb_below HFL3.out z.h (by omega)
  have hgz := lb_below HG3.out z.h (by omega)
  have hA : LdAt z.v b 0 (some (fnS s k).init) := fun q hq => by
    rw [Nat.zero_add]
    exact lb_at hbk q (HIN.out q hq)
  have hR0 : ∀ j, j < en s k - r0 s k → LdAt z.v g (j * 18) none := fun j hj q hq => lb_at hgz _ (mdC_at hj hq)
  have HRS : Hid (∀ w', LdAt w' g (0 * 18) (Ro.meet none (fnS s k).init) → Ch g (0 * 18) z.v w' → RoadS w' g (en s k - r0 s k) 0 ((fnS s k).st 0)) := fun w' h1 h2 j hj1 hj2 => by
    by_cases e : j = 0
    · subst e; exact h1
    · have : (fnS s k).st 0 j = none := by show (if j = 0 then some (fnS s k).init else none) = none; rw [if_neg e]
      rw [this]
      exact (hR0 j hj2).keep hgz h2 e
  have CA : Hid (∀ zz : Int, zz = ((r0 s k + 0 : Nat) : Int) → Calls Tryd.prog 52 #[.pointer (some ⟨w1.heap.size + 1, 0, none⟩), .int .i64 zz, .pointer (some ⟨b, 0, none⟩)] z.v fun e w' => e = .returned (.tuple #[]) ∧ LdAt w' g (0 * 18) (Ro.meet none (fnS s k).init) ∧ Ch g (0 * 18) z.v w') := fun zz hzz =>
    arrive_any hflz hgz (by omega) (by omega) (by omega) (lt_of_block hbk) (.inl (by omega)) (hR0 0 (by omega)) hA zz hzz
  have HFZ := Lib.hid hflz
  have HGZ := Lib.hid hgz
  clear hflz hgz hA hR0 hbk
  go_wp2_with (go_at_call 52; refine (CA.out _ (by omega)).mono ?_; rintro _ w5 ⟨rfl, hM5, hC5⟩)
  go_ret
  obtain ⟨arr5, h5, _⟩ := hC5.blk _ _ HGZ.out
  refine ⟨w1.heap.size + 1, g, arr5, rfl, by omega, by omega, by omega, ?_, h5, HRS.out _ hM5 hC5, ?_⟩
  · exact (hC5.lone.rest _ (lt_of_block HFZ.out) (by omega)).trans HFZ.out
  · exact (HBW3.out.trans (z.h.mono (by omega))).trans (hC5.lone.below.mono (by omega))
end Go.Proofs.YtmkdoejpgkgpbaaDoor
