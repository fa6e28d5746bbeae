/- WALKS: the document's reads. -/
import Derived.Test.YtmkdoejpgkgpbaaDoorDoB
set_option linter.unusedVariables false
set_option linter.unusedSimpArgs false
namespace Go.Proofs.YtmkdoejpgkgpbaaDoor
open Go.RowKit Li Ro

theorem RdAt.on {s : ByteArray} {w w' : World} {p : Nat} {vF vN vL : Value} (h : RdAt s w p vF vN vL) (hb : Below w.heap.size w w') : RdAt s w' p vF vN vL := ⟨lb_below h.blk hb (lt_of_block h.blk), own_below h.funs hb, own_below h.nums hb, own_below h.lines hb⟩
theorem lit_own (w : World) (o : Obj) (xs : List Nat) (hx : xs.length ≤ 10) : ((w.alloc o).alloc (.cells (inV xs).toArray 3)).ownsRow w.heap.size 3 1 (.slice (some ⟨w.heap.size + 1, 0, none⟩) xs.length xs.length) xs.length (inV xs) := by
  have h := lb_new (w.alloc o) (.cells (inV xs).toArray 3)
  rw [World.size_alloc] at h
  have := or_new (base := w.heap.size) h (by omega) (by rw [inV_len]; unfold maxLen; omega)
  rw [inV_len] at this
  exact this
theorem lit_below (w : World) (o o2 : Obj) : Below w.heap.size w ((w.alloc o).alloc o2) := ((Below.refl _ _).alloc (Nat.le_refl _) _).alloc (by rw [World.size_alloc]; omega) _
theorem lit7 (w : World) (o : Obj) : ((w.alloc o).alloc (.cells (inV [7]).toArray 3)).ownsRow (w.heap.size + 1) 3 1 (.slice (some ⟨w.heap.size + 1, 0, none⟩) 1 1) 1 (inV [7]) := by
  have h := lb_new (w.alloc o) (.cells (inV [7]).toArray 3)
  rw [World.size_alloc] at h
  exact or_new (base := w.heap.size + 1) h (by omega) (by unfold maxLen; simp [inV])
def RdsAt (w w' : World) (l : List Nat) (e : Ending) : Prop := ∃ v, e = .returned v ∧ w'.ownsRow w.heap.size 3 1 v l.length (inV l) ∧ Below w.heap.size w w'
set_option maxRecDepth 100000 in
set_option maxHeartbeats 3200000 in
theorem reads_none {s : ByteArray} {w : World} {b op r x y p : Nat} (hop : op = 1 ∨ op = 6 ∨ op = 17 ∨ op = 19 ∨ op = 20 ∨ op = 28) :
    Calls Tryd.prog 37 #[.pointer (some ⟨b, 0, none⟩), .agg #[.int .i64 op, .int .i64 r, .int .i64 x, .int .i64 y, .int .i64 p]] w fun e w' => RdsAt w w' (rdO s op r x y) e := by
  have HE : Hid (rdO s op r x y = []) := by show _ = _; rcases hop with rfl | rfl | rfl | rfl | rfl | rfl <;> simp [rdO]
  rw [HE.out]
  clear HE
  rcases hop with rfl | rfl | rfl | rfl | rfl | rfl
  all_goals
    go_enter Tryd.func37, Tryd.ntmps37
    go_wp2_with fail
    go_ret
    exact ⟨_, rfl, World.ownsRow_nil _ _ _ _, (Below.refl _ _).alloc (Nat.le_refl _) _⟩
set_option maxRecDepth 100000 in
set_option maxHeartbeats 3200000 in
theorem reads_slot {s : ByteArray} {w : World} {b op r x y p : Nat} (hop : op = 3 ∨ op = 4) (hx : x < 65536) :
    Calls Tryd.prog 37 #[.pointer (some ⟨b, 0, none⟩), .agg #[.int .i64 op, .int .i64 r, .int .i64 x, .int .i64 y, .int .i64 p]] w fun e w' => RdsAt w w' (rdO s op r x y) e := by
  have HE : Hid (rdO s op r x y = [8 + x]) := by show _ = _; rcases hop with rfl | rfl <;> simp [rdO]
  rw [HE.out]
  clear HE
  rcases hop with rfl | rfl
  all_goals
    go_enter Tryd.func37, Tryd.ntmps37
    go_wp2_with fail
    go_ret
    exact ⟨_, rfl, lit_own w _ [8 + x] (by simp), lit_below _ _ _⟩
set_option maxRecDepth 100000 in
set_option maxHeartbeats 3200000 in
theorem reads_x {s : ByteArray} {w : World} {b op r x y p : Nat} (hop : op = 2 ∨ op = 15 ∨ op = 16 ∨ op = 22 ∨ op = 26) :
    Calls Tryd.prog 37 #[.pointer (some ⟨b, 0, none⟩), .agg #[.int .i64 op, .int .i64 r, .int .i64 x, .int .i64 y, .int .i64 p]] w fun e w' => RdsAt w w' (rdO s op r x y) e := by
  have HE : Hid (rdO s op r x y = [x]) := by show _ = _; rcases hop with rfl | rfl | rfl | rfl | rfl <;> simp [rdO]
  rw [HE.out]
  clear HE
  rcases hop with rfl | rfl | rfl | rfl | rfl
  all_goals
    go_enter Tryd.func37, Tryd.ntmps37
    go_wp2_with fail
    go_ret
    exact ⟨_, rfl, lit_own w _ [x] (by simp), lit_below _ _ _⟩
set_option maxRecDepth 100000 in
set_option maxHeartbeats 3200000 in
theorem reads_r {s : ByteArray} {w : World} {b op r x y p : Nat} (hop : op = 5 ∨ op = 18 ∨ op = 27) :
    Calls Tryd.prog 37 #[.pointer (some ⟨b, 0, none⟩), .agg #[.int .i64 op, .int .i64 r, .int .i64 x, .int .i64 y, .int .i64 p]] w fun e w' => RdsAt w w' (rdO s op r x y) e := by
  have HE : Hid (rdO s op r x y = [r]) := by show _ = _; rcases hop with rfl | rfl | rfl <;> simp [rdO]
  rw [HE.out]
  clear HE
  rcases hop with rfl | rfl | rfl
  all_goals
    go_enter Tryd.func37, Tryd.ntmps37
    go_wp2_with fail
    go_ret
    exact ⟨_, rfl, lit_own w _ [r] (by simp), lit_below _ _ _⟩
set_option maxRecDepth 100000 in
set_option maxHeartbeats 3200000 in
theorem reads_xy {s : ByteArray} {w : World} {b op r x y p : Nat} (hop : op = 7 ∨ op = 8 ∨ op = 9 ∨ op = 10 ∨ op = 11 ∨ op = 12 ∨ op = 13 ∨ op = 14 ∨ op = 23 ∨ op = 24) :
    Calls Tryd.prog 37 #[.pointer (some ⟨b, 0, none⟩), .agg #[.int .i64 op, .int .i64 r, .int .i64 x, .int .i64 y, .int .i64 p]] w fun e w' => RdsAt w w' (rdO s op r x y) e := by
  have HE : Hid (rdO s op r x y = [x, y]) := by show _ = _; rcases hop with rfl | rfl | rfl | rfl | rfl | rfl | rfl | rfl | rfl | rfl <;> simp [rdO]
  rw [HE.out]
  clear HE
  rcases hop with rfl | rfl | rfl | rfl | rfl | rfl | rfl | rfl | rfl | rfl
  all_goals
    go_enter Tryd.func37, Tryd.ntmps37
    go_wp2_with fail
    go_ret
    exact ⟨_, rfl, lit_own w _ [x, y] (by simp), lit_below _ _ _⟩
set_option maxRecDepth 100000 in
set_option maxHeartbeats 3200000 in
theorem reads_ry {s : ByteArray} {w : World} {b op r x y p : Nat} (hop : op = 21) :
    Calls Tryd.prog 37 #[.pointer (some ⟨b, 0, none⟩), .agg #[.int .i64 op, .int .i64 r, .int .i64 x, .int .i64 y, .int .i64 p]] w fun e w' => RdsAt w w' (rdO s op r x y) e := by
  have HE : Hid (rdO s op r x y = [r, y]) := by show _ = _; rcases hop with rfl <;> simp [rdO]
  rw [HE.out]
  clear HE
  rcases hop with rfl
  all_goals
    go_enter Tryd.func37, Tryd.ntmps37
    go_wp2_with fail
    go_ret
    exact ⟨_, rfl, lit_own w _ [r, y] (by simp), lit_below _ _ _⟩
set_option maxRecDepth 100000 in
set_option maxHeartbeats 3200000 in
theorem reads_rxy {s : ByteArray} {w : World} {b op r x y p : Nat} (hop : op = 25) :
    Calls Tryd.prog 37 #[.pointer (some ⟨b, 0, none⟩), .agg #[.int .i64 op, .int .i64 r, .int .i64 x, .int .i64 y, .int .i64 p]] w fun e w' => RdsAt w w' (rdO s op r x y) e := by
  have HE : Hid (rdO s op r x y = [r, x, y]) := by show _ = _; rcases hop with rfl <;> simp [rdO]
  rw [HE.out]
  clear HE
  rcases hop with rfl
  all_goals
    go_enter Tryd.func37, Tryd.ntmps37
    go_wp2_with fail
    go_ret
    exact ⟨_, rfl, lit_own w _ [r, x, y] (by simp), lit_below _ _ _⟩
set_option maxRecDepth 100000 in
set_option maxHeartbeats 3200000 in
theorem reads_r0 {s : ByteArray} {w : World} {b op r x y p : Nat} (hop : op = 33) :
    Calls Tryd.prog 37 #[.pointer (some ⟨b, 0, none⟩), .agg #[.int .i64 op, .int .i64 r, .int .i64 x, .int .i64 y, .int .i64 p]] w fun e w' => RdsAt w w' (rdO s op r x y) e := by
  have HE : Hid (rdO s op r x y = [0]) := by show _ = _; rcases hop with rfl <;> simp [rdO]
  rw [HE.out]
  clear HE
  rcases hop with rfl
  all_goals
    go_enter Tryd.func37, Tryd.ntmps37
    go_wp2_with fail
    go_ret
    exact ⟨_, rfl, lit_own w _ [0] (by simp), lit_below _ _ _⟩
set_option maxRecDepth 100000 in
set_option maxHeartbeats 3200000 in
theorem reads_call {s : ByteArray} {w : World} {b op r x y p : Nat} {vF vN vL : Value} (hat : RdAt s w b vF vN vL) (hop : op = 29 ∨ op = 31) (hx : x < hF s) (hr1 : r1 s x ≤ 4) :
    Calls Tryd.prog 37 #[.pointer (some ⟨b, 0, none⟩), .agg #[.int .i64 op, .int .i64 r, .int .i64 x, .int .i64 y, .int .i64 p]] w fun e w' => RdsAt w w' (rdO s op r x y) e := by
  have HE : Hid (rdO s op r x y = tkF s x) := by show _ = _; rcases hop with rfl | rfl <;> simp [rdO]
  rw [HE.out]
  clear HE
  have H0 : Hid (∀ o : Obj, Below w.heap.size w (w.alloc o)) := fun o => (Below.refl _ _).alloc (Nat.le_refl _) _
  have C : Hid (∀ o : Obj, Calls Tryd.prog 35 #[.pointer (some ⟨b, 0, none⟩), .int .i64 x] (w.alloc o) fun e w' => RdsAt w w' (tkF s x) e) := fun o => by
    refine (takes_any (hat.on (H0.out o)) hx hr1).mono ?_
    rintro e w' ⟨v, rfl, h1, h2⟩
    refine ⟨v, rfl, ⟨h1.1, ?_⟩, (H0.out o).trans (h2.mono (by rw [World.size_alloc]; omega))⟩
    rcases h1.2 with h | ⟨g, cap, cur, a1, a2, a3⟩
    · exact .inl h
    · exact .inr ⟨g, cap, cur, a1, by rw [World.size_alloc] at a2; omega, a3⟩
  clear hat
  rcases hop with rfl | rfl
  all_goals
    go_enter Tryd.func37, Tryd.ntmps37
    go_wp2_with (go_at_call 35; refine (C.out _).mono ?_; rintro _ w1 ⟨v, rfl, h1, h2⟩)
    go_ret
    exact ⟨_, rfl, h1, h2⟩
set_option maxRecDepth 100000 in
set_option maxHeartbeats 3200000 in
theorem reads_few {s : ByteArray} {w : World} {b op r x y p : Nat} (hop : op = 30 ∨ op = 32) (hx : x ≤ 4) :
    Calls Tryd.prog 37 #[.pointer (some ⟨b, 0, none⟩), .agg #[.int .i64 op, .int .i64 r, .int .i64 x, .int .i64 y, .int .i64 p]] w fun e w' => RdsAt w w' (rdO s op r x y) e := by
  have HE : Hid (rdO s op r x y = 7 :: List.range x) := by show _ = _; rcases hop with rfl | rfl <;> simp [rdO]
  rw [HE.out]
  clear HE
  obtain ⟨i0, hi0, hz0, hz1, hz2⟩ := info_parts Tryd.infI
  rcases hop with rfl | rfl
  all_goals
    go_enter Tryd.func37, Tryd.ntmps37
    go_wp2_with fail
    go_loopg [5, 6] x (fun gh v s6 (wr : World) => ∃ j : Nat, j ≤ x ∧ gh = x - j ∧ s6 = .int .i64 j ∧ wr.ownsRow (w.heap.size + 1) 3 1 v (j + 1) (inV (7 :: List.range j)) ∧ wr.cell? ⟨w.heap.size, 2, none⟩ = some (.int .i64 x) ∧ Below w.heap.size w wr ∧ Below (w.heap.size + 1) wr wr ∧ w.heap.size + 1 ≤ wr.heap.size)
    case atStart =>
      refine ⟨0, by omega, rfl, rfl, ?_, ?_, lit_below _ _ _, Below.refl _ _, by rw [World.size_alloc, World.size_alloc]; omega⟩
      · exact lit7 w _
      · exact lb_past (lb_new w _) 2 rfl _
    case round =>
      obtain ⟨j, hj, hgj, rfl, hown, hcx, hbw, _, hsz⟩ := hrel
      have HOW := Lib.hid hown
      have HBW := Lib.hid hbw
      have hsw := hbw.size
      clear hown hbw
      by_cases hlt2 : j < x
      · go_wp2_with (at_builtin; refine wpList_append_own2 _ rfl (.tmp 81) (.tmp 83) 35 rfl (w.heap.size + 1) 3 i0 _ 1 8 Tryd.undI hi0 hz0 hz1 hz2 rfl (by decide) _ _ _ rfl (HOW.out.alloc _) _ 1 1 [.int .i64 (j : Int)] rfl rfl (cells_new _ _ _ _ (by simp)) ?_ ?_ ?_ ?_ ?_; (intro u hu; simp at hu; subst hu; rfl); (unfold maxLen; omega); omega; (simp; omega); intro v' w4 hown4 hg4' hrow4)
        have hb4 := grown_below ((Below.refl (w.heap.size + 1) wr).alloc hsz (.cells #[.int .i64 (j : Int)] 3 (0, 0))) (HOW.out.alloc _) hg4' (by rw [World.size_alloc]; omega) (Nat.le_refl _)
        go_roundg (x - (j + 1))
        case measure => omega
        case rel =>
          refine ⟨j + 1, by omega, rfl, by go_num, ?_, (hb4.cell (p := ⟨w.heap.size, 2, none⟩) (by simp)).trans hcx, HBW.out.trans (hb4.mono (by omega)), Below.refl _ _, by have := hb4.size; omega⟩
          rw [List.range_succ, show (7 :: (List.range j ++ [j])) = (7 :: List.range j) ++ [j] from rfl, inV_app]
          exact hown4
      · have hjP : j = x := by omega
        subst hjP
        go_wp2_with fail
        go_ret
        refine ⟨_, rfl, ?_, HBW.out⟩
        rw [show (7 :: List.range j).length = j + 1 by simp]
        refine ⟨HOW.out.1, ?_⟩
        have h := HOW.out.2
        rcases h with h | ⟨g, cap, cur, a1, a2, a3⟩
        · exact .inl h
        · exact .inr ⟨g, cap, cur, a1, by omega, a3⟩
/-- what a line that is well made reads -/
theorem reads_any {s : ByteArray} {w : World} {b k pc : Nat} {vF vN vL : Value} (hat : RdAt s w b vF vN vL) (hrow : bad (rowB s) (hF s) 0 = none) (hw : Wl s k pc) :
    Calls Tryd.prog 37 #[.pointer (some ⟨b, 0, none⟩), .agg #[.int .i64 (l0 s pc), .int .i64 (l1 s pc), .int .i64 (l2 s pc), .int .i64 (l3 s pc), .int .i64 (l4 s pc)]] w fun e w' => RdsAt w w' (rdL s pc) e := by
  have h1 := hw.f1
  have h3 := hw.op1
  have h4 := hw.op2
  have h5 : l2 s pc < 65536 := n2_lt _ _
  unfold rdL
  generalize l0 s pc = op at *
  generalize l1 s pc = r at *
  generalize l2 s pc = x at *
  generalize l3 s pc = y at *
  generalize l4 s pc = p at *
  by_cases g0 : op = 1 ∨ op = 6 ∨ op = 17 ∨ op = 19 ∨ op = 20 ∨ op = 28
  · exact reads_none g0
  by_cases g9 : op = 3 ∨ op = 4
  · exact reads_slot g9 h5
  by_cases g1 : op = 2 ∨ op = 15 ∨ op = 16 ∨ op = 22 ∨ op = 26
  · exact reads_x g1
  by_cases g2 : op = 5 ∨ op = 18 ∨ op = 27
  · exact reads_r g2
  by_cases g3 : op = 7 ∨ op = 8 ∨ op = 9 ∨ op = 10 ∨ op = 11 ∨ op = 12 ∨ op = 13 ∨ op = 14 ∨ op = 23 ∨ op = 24
  · exact reads_xy g3
  by_cases g4 : op = 21
  · exact reads_ry g4
  by_cases g5 : op = 25
  · exact reads_rxy g5
  by_cases g6 : op = 29 ∨ op = 31
  · have hx : x < hF s := by rcases g6 with rfl | rfl <;> simpa [fitB, ruN, rul] using h1
    exact reads_call hat g6 hx (r1_le hrow hx).1
  by_cases g7 : op = 30 ∨ op = 32
  · exact reads_few g7 (by rcases g7 with rfl | rfl <;> simpa [fitB, ruN, rul] using h1)
  · exact reads_r0 (by omega)
end Go.Proofs.YtmkdoejpgkgpbaaDoor
