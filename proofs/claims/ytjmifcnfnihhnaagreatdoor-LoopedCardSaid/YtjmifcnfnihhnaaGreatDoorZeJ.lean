import Derived.Test.YtjmifcnfnihhnaaGreatDoorZeI
import Derived.Deep.RegionWith
import Derived.Deep.CutRange
import Derived.Deep.DeepCutAuto
import Derived.Handy
/- WALKS: a run's registers and slots. -/
set_option linter.unusedVariables false
set_option linter.unusedSimpArgs false
namespace Go.Proofs.YtjmifcnfnihhnaaGreatDoor
namespace Lo
open Go.RowKit Lr
theorem and7 {n : Nat} (h : n < 8) : bits BinOp.and IntKind.i64 (n : Int) 7 = (n : Int) := by
  have : n = 0 ∨ n = 1 ∨ n = 2 ∨ n = 3 ∨ n = 4 ∨ n = 5 ∨ n = 6 ∨ n = 7 := by omega
  rcases this with rfl | rfl | rfl | rfl | rfl | rfl | rfl | rfl <;> rfl
theorem register_w {w : World} {r n : Nat} (hn : n < 8) (hlt : r < w.heap.size) {a : Bool} {b : Int} (q1 : w.cell? ⟨r, 6 + n * 2, none⟩ = some (.bool a)) (q2 : w.cell? ⟨r, 6 + n * 2 + 1, none⟩ = some (.int .i64 b)) :
    Calls Tryz.prog 127 #[.pointer (some ⟨r, 0, none⟩), .int .i64 (n : Nat)] w fun e w' => e = .returned (.agg #[.bool a, .int .i64 b]) ∧ Below w.heap.size w w' := by
  have h7 := and7 hn
  go_enter Tryz.func127, Tryz.ntmps127
  go_wp2
  go_returns
  exact ⟨rfl, (Below.refl _ _).alloc (Nat.le_refl _) _⟩
/-- one cell more is another -/
structure Cel (w w' : World) (b : Nat) (arr : Array Value) (ty : TypeId) (z : Nat × Nat) : Prop where
  blk : w'.heap[b]? = some (.cells arr ty z)
  rest : ∀ j, j < w.heap.size → j ≠ b → w'.heap[j]? = w.heap[j]?
  low : Below 0 w w'
theorem Cel.on {w w' w'' : World} {b : Nat} {arr : Array Value} {ty : TypeId} {z : Nat × Nat} (h : Cel w w' b arr ty z) (hb : Below w'.heap.size w' w'') : Cel w w'' b arr ty z :=
  ⟨(hb.block b (zb_lt h.blk)).trans h.blk, fun j hj hn => (hb.block j (Nat.lt_of_lt_of_le hj h.low.size)).trans (h.rest j hj hn), h.low.trans (hb.mono (Nat.zero_le _))⟩
theorem Cel.set {w w' : World} {b : Nat} {arr : Array Value} {ty : TypeId} {z : Nat × Nat} (h : Cel w w' b arr ty z) (i : Nat) (u : Value) : Cel w (w'.setCell ⟨b, i, none⟩ u) b (arr.setIfInBounds i u) ty z :=
  ⟨zb_set h.blk i u, fun j hj hn => (zb_ne i u hn).trans (h.rest j hj hn), h.low.setCell (Nat.zero_le _) _⟩
theorem Cel.refl {w : World} {b : Nat} {arr : Array Value} {ty : TypeId} {z : Nat × Nat} (h : w.heap[b]? = some (.cells arr ty z)) : Cel w w b arr ty z := ⟨h, fun _ _ _ => rfl, Below.refl _ _⟩
theorem Cel.drew {w w' : World} {b : Nat} {arr : Array Value} {ty : TypeId} {z : Nat × Nat} (h : Cel w w' b arr ty z) : Cel w w'.drew b arr ty z := ⟨h.blk, h.rest, h.low.drew⟩
theorem Cel.al {w w' : World} {b : Nat} {arr : Array Value} {ty : TypeId} {z : Nat × Nat} (h : Cel w w' b arr ty z) (o : Obj) : Cel w (w'.alloc o) b arr ty z := h.on ((Below.refl _ _).alloc (Nat.le_refl _) _)
theorem setRegister_w {w : World} {r n : Nat} (hn : n < 8) {arr : Array Value} {ty : TypeId} {lo hi : Nat} (hb : w.heap[r]? = some (.cells arr ty (lo, hi))) (hz : lo = hi ∨ arr.size ≤ lo) (hs : 22 ≤ arr.size) {a : Bool} {b : Int} :
    Calls Tryz.prog 126 #[.pointer (some ⟨r, 0, none⟩), .int .i64 (n : Nat), .agg #[.bool a, .int .i64 b]] w fun e w' => e = .returned (.tuple #[]) ∧ Cel w w' r ((arr.setIfInBounds (6 + n * 2) (.bool a)).setIfInBounds (6 + n * 2 + 1) (.int .i64 b)) ty (lo, hi) := by
  have h7 := and7 hn
  have hlt := zb_lt hb
  obtain ⟨x1, q1⟩ : ∃ x, w.cell? ⟨r, 6 + n * 2, none⟩ = some x := ⟨_, (Ev.cell_of hb _).trans (Array.getElem?_eq_getElem (by omega))⟩
  obtain ⟨x2, q2⟩ : ∃ x, w.cell? ⟨r, 6 + n * 2 + 1, none⟩ = some x := ⟨_, (Ev.cell_of hb _).trans (Array.getElem?_eq_getElem (by omega))⟩
  have f1 := Ev.frozen_of hb hz (j := 6 + n * 2) (by omega)
  have f2 := Ev.frozen_of hb hz (j := 6 + n * 2 + 1) (by omega)
  have hn' : (n : Int) < 8 := by omega
  have HB := Lib.hid (Cel.refl hb)
  clear hb hz hs
  go_enter Tryz.func126, Tryz.ntmps126
  go_wp2
  go_region
  go_returns
  exact ⟨rfl, (((HB.out.set _ _).set _ _).al _).drew⟩
/-- the last frame's slots -/
structure Sls (w : World) (r g nf cap sb ns cp : Nat) : Prop where
  fr : w.cell? ⟨r, 22, none⟩ = some (.slice (some ⟨g, 0, none⟩) (nf + 1) cap)
  sl : w.cell? ⟨g, nf * 2 + 1, none⟩ = some (.slice (some ⟨sb, 0, none⟩) ns cp)
  rl : r < w.heap.size
  gl : g < w.heap.size
  sl' : sb < w.heap.size
theorem Sls.on {w w' : World} {r g nf cap sb ns cp : Nat} (h : Sls w r g nf cap sb ns cp) (hb : Below w.heap.size w w') : Sls w' r g nf cap sb ns cp := by
  have hs := hb.size
  have h1 := h.rl
  have h2 := h.gl
  have h3 := h.sl'
  exact ⟨(hb.cell (p := ⟨r, 22, none⟩) h1).trans h.fr, (hb.cell (p := ⟨g, _, none⟩) h2).trans h.sl, by omega, by omega, by omega⟩
theorem slot_w {w : World} {r g nf cap sb ns cp n : Nat} (h : Sls w r g nf cap sb ns cp) (hnf : nf ≤ 1000) (hns : ns ≤ 2000) (hc1 : nf + 1 ≤ cap) (hc2 : ns ≤ cp) (hn : n < ns) {a : Bool} {b : Int} (q1 : w.cell? ⟨sb, n * 2, none⟩ = some (.bool a)) (q2 : w.cell? ⟨sb, n * 2 + 1, none⟩ = some (.int .i64 b)) :
    Calls Tryz.prog 166 #[.pointer (some ⟨r, 0, none⟩), .int .i64 (n : Nat)] w fun e w' => e = .returned (.agg #[.bool a, .int .i64 b]) ∧ Below w.heap.size w w' := by
  obtain ⟨c22, c1, hlt, hgl, hsl⟩ := h
  have g1 : (n : Int) < (ns : Int) := by omega
  have g2 : decide ((ns : Int) ≤ (n : Int)) = false := by simp; omega
  go_enter Tryz.func166, Tryz.ntmps166
  go_wp2
  go_returns
  exact ⟨rfl, (Below.refl _ _).alloc (Nat.le_refl _) _⟩
theorem has_n (w : World) (r o : Nat) (z : Int) :
    Calls Tryz.prog 174 #[.pointer (some ⟨r, o, none⟩), .agg #[.bool false, .int .i64 z]] w fun e w' => e = .returned (.bool false) ∧ Below w.heap.size w w' := by
  go_enter Tryz.func174, Tryz.ntmps174
  go_wp2
  go_region
  rename_i Q' K hK
  refine hK _ _ ?_
  go_wp2
  go_returns
  exact ⟨rfl, ((Below.refl _ _).alloc (Nat.le_refl _) _).drew⟩
theorem hold_n (w : World) (r o : Nat) (z d : Int) :
    Calls Tryz.prog 167 #[.pointer (some ⟨r, o, none⟩), .agg #[.bool false, .int .i64 z], .int .i64 d] w fun e w' => e = .returned (.tuple #[]) ∧ Below w.heap.size w w' := by
  have CH := Lib.hid (has_n · r o z)
  go_enter Tryz.func167, Tryz.ntmps167
  go_wp2_with (first
    | (go_at_call 174; refine (CH.out _).mono ?_; rintro _ w1 ⟨rfl, hb1⟩))
  go_returns
  have hA := (Below.refl w.heap.size w).alloc (Nat.le_refl _) (.cells #[.bool false, .int .i64 z] 110)
  exact ⟨rfl, hA.trans (hb1.mono hA.size)⟩
set_option maxRecDepth 100000 in
set_option maxHeartbeats 1600000 in
theorem setSlot_w {w : World} {r g nf cap sb ns cp n : Nat} (h : Sls w r g nf cap sb ns cp) (hnf : nf ≤ 1000) (hns : ns ≤ 2000) (hc1 : nf + 1 ≤ cap) (hc2 : ns ≤ cp) (hn : n < ns) {b0 : Int} (q1 : w.cell? ⟨sb, n * 2, none⟩ = some (.bool false)) (q2 : w.cell? ⟨sb, n * 2 + 1, none⟩ = some (.int .i64 b0)) {arr : Array Value} {ty : TypeId} {lo hi : Nat} (hb : w.heap[sb]? = some (.cells arr ty (lo, hi))) (hz : lo = hi ∨ arr.size ≤ lo) (b : Int) :
    Calls Tryz.prog 125 #[.pointer (some ⟨r, 0, none⟩), .int .i64 (n : Nat), .agg #[.bool false, .int .i64 b]] w fun e w' => e = .returned (.tuple #[]) ∧ Cel w w' sb ((arr.setIfInBounds (n * 2) (.bool false)).setIfInBounds (n * 2 + 1) (.int .i64 b)) ty (lo, hi) := by
  have H := Lib.hid h
  obtain ⟨c22, c1, hlt, hgl, hsl⟩ := h
  have g1 : (n : Int) < (ns : Int) := by omega
  have g2 : decide ((ns : Int) ≤ (n : Int)) = false := by simp; omega
  have C1 := Lib.hid (hold_n · r 23 b0 (-1))
  have C2 := Lib.hid (hold_n · r 23 b 1)
  have HB := Lib.hid hb
  have HZ := Lib.hid hz
  have Q1 := Lib.hid q1
  have Q2 := Lib.hid q2
  have s1 : n * 2 + 1 < arr.size := by rw [Ev.cell_of hb] at q2; exact (Array.getElem?_eq_some_iff.1 q2).1
  clear hb hz
  go_enter Tryz.func125, Tryz.ntmps125
  go_wp2_with fail
  go_region_with (first
    | (go_at_call 167; go_loud (refine (C1.out _).mono ?_; rintro _ w1 ⟨rfl, hb1⟩)))
  have hb0 : (w.alloc (.cells #[.bool false, .int .i64 b] 110 (0, 0))).drew.heap[w.heap.size]? = some (.cells #[.bool false, .int .i64 b] 110 (0, 0)) := lb_new w _
  have hA : Below w.heap.size w (w.alloc (.cells #[.bool false, .int .i64 b] 110 (0, 0))).drew := ((Below.refl _ _).alloc (Nat.le_refl _) _).drew
  have hA1 := hA.trans (hb1.mono hA.size)
  have hx1 := (hb1.block _ (zb_lt hb0)).trans hb0
  have e0 : w1.cell? ⟨w.heap.size, 0, none⟩ = some (.bool false) := lb_at hx1 0 rfl
  have e1 : w1.cell? ⟨w.heap.size, 1, none⟩ = some (.int .i64 b) := lb_at hx1 1 rfl
  have HX1 := Lib.hid hx1
  have HA1 := Lib.hid hA1
  clear hb0 hA hx1 hb1 hA1 C1 q1 q2 c22 c1
  rename_i Q' K hK
  refine hK _ _ ?_
  go_wp2_with fail
  go_region_with (first
    | (go_at_call 167; go_loud (refine (C2.out _).mono ?_; rintro _ w2 ⟨rfl, hb2⟩)))
  have hA2 := HA1.out.drew.trans (hb2.mono HA1.out.drew.size)
  have hx2 := (hb2.block _ (zb_lt HX1.out)).trans HX1.out
  have y0 : w2.cell? ⟨w.heap.size, 0, none⟩ = some (.bool false) := lb_at hx2 0 rfl
  have y1 : w2.cell? ⟨w.heap.size, 1, none⟩ = some (.int .i64 b) := lb_at hx2 1 rfl
  obtain ⟨c22, c1, hlt', hgl', hsl'⟩ := H.out.on hA2
  have hk : w2.heap[sb]? = some (.cells arr ty (lo, hi)) := (hA2.block sb hsl).trans HB.out
  have d0 : w2.cell? ⟨sb, n * 2, none⟩ = some (.bool false) := (hA2.cell (p := ⟨sb, _, none⟩) hsl).trans Q1.out
  have d1 : w2.cell? ⟨sb, n * 2 + 1, none⟩ = some (.int .i64 b0) := (hA2.cell (p := ⟨sb, _, none⟩) hsl).trans Q2.out
  have z0 := Ev.frozen_of hk HZ.out (j := n * 2) (by omega)
  have z1 := Ev.frozen_of hk HZ.out (j := n * 2 + 1) (by omega)
  have HC : Hid (Cel w w2 sb arr ty (lo, hi)) := ⟨hk, fun j hj _ => hA2.block j hj, hA2.mono (Nat.zero_le _)⟩
  clear hA2 hx2 hk hb2 HX1 HA1
  rename_i Q' K hK
  refine hK _ _ ?_
  go_wp2_with fail
  go_region
  go_returns
  exact ⟨rfl, ((HC.out.set _ _).set _ _).drew⟩
end Lo
end Go.Proofs.YtjmifcnfnihhnaaGreatDoor
/- WALKS: a sum, a difference, a product, an equality over numbers. -/
set_option linter.unusedVariables false
set_option linter.unusedSimpArgs false
namespace Go.Proofs.YtjmifcnfnihhnaaGreatDoor
namespace Lo
open Go.RowKit Lr
def tru (b : Bool) : Int := if b then 1 else 0
theorem truth_w (b : Bool) (w : World) : Calls Tryz.prog 168 #[.bool b] w fun e w' => e = .returned (.int .i64 (tru b)) ∧ w' = w := by
  cases b
  all_goals
    go_enter Tryz.func168, Tryz.ntmps168
    go_wp2
    go_ret
    exact ⟨rfl, rfl⟩
theorem numberOf_w (z : Int) (w : World) : Calls Tryz.prog 129 #[.int .i64 z] w fun e w' => e = .returned (.agg #[.bool false, .int .i64 z]) ∧ Below w.heap.size w w' := by
  go_enter Tryz.func129, Tryz.ntmps129
  go_wp2
  go_returns
  exact ⟨rfl, (Below.refl _ _).alloc (Nat.le_refl _) _⟩
theorem wrapped_w (n : Int) (w : World) : Calls Tryz.prog 67 #[.int .i64 n] w fun e w' => e = .returned (.int .i64 (wrap64 (n * 2) / 2)) ∧ w' = w := by
  go_enter Tryz.func67, Tryz.ntmps67
  go_wp2
  go_ret
  exact ⟨rfl, rfl⟩
def opR (op : Nat) (a b : Int) : Int := match op with
  | 7 => wrap64 (a + b)
  | 8 => wrap64 (a - b)
  | 9 => wrap64 (a * b)
  | _ => tru (a == b)
theorem reckoned_w {op : Nat} (ho : op = 7 ∨ op = 8 ∨ op = 9 ∨ op = 12) (a b : Int) (w : World) : Calls Tryz.prog 130 #[.int .i64 (op : Nat), .int .i64 a, .int .i64 b] w fun e w' => e = .returned (.int .i64 (opR op a b)) ∧ w' = w := by
  have CT := Lib.hid truth_w
  rcases ho with rfl | rfl | rfl | rfl
  · go_enter Tryz.func130, Tryz.ntmps130
    go_wp2_with fail
    go_ret
    exact ⟨rfl, rfl⟩
  · go_enter Tryz.func130, Tryz.ntmps130
    go_wp2_with fail
    go_ret
    exact ⟨rfl, rfl⟩
  · go_enter Tryz.func130, Tryz.ntmps130
    go_wp2_with fail
    go_ret
    exact ⟨rfl, rfl⟩
  · go_enter Tryz.func130, Tryz.ntmps130
    go_wp2_with (first
      | (go_at_call 168; refine (CT.out _ _).mono ?_; rintro _ w1 ⟨rfl, rfl⟩))
    go_ret
    exact ⟨rfl, rfl⟩
theorem wd_at {B : Nat} {w : World} {b : Nat} {a : Array Value} {t : TypeId} {v : Value} (h : w.heap[b]? = some (.cells a t (0, 0))) (hb : b < B) (i : Nat) (hv : a[i]? = some v) (x : Wd B w) : x.v.cell? ⟨b, i, none⟩ = some v := lb_at (lb_below h x.h hb) i hv
theorem boxed {w w1 : World} {o : Obj} (hb : Below (w.alloc o).heap.size (w.alloc o) w1) : w1.heap[w.heap.size]? = some o := lb_below (lb_new w o) hb (by simp)
theorem below_box {w w1 : World} {o : Obj} (hb : Below (w.alloc o).heap.size (w.alloc o) w1) : Below w.heap.size w w1 := ((Below.refl _ _).alloc (Nat.le_refl _) o).trans (hb.mono (by simp))
theorem b2 {w w1 : World} {o1 o2 : Obj} (hb : Below (w.alloc o1).heap.size (w.alloc o1) w1) : Below w.heap.size w (w1.alloc o2) := (below_box hb).alloc (below_box hb).size o2
/-- two registers are read: the line and the two values in memory -/
structure Two (w : World) (op q x y p : Int) (u v : Int) (a b : Nat) (W : World) : Prop where
  low : Below w.heap.size w W
  ln : W.heap[w.heap.size]? = some (.cells #[.int .i64 op, .int .i64 q, .int .i64 x, .int .i64 y, .int .i64 p] 99 (0, 0))
  bu : W.heap[a]? = some (.cells #[.bool false, .int .i64 u] 110 (0, 0))
  bv : W.heap[b]? = some (.cells #[.bool false, .int .i64 v] 110 (0, 0))
  ab : a ≠ b
  la : w.heap.size < a
  lb : w.heap.size < b
theorem two_mk {w w1 w2 : World} {op q x y p u v : Int} (hb1 : Below (w.alloc (.cells #[.int .i64 op, .int .i64 q, .int .i64 x, .int .i64 y, .int .i64 p] 99 (0, 0))).heap.size (w.alloc (.cells #[.int .i64 op, .int .i64 q, .int .i64 x, .int .i64 y, .int .i64 p] 99 (0, 0))) w1)
    (hb2 : Below (w1.alloc (.cells #[.bool false, .int .i64 u] 110 (0, 0))).heap.size (w1.alloc (.cells #[.bool false, .int .i64 u] 110 (0, 0))) w2) :
    Two w op q x y p u v w1.heap.size w2.heap.size (w2.alloc (.cells #[.bool false, .int .i64 v] 110 (0, 0))) := by
  have h1 := below_box hb1
  have h2 := below_box hb2
  have s1 := zb_lt (boxed hb1)
  have s2 := zb_lt (boxed hb2)
  have hA := (Below.refl w2.heap.size w2).alloc (Nat.le_refl _) (.cells #[.bool false, .int .i64 v] 110 (0, 0))
  have h2s := h2.size
  exact ⟨(h1.trans (h2.mono h1.size)).trans (hA.mono (Nat.le_trans h1.size h2.size)), lb_below (lb_below (boxed hb1) h2 s1) hA (by omega), lb_below (boxed hb2) hA s2, lb_new _ _, by omega, by omega, by omega⟩
theorem two_all {w W : World} {op q x y p u v : Int} {a b : Nat} (hT : Two w op q x y p u v a b W) : W.cell? ⟨w.heap.size, 0, none⟩ = some (.int .i64 op) ∧ W.cell? ⟨w.heap.size, 1, none⟩ = some (.int .i64 q) ∧ W.cell? ⟨w.heap.size, 4, none⟩ = some (.int .i64 p) ∧ W.cell? ⟨a, 0, none⟩ = some (.bool false) ∧ W.cell? ⟨a, 1, none⟩ = some (.int .i64 u) ∧ W.cell? ⟨b, 0, none⟩ = some (.bool false) ∧ W.cell? ⟨b, 1, none⟩ = some (.int .i64 v) ∧ W.frozen? ⟨b, 0, none⟩ = false ∧ W.frozen? ⟨b, 1, none⟩ = false ∧ w.heap.size < W.heap.size ∧ a ≠ b ∧ w.heap.size < a ∧ w.heap.size < b ∧ Hid (Two w op q x y p u v a b W) :=
  ⟨lb_at hT.ln 0 rfl, lb_at hT.ln 1 rfl, lb_at hT.ln 4 rfl, lb_at hT.bu 0 rfl, lb_at hT.bu 1 rfl, lb_at hT.bv 0 rfl, lb_at hT.bv 1 rfl, lb_f hT.bv 0, lb_f hT.bv 1, zb_lt hT.ln, hT.ab, hT.la, hT.lb, hT⟩
/-- behind what is new -/
theorem Cel.under {w W w' : World} {b : Nat} {arr : Array Value} {ty : TypeId} {z : Nat × Nat} (h : Cel W w' b arr ty z) (hb : Below w.heap.size w W) : Cel w w' b arr ty z :=
  ⟨h.blk, fun j hj hn => (h.rest j (Nat.lt_of_lt_of_le hj hb.size) hn).trans (hb.block j hj), (hb.mono (Nat.zero_le _)).trans h.low⟩
set_option maxRecDepth 100000 in
set_option maxHeartbeats 1600000 in
theorem reckon_w {w : World} {r : Nat} {arr : Array Value} {ty : TypeId} {lo hi : Nat} (hb : w.heap[r]? = some (.cells arr ty (lo, hi))) (hz : lo = hi ∨ arr.size ≤ lo) (hs : 22 ≤ arr.size) {op q x y : Nat} {p u v : Int} (hx : x < 8) (hy : y < 8) (hq : q < 8) (hu0 : arr[6 + x * 2]? = some (.bool false)) (hu1 : arr[6 + x * 2 + 1]? = some (.int .i64 u)) (hv0 : arr[6 + y * 2]? = some (.bool false)) (hv1 : arr[6 + y * 2 + 1]? = some (.int .i64 v)) (ho : op = 7 ∨ op = 8 ∨ op = 9 ∨ op = 12) :
    Calls Tryz.prog 75 #[.pointer (some ⟨r, 0, none⟩), .agg #[.int .i64 (op : Nat), .int .i64 (q : Nat), .int .i64 (x : Nat), .int .i64 (y : Nat), .int .i64 p]] w fun e w' => e = .returned (.tuple #[]) ∧ Cel w w' r ((arr.setIfInBounds (6 + q * 2) (.bool false)).setIfInBounds (6 + q * 2 + 1) (.int .i64 (wrap64 (opR op u v * 2) / 2))) ty (lo, hi) := by
  have CX : Hid (∀ W, Below w.heap.size w W → Calls Tryz.prog 127 #[.pointer (some ⟨r, 0, none⟩), .int .i64 (x : Nat)] W fun e w' => e = .returned (.agg #[.bool false, .int .i64 u]) ∧ Below W.heap.size W w') := fun W hW => by
    have hk := (hW.block r (zb_lt hb)).trans hb
    exact register_w hx (zb_lt hk) ((Ev.cell_of hk _).trans hu0) ((Ev.cell_of hk _).trans hu1)
  have CY : Hid (∀ W, Below w.heap.size w W → Calls Tryz.prog 127 #[.pointer (some ⟨r, 0, none⟩), .int .i64 (y : Nat)] W fun e w' => e = .returned (.agg #[.bool false, .int .i64 v]) ∧ Below W.heap.size W w') := fun W hW => by
    have hk := (hW.block r (zb_lt hb)).trans hb
    exact register_w hy (zb_lt hk) ((Ev.cell_of hk _).trans hv0) ((Ev.cell_of hk _).trans hv1)
  have CS : Hid (∀ W, Below w.heap.size w W → Calls Tryz.prog 126 #[.pointer (some ⟨r, 0, none⟩), .int .i64 (q : Nat), .agg #[.bool false, .int .i64 (wrap64 (opR op u v * 2) / 2)]] W fun e w' => e = .returned (.tuple #[]) ∧ Cel w w' r ((arr.setIfInBounds (6 + q * 2) (.bool false)).setIfInBounds (6 + q * 2 + 1) (.int .i64 (wrap64 (opR op u v * 2) / 2))) ty (lo, hi)) := fun W hW => by
    have hk := (hW.block r (zb_lt hb)).trans hb
    exact (setRegister_w hq hk hz hs).mono fun e w' h => ⟨h.1, h.2.under hW⟩
  have hlt := zb_lt hb
  clear hb hz hu0 hu1 hv0 hv1 hs
  have o15 : ((op : Int) == 15) = false := by simp; omega
  have o16 : ((op : Int) == 16) = false := by simp; omega
  have o10 : ((op : Int) == 10) = false := by simp; omega
  have o11 : ((op : Int) == 11) = false := by simp; omega
  have HGD : Hid ((v == 0) = false ∨ (v == 0) = true) := by show _ ∨ _; cases (v == 0) <;> simp
  have C1 : Hid (∀ W', Calls Tryz.prog 130 #[.int .i64 ((op : Nat) : Int), .int .i64 u, .int .i64 v] W' fun e w' => e = .returned (.int .i64 (opR op u v)) ∧ Below W'.heap.size W' w') := fun W' => (reckoned_w ho u v W').mono fun e w' ⟨h1, h2⟩ => ⟨h1, h2 ▸ Below.refl _ _⟩
  clear ho
  generalize opR op u v = Z at C1 CS ⊢
  have C2 : Hid (∀ W', Calls Tryz.prog 67 #[.int .i64 Z] W' fun e w' => e = .returned (.int .i64 (wrap64 (Z * 2) / 2)) ∧ Below W'.heap.size W' w') := fun W' => (wrapped_w Z W').mono fun e w' ⟨h1, h2⟩ => ⟨h1, h2 ▸ Below.refl _ _⟩
  generalize wrap64 (Z * 2) / 2 = Y at C2 CS ⊢
  have C3 : Hid (∀ W', Calls Tryz.prog 129 #[.int .i64 Y] W' fun e w' => e = .returned (.agg #[.bool false, .int .i64 Y]) ∧ Below W'.heap.size W' w') := fun W' => numberOf_w _ _
  go_enter Tryz.func75, Tryz.ntmps75
  go_upto_region 3 with (first
    | (go_at_call_of 127 x; refine (CX.out _ ((Below.refl _ _).alloc (Nat.le_refl _) _)).mono ?_; rintro _ w1 ⟨rfl, hb1⟩; have e3 : w1.cell? ⟨w.heap.size, 3, none⟩ = some (.int .i64 (y : Nat)) := lb_at (boxed hb1) 3 rfl; have hl1 := zb_lt (boxed hb1))
    | (go_at_call 127; refine (CY.out _ (b2 hb1)).mono ?_; rintro _ w2 ⟨rfl, hb2⟩))
  have hT := two_mk (v := v) hb1 hb2
  generalize w2.alloc (.cells #[.bool false, .int .i64 v] 110 (0, 0)) = W at hT ⊢
  generalize w1.heap.size = a at hT ⊢
  generalize w2.heap.size = b at hT ⊢
  obtain ⟨l0', l1', l4', u0, u1, v0, v1, y0, y1, hlW, hab, hla, hlb, HT⟩ := two_all hT
  clear hT hb1 hb2 e3 hl1
  have hln := HT.out.ln
  have hbu := HT.out.bu
  have hbv := HT.out.bv
  have hbW := HT.out.low
  have HY : Hid (∀ yy : Wd W.heap.size W, Below w.heap.size w yy.v) := fun yy => hbW.trans (yy.h.mono hbW.size)
  have w0' : ∀ yy : Wd W.heap.size W, yy.v.cell? ⟨w.heap.size, 0, none⟩ = some (.int .i64 ((op : Nat))) := fun yy => wd_at hln (zb_lt hln) 0 rfl yy
  have w1' : ∀ yy : Wd W.heap.size W, yy.v.cell? ⟨w.heap.size, 1, none⟩ = some (.int .i64 (q : Nat)) := fun yy => wd_at hln (zb_lt hln) 1 rfl yy
  have wu' : ∀ yy : Wd W.heap.size W, yy.v.cell? ⟨a, 1, none⟩ = some (.int .i64 u) := fun yy => wd_at hbu (zb_lt hbu) 1 rfl yy
  have wv' : ∀ yy : Wd W.heap.size W, yy.v.cell? ⟨b, 1, none⟩ = some (.int .i64 v) := fun yy => wd_at hbv (zb_lt hbv) 1 rfl yy
  haveI := Wd.ne
  have HLN := Lib.hid hln
  clear hln hbu hbv hbW
  rcases HGD.out with hg | hg
  all_goals
    go_wp2_with fail
    refine wp_region_tail 12 13 (by kernel_rfl) (by kernel_rfl) (by decide) ?_
    simp only [TkD]
    iterate 9
     apply wpB_step (by decide) (by rfl)
     · intro yy; go_simp; all_goals with_reducible rfl
     simp only [Act.put, SsT]
    refine wpB_step (by decide) (by rfl) (v := ?v9) ?hv9 ?_
    case hv9 => (intro yy; go_simp; exact C1.out _)
    simp only [Act.put, SsT]
    refine wpB_step (by decide) (by rfl) (v := ?v10) ?hv10 ?_
    case hv10 => (intro yy; go_simp; exact C2.out _)
    simp only [Act.put, SsT]
    refine wpB_step (by decide) (by rfl) (v := ?v11) ?hv11 ?_
    case hv11 => (intro yy; go_simp; exact C3.out _)
    simp only [Act.put, SsT]
    refine wpB_nil ?_
    intro yy
    go_wp2_with (first
      | (go_at_call 126; refine (CS.out _ (HY.out yy)).mono ?_; rintro _ w3 ⟨rfl, hm3⟩))
    go_returns
    exact ⟨rfl, hm3⟩
end Lo
end Go.Proofs.YtjmifcnfnihhnaaGreatDoor
/- WALKS: numbers are moved. -/
set_option linter.unusedVariables false
set_option linter.unusedSimpArgs false
namespace Go.Proofs.YtjmifcnfnihhnaaGreatDoor
namespace Lo
open Go.RowKit Lr
theorem lb_nw {w : World} {o : Obj} {b : Nat} (h : b = w.heap.size) : (w.alloc o).heap[b]? = some o := by subst h; exact lb_new w o
theorem lb_set_at {w : World} {b : Nat} {a : Array Value} {t : TypeId} (h : w.heap[b]? = some (.cells a t (0, 0))) {i : Nat} (hi : i < a.size) (u : Value) : (w.setCell ⟨b, i, none⟩ u).cell? ⟨b, i, none⟩ = some u :=
  lb_at (lb_set h i u) i (by simp [hi])
/-- a result of two cells in memory -/
theorem res_two {w : World} {b : Nat} {x y : Value} {t : TypeId} (h : w.heap[b]? = some (.cells #[x, y] t (0, 0))) : (∀ u, (w.setCell ⟨b, 0, none⟩ u).cell? ⟨b, 0, none⟩ = some u) ∧ (∀ u v, ((w.setCell ⟨b, 0, none⟩ u).setCell ⟨b, 1, none⟩ v).cell? ⟨b, 1, none⟩ = some v) ∧ w.cell? ⟨b, 0, none⟩ = some x ∧ w.cell? ⟨b, 1, none⟩ = some y ∧ w.frozen? ⟨b, 0, none⟩ = false ∧ w.frozen? ⟨b, 1, none⟩ = false :=
  ⟨fun u => lb_set_at h (by simp) u, fun u v => lb_set_at (lb_set h 0 u) (by simp) v, lb_at h 0 rfl, lb_at h 1 rfl, lb_f h 0, lb_f h 1⟩
theorem two_set {w : World} {b : Nat} {x y : Value} {t : TypeId} (h : w.heap[b]? = some (.cells #[x, y] t (0, 0))) (u v : Value) : ((w.setCell ⟨b, 0, none⟩ u).setCell ⟨b, 1, none⟩ v).heap[b]? = some (.cells #[u, v] t (0, 0)) := lb_set (lb_set h 0 u) 1 v
theorem below_two {B b : Nat} {w w1 : World} (h : Below B w w1) (hb : B ≤ b) (u v : Value) : Below B w ((w1.setCell ⟨b, 0, none⟩ u).setCell ⟨b, 1, none⟩ v) := (h.setCell (p := ⟨b, 0, none⟩) hb u).setCell (p := ⟨b, 1, none⟩) hb v
theorem bb1 {w w1 : World} {o1 : Obj} (hb : Below (w.alloc o1).heap.size (w.alloc o1) w1) (o2 : Obj) : Below w.heap.size w (w1.alloc o2) := b2 hb
theorem moved_ret {W : World} {tmps : Array Value} {b : Nat} {x0 x1 : Value} {t : TypeId} {Q : Ending → World → Prop} (ht : tmps.getD 4 undef = .pointer (some ⟨b, 0, none⟩)) (hb : W.heap[b]? = some (.cells #[x0, x1] t (0, 0))) (hq : Q (.returned (.agg #[x0, x1])) W) :
    bodyPost Tryz.prog Tryz.f124 Q Exit.ret { tmps := tmps, defers := [] } W := by
  have c0 : W.cell? ⟨b, 0, none⟩ = some x0 := lb_at hb 0 rfl
  have c1 : W.cell? ⟨b, 1, none⟩ = some x1 := lb_at hb 1 rfl
  have ht' : tmps[4]?.getD undef = .pointer (some ⟨b, 0, none⟩) := by simpa using ht
  exact bodyPost_ret (v := .agg #[x0, x1]) (by simp [results, Tryz.results124, go_sem, ht', c0, c1]) rfl hq
theorem al2_low {w : World} (o1 o2 : Obj) : Below w.heap.size w ((w.alloc o1).alloc o2) := ((Below.refl _ _).alloc (Nat.le_refl _) _).alloc (by simp) _
theorem al2_snd {w w1 : World} {o1 o2 : Obj} (hb : Below ((w.alloc o1).alloc o2).heap.size ((w.alloc o1).alloc o2) w1) : w1.heap[w.heap.size + 1]? = some o2 := by
  have h := boxed (w := w.alloc o1) hb
  simp only [World.size_alloc] at h
  exact h
theorem al2_on {w w1 : World} {o1 o2 : Obj} (hb : Below ((w.alloc o1).alloc o2).heap.size ((w.alloc o1).alloc o2) w1) : Below w.heap.size w w1 := below_box (below_box hb)
/-- what is asked of a function that only reads -/
abbrev Rd (w : World) (f : FuncId) (args : Array Value) (v : Value) : Prop := ∀ W, Below w.heap.size w W → Calls Tryz.prog f args W fun e w' => e = .returned v ∧ Below W.heap.size W w'
section
variable {w : World} {r : Nat} {q x y p u : Int} {u0 : Bool}
set_option maxRecDepth 100000 in
theorem moved_mov (h : Rd w 127 #[.pointer (some ⟨r, 0, none⟩), .int .i64 x] (.agg #[.bool u0, .int .i64 u])) : Rd w 124 #[.pointer (some ⟨r, 0, none⟩), .agg #[.int .i64 2, .int .i64 q, .int .i64 x, .int .i64 y, .int .i64 p]] (.agg #[.bool u0, .int .i64 u]) := by
  intro W hW
  have C1 : Hid (Rd W 127 #[.pointer (some ⟨r, 0, none⟩), .int .i64 x] (.agg #[.bool u0, .int .i64 u])) := fun W' hW' => h W' (hW.trans (hW'.mono hW.size))
  clear h hW
  go_enter Tryz.func124, Tryz.ntmps124
  go_wp2_with (first
    | (go_at_call 127; refine (C1.out _ (al2_low _ _)).mono ?_; rintro _ w1 ⟨rfl, hb1⟩; obtain ⟨r0, r1, r3, r4, r5, r6⟩ := res_two (al2_snd hb1); have hs1 := zb_lt (al2_snd hb1)))
  exact moved_ret rfl (two_set (al2_snd hb1) _ _) ⟨rfl, below_two (al2_on hb1) (Nat.le_succ _) _ _⟩
set_option maxRecDepth 100000 in
theorem moved_sts (h : Rd w 127 #[.pointer (some ⟨r, 0, none⟩), .int .i64 q] (.agg #[.bool u0, .int .i64 u])) : Rd w 124 #[.pointer (some ⟨r, 0, none⟩), .agg #[.int .i64 5, .int .i64 q, .int .i64 x, .int .i64 y, .int .i64 p]] (.agg #[.bool u0, .int .i64 u]) := by
  intro W hW
  have C1 : Hid (Rd W 127 #[.pointer (some ⟨r, 0, none⟩), .int .i64 q] (.agg #[.bool u0, .int .i64 u])) := fun W' hW' => h W' (hW.trans (hW'.mono hW.size))
  clear h hW
  go_enter Tryz.func124, Tryz.ntmps124
  go_wp2_with (first
    | (go_at_call 127; refine (C1.out _ (al2_low _ _)).mono ?_; rintro _ w1 ⟨rfl, hb1⟩; obtain ⟨r0, r1, r3, r4, r5, r6⟩ := res_two (al2_snd hb1); have hs1 := zb_lt (al2_snd hb1)))
  exact moved_ret rfl (two_set (al2_snd hb1) _ _) ⟨rfl, below_two (al2_on hb1) (Nat.le_succ _) _ _⟩
set_option maxRecDepth 100000 in
theorem moved_s3 (h : Rd w 166 #[.pointer (some ⟨r, 0, none⟩), .int .i64 x] (.agg #[.bool u0, .int .i64 u])) : Rd w 124 #[.pointer (some ⟨r, 0, none⟩), .agg #[.int .i64 3, .int .i64 q, .int .i64 x, .int .i64 y, .int .i64 p]] (.agg #[.bool u0, .int .i64 u]) := by
  intro W hW
  have C1 : Hid (Rd W 166 #[.pointer (some ⟨r, 0, none⟩), .int .i64 x] (.agg #[.bool u0, .int .i64 u])) := fun W' hW' => h W' (hW.trans (hW'.mono hW.size))
  clear h hW
  go_enter Tryz.func124, Tryz.ntmps124
  go_wp2_with (first
    | (go_at_call 166; refine (C1.out _ (al2_low _ _)).mono ?_; rintro _ w1 ⟨rfl, hb1⟩; obtain ⟨r0, r1, r3, r4, r5, r6⟩ := res_two (al2_snd hb1); have hs1 := zb_lt (al2_snd hb1)))
  exact moved_ret rfl (two_set (al2_snd hb1) _ _) ⟨rfl, below_two (al2_on hb1) (Nat.le_succ _) _ _⟩
set_option maxRecDepth 100000 in
theorem moved_s4 (h : Rd w 166 #[.pointer (some ⟨r, 0, none⟩), .int .i64 x] (.agg #[.bool u0, .int .i64 u])) : Rd w 124 #[.pointer (some ⟨r, 0, none⟩), .agg #[.int .i64 4, .int .i64 q, .int .i64 x, .int .i64 y, .int .i64 p]] (.agg #[.bool u0, .int .i64 u]) := by
  intro W hW
  have C1 : Hid (Rd W 166 #[.pointer (some ⟨r, 0, none⟩), .int .i64 x] (.agg #[.bool u0, .int .i64 u])) := fun W' hW' => h W' (hW.trans (hW'.mono hW.size))
  clear h hW
  go_enter Tryz.func124, Tryz.ntmps124
  go_wp2_with (first
    | (go_at_call 166; refine (C1.out _ (al2_low _ _)).mono ?_; rintro _ w1 ⟨rfl, hb1⟩; obtain ⟨r0, r1, r3, r4, r5, r6⟩ := res_two (al2_snd hb1); have hs1 := zb_lt (al2_snd hb1)))
  exact moved_ret rfl (two_set (al2_snd hb1) _ _) ⟨rfl, below_two (al2_on hb1) (Nat.le_succ _) _ _⟩
theorem moved_clr : Rd w 124 #[.pointer (some ⟨r, 0, none⟩), .agg #[.int .i64 6, .int .i64 q, .int .i64 x, .int .i64 y, .int .i64 p]] (.agg #[.bool false, .int .i64 0]) := by
  intro W hW
  clear hW
  go_enter Tryz.func124, Tryz.ntmps124
  go_wp2
  go_returns
  exact ⟨rfl, al2_low _ _⟩
set_option maxRecDepth 100000 in
set_option maxHeartbeats 1600000 in
theorem moved_ldi {k0 k1 k2 : Value} {Z : Int} (hlt : r < w.heap.size) (c0 : w.cell? ⟨r, 0, none⟩ = some k0) (c1 : w.cell? ⟨r, 1, none⟩ = some k1) (c2 : w.cell? ⟨r, 2, none⟩ = some k2) (h : Rd w 165 #[.agg #[k0, k1, k2], .int .i64 x] (.int .i64 Z)) : Rd w 124 #[.pointer (some ⟨r, 0, none⟩), .agg #[.int .i64 1, .int .i64 q, .int .i64 x, .int .i64 y, .int .i64 p]] (.agg #[.bool false, .int .i64 Z]) := by
  intro V hV
  have C1 : Hid (Rd V 165 #[.agg #[k0, k1, k2], .int .i64 x] (.int .i64 Z)) := fun W' hW' => h W' (hV.trans (hW'.mono hV.size))
  have hltV : r < V.heap.size := Nat.lt_of_lt_of_le hlt hV.size
  have c0 := (hV.cell (p := ⟨r, 0, none⟩) hlt).trans c0
  have c1 := (hV.cell (p := ⟨r, 1, none⟩) hlt).trans c1
  have c2 := (hV.cell (p := ⟨r, 2, none⟩) hlt).trans c2
  clear h hV hlt
  have C2 : Hid (∀ W', Calls Tryz.prog 129 #[.int .i64 Z] W' fun e w' => e = .returned (.agg #[.bool false, .int .i64 Z]) ∧ Below W'.heap.size W' w') := fun W' => numberOf_w _ _
  go_enter Tryz.func124, Tryz.ntmps124
  go_wp2_with fail
  have hW := al2_low (w := V) (.cells #[.int .i64 1, .int .i64 q, .int .i64 x, .int .i64 y, .int .i64 p] 99 (0, 0)) (.cells #[.bool false, .int .i64 0] 110 (0, 0))
  have hln : ((V.alloc (.cells #[.int .i64 1, .int .i64 q, .int .i64 x, .int .i64 y, .int .i64 p] 99 (0, 0))).alloc (.cells #[.bool false, .int .i64 0] 110 (0, 0))).heap[V.heap.size]? = some (.cells #[.int .i64 1, .int .i64 q, .int .i64 x, .int .i64 y, .int .i64 p] 99 (0, 0)) := lb_below (lb_new V _) ((Below.refl (V.alloc _).heap.size (V.alloc _)).alloc (Nat.le_refl _) _) (by simp)
  have hrs : ((V.alloc (.cells #[.int .i64 1, .int .i64 q, .int .i64 x, .int .i64 y, .int .i64 p] 99 (0, 0))).alloc (.cells #[.bool false, .int .i64 0] 110 (0, 0))).heap[V.heap.size + 1]? = some (.cells #[.bool false, .int .i64 0] 110 (0, 0)) := lb_nw (w := V.alloc _) (by simp)
  generalize (V.alloc (.cells #[.int .i64 1, .int .i64 q, .int .i64 x, .int .i64 y, .int .i64 p] 99 (0, 0))).alloc (.cells #[.bool false, .int .i64 0] 110 (0, 0)) = W at hW hln hrs ⊢
  have HY : Hid (∀ yy : Wd W.heap.size W, Below V.heap.size V yy.v) := fun yy => hW.trans (yy.h.mono hW.size)
  have f2 : ∀ yy : Wd W.heap.size W, yy.v.cell? ⟨V.heap.size, 2, none⟩ = some (.int .i64 x) := fun yy => wd_at hln (zb_lt hln) 2 rfl yy
  have d0 : ∀ yy : Wd W.heap.size W, yy.v.cell? ⟨r, 0, none⟩ = some k0 := fun yy => ((HY.out yy).cell (p := ⟨r, 0, none⟩) hltV).trans c0
  have d1 : ∀ yy : Wd W.heap.size W, yy.v.cell? ⟨r, 1, none⟩ = some k1 := fun yy => ((HY.out yy).cell (p := ⟨r, 1, none⟩) hltV).trans c1
  have d2 : ∀ yy : Wd W.heap.size W, yy.v.cell? ⟨r, 2, none⟩ = some k2 := fun yy => ((HY.out yy).cell (p := ⟨r, 2, none⟩) hltV).trans c2
  have HRS : Hid (∀ yy : Wd W.heap.size W, yy.v.heap[V.heap.size + 1]? = some (.cells #[.bool false, .int .i64 0] 110 (0, 0))) := fun yy => lb_below hrs yy.h (zb_lt hrs)
  haveI := Wd.ne
  clear hW hln hrs c0 c1 c2
  refine wp_region_tail 8 9 (by kernel_rfl) (by kernel_rfl) (by decide) ?_
  simp only [TkD]
  iterate 6
   apply wpB_step (by decide) (by rfl)
   · intro yy; go_simp; all_goals with_reducible rfl
   simp only [Act.put, SsT]
  refine wpB_step (by decide) (by rfl) (v := ?v6) ?hv6 ?_
  case hv6 => (intro yy; go_simp; exact C1.out _ (HY.out _))
  simp only [Act.put, SsT]
  refine wpB_step (by decide) (by rfl) (v := ?v7) ?hv7 ?_
  case hv7 => (intro yy; go_simp; exact C2.out _)
  simp only [Act.put, SsT]
  refine wpB_nil ?_
  intro yy
  obtain ⟨r0, r1, r3, r4, r5, r6⟩ := res_two (HRS.out yy)
  have hs1 := zb_lt (HRS.out yy)
  go_wp2_with fail
  exact moved_ret rfl (two_set (HRS.out yy) _ _) ⟨rfl, below_two (HY.out yy) (Nat.le_succ _) _ _⟩
/-- into a register -/
theorem move_r {o : Int} (ho : o = 1 ∨ o = 2 ∨ o = 3) {q : Nat} (hq : q < 8) {arr : Array Value} {ty : TypeId} {lo hi : Nat} (hb : w.heap[r]? = some (.cells arr ty (lo, hi))) (hz : lo = hi ∨ arr.size ≤ lo) (hs : 22 ≤ arr.size) (hC : Rd w 124 #[.pointer (some ⟨r, 0, none⟩), .agg #[.int .i64 o, .int .i64 (q : Nat), .int .i64 x, .int .i64 y, .int .i64 p]] (.agg #[.bool u0, .int .i64 u])) :
    Calls Tryz.prog 74 #[.pointer (some ⟨r, 0, none⟩), .agg #[.int .i64 o, .int .i64 (q : Nat), .int .i64 x, .int .i64 y, .int .i64 p]] w fun e w' => e = .returned (.tuple #[]) ∧ Cel w w' r ((arr.setIfInBounds (6 + q * 2) (.bool u0)).setIfInBounds (6 + q * 2 + 1) (.int .i64 u)) ty (lo, hi) := by
  have HC := Lib.hid hC
  have CS : Hid (∀ W, Below w.heap.size w W → Calls Tryz.prog 126 #[.pointer (some ⟨r, 0, none⟩), .int .i64 (q : Nat), .agg #[.bool u0, .int .i64 u]] W fun e w' => e = .returned (.tuple #[]) ∧ Cel w w' r ((arr.setIfInBounds (6 + q * 2) (.bool u0)).setIfInBounds (6 + q * 2 + 1) (.int .i64 u)) ty (lo, hi)) := fun W hW => by
    have hk := (hW.block r (zb_lt hb)).trans hb
    exact (setRegister_w hq hk hz hs).mono fun e w' h => ⟨h.1, h.2.under hW⟩
  clear hC hb hz hs
  rcases ho with rfl | rfl | rfl
  all_goals
    go_enter Tryz.func74, Tryz.ntmps74
    go_wp2_with (first
      | (go_at_call 124; refine (HC.out _ ((Below.refl _ _).alloc (Nat.le_refl _) _)).mono ?_; rintro _ w1 ⟨rfl, hb1⟩; have l0w1 := lb_at (boxed hb1) 0 rfl; have l1w1 := lb_at (boxed hb1) 1 rfl; have l2w1 := lb_at (boxed hb1) 2 rfl; have hw1 := zb_lt (boxed hb1))
      | (go_at_call 126; refine (CS.out _ (bb1 hb1 _)).mono ?_; rintro _ w2 ⟨rfl, hm2⟩))
    go_returns
    exact ⟨rfl, hm2⟩
/-- into a slot -/
theorem move_s {o : Int} (ho : o = 5 ∨ o = 6) {g nf cap sb ns cp n : Nat} (h : Sls w r g nf cap sb ns cp) (hnf : nf ≤ 1000) (hns : ns ≤ 2000) (hc1 : nf + 1 ≤ cap) (hc2 : ns ≤ cp) (hn : n < ns) {b0 : Int} {arr : Array Value} {ty : TypeId} {lo hi : Nat} (hb : w.heap[sb]? = some (.cells arr ty (lo, hi))) (hz : lo = hi ∨ arr.size ≤ lo) (q1 : arr[n * 2]? = some (.bool false)) (q2 : arr[n * 2 + 1]? = some (.int .i64 b0)) (hC : Rd w 124 #[.pointer (some ⟨r, 0, none⟩), .agg #[.int .i64 o, .int .i64 q, .int .i64 (n : Nat), .int .i64 y, .int .i64 p]] (.agg #[.bool false, .int .i64 u])) :
    Calls Tryz.prog 74 #[.pointer (some ⟨r, 0, none⟩), .agg #[.int .i64 o, .int .i64 q, .int .i64 (n : Nat), .int .i64 y, .int .i64 p]] w fun e w' => e = .returned (.tuple #[]) ∧ Cel w w' sb ((arr.setIfInBounds (n * 2) (.bool false)).setIfInBounds (n * 2 + 1) (.int .i64 u)) ty (lo, hi) := by
  have HC := Lib.hid hC
  have CS : Hid (∀ W, Below w.heap.size w W → Calls Tryz.prog 125 #[.pointer (some ⟨r, 0, none⟩), .int .i64 (n : Nat), .agg #[.bool false, .int .i64 u]] W fun e w' => e = .returned (.tuple #[]) ∧ Cel w w' sb ((arr.setIfInBounds (n * 2) (.bool false)).setIfInBounds (n * 2 + 1) (.int .i64 u)) ty (lo, hi)) := fun W hW => by
    have hk := (hW.block sb (zb_lt hb)).trans hb
    exact (setSlot_w (h.on hW) hnf hns hc1 hc2 hn ((Ev.cell_of hk _).trans q1) ((Ev.cell_of hk _).trans q2) hk hz u).mono fun e w' h => ⟨h.1, h.2.under hW⟩
  clear hC hb hz h q1 q2
  rcases ho with rfl | rfl
  all_goals
    go_enter Tryz.func74, Tryz.ntmps74
    go_wp2_with (first
      | (go_at_call 124; refine (HC.out _ ((Below.refl _ _).alloc (Nat.le_refl _) _)).mono ?_; rintro _ w1 ⟨rfl, hb1⟩; have l0w1 := lb_at (boxed hb1) 0 rfl; have l1w1 := lb_at (boxed hb1) 1 rfl; have l2w1 := lb_at (boxed hb1) 2 rfl; have hw1 := zb_lt (boxed hb1))
      | (go_at_call 125; refine (CS.out _ (bb1 hb1 _)).mono ?_; rintro _ w2 ⟨rfl, hm2⟩))
    go_returns
    exact ⟨rfl, hm2⟩
/-- out of a slot that is emptied, into a register -/
theorem move_b {q : Nat} (hq : q < 8) {g nf cap sb ns cp n : Nat} (h : Sls w r g nf cap sb ns cp) (hnf : nf ≤ 1000) (hns : ns ≤ 2000) (hc1 : nf + 1 ≤ cap) (hc2 : ns ≤ cp) (hn : n < ns) {arr : Array Value} {ty : TypeId} {lo hi : Nat} (hb : w.heap[sb]? = some (.cells arr ty (lo, hi))) (hz : lo = hi ∨ arr.size ≤ lo) (q1 : arr[n * 2]? = some (.bool false)) (q2 : arr[n * 2 + 1]? = some (.int .i64 u)) {arr2 : Array Value} {ty2 : TypeId} {lo2 hi2 : Nat} (hb2 : w.heap[r]? = some (.cells arr2 ty2 (lo2, hi2))) (hz2 : lo2 = hi2 ∨ arr2.size ≤ lo2) (hs : 22 ≤ arr2.size) (hne : r ≠ sb) (hC : Rd w 124 #[.pointer (some ⟨r, 0, none⟩), .agg #[.int .i64 4, .int .i64 (q : Nat), .int .i64 (n : Nat), .int .i64 y, .int .i64 p]] (.agg #[.bool false, .int .i64 u])) :
    Calls Tryz.prog 74 #[.pointer (some ⟨r, 0, none⟩), .agg #[.int .i64 4, .int .i64 (q : Nat), .int .i64 (n : Nat), .int .i64 y, .int .i64 p]] w fun e w' => e = .returned (.tuple #[]) ∧ ∃ wm, Cel w wm sb ((arr.setIfInBounds (n * 2) (.bool false)).setIfInBounds (n * 2 + 1) (.int .i64 0)) ty (lo, hi) ∧ Cel wm w' r ((arr2.setIfInBounds (6 + q * 2) (.bool false)).setIfInBounds (6 + q * 2 + 1) (.int .i64 u)) ty2 (lo2, hi2) := by
  have HC := Lib.hid hC
  have hrl := zb_lt hb2
  have hsl := zb_lt hb
  have CS : Hid (∀ W, Below w.heap.size w W → Calls Tryz.prog 125 #[.pointer (some ⟨r, 0, none⟩), .int .i64 (n : Nat), .agg #[.bool false, .int .i64 0]] W fun e w' => e = .returned (.tuple #[]) ∧ Cel W w' sb ((arr.setIfInBounds (n * 2) (.bool false)).setIfInBounds (n * 2 + 1) (.int .i64 0)) ty (lo, hi)) := fun W hW => by
    have hk := (hW.block sb (zb_lt hb)).trans hb
    exact setSlot_w (h.on hW) hnf hns hc1 hc2 hn ((Ev.cell_of hk _).trans q1) ((Ev.cell_of hk _).trans q2) hk hz 0
  have CR : Hid (∀ W, W.heap[r]? = some (.cells arr2 ty2 (lo2, hi2)) → Calls Tryz.prog 126 #[.pointer (some ⟨r, 0, none⟩), .int .i64 (q : Nat), .agg #[.bool false, .int .i64 u]] W fun e w' => e = .returned (.tuple #[]) ∧ Cel W w' r ((arr2.setIfInBounds (6 + q * 2) (.bool false)).setIfInBounds (6 + q * 2 + 1) (.int .i64 u)) ty2 (lo2, hi2)) := fun W hk => setRegister_w hq hk hz2 hs
  have HB2 : Hid (∀ W w', Below w.heap.size w W → Cel W w' sb ((arr.setIfInBounds (n * 2) (.bool false)).setIfInBounds (n * 2 + 1) (.int .i64 0)) ty (lo, hi) → w'.heap[r]? = some (.cells arr2 ty2 (lo2, hi2))) := fun W w' hW hc => (hc.rest r (Nat.lt_of_lt_of_le hrl hW.size) hne).trans ((hW.block r hrl).trans hb2)
  clear hC hb hz h q1 q2 hb2 hz2 hs hrl
  go_enter Tryz.func74, Tryz.ntmps74
  go_wp2_with (first
    | (go_at_call 124; refine (HC.out _ ((Below.refl _ _).alloc (Nat.le_refl _) _)).mono ?_; rintro _ w1 ⟨rfl, hb1⟩; have l0w1 := lb_at (boxed hb1) 0 rfl; have l1w1 := lb_at (boxed hb1) 1 rfl; have l2w1 := lb_at (boxed hb1) 2 rfl; have hw1 := zb_lt (boxed hb1); have hsz1 := (below_box hb1).size)
    | (go_at_call 125; refine (CS.out _ (bb1 hb1 _)).mono ?_; rintro _ w2 ⟨rfl, hm2⟩; have hA1 := (Below.refl w1.heap.size w1).alloc (Nat.le_refl _) (.cells #[.bool false, .int .i64 u] 110 (0, 0)); have hln := (hm2.rest w.heap.size (by simp only [World.size_alloc]; omega) (by omega)).trans (lb_below (boxed hb1) hA1 (zb_lt (boxed hb1))); have hvl := (hm2.rest w1.heap.size (by simp only [World.size_alloc]; omega) (by omega)).trans (lb_new w1 (.cells #[.bool false, .int .i64 u] 110 (0, 0))); have l0w2 := lb_at hln 0 rfl; have l1w2 := lb_at hln 1 rfl; have l2w2 := lb_at hln 2 rfl; have v0 : w2.cell? ⟨w1.heap.size, 0, none⟩ = some (.bool false) := lb_at hvl 0 rfl; have v1 : w2.cell? ⟨w1.heap.size, 1, none⟩ = some (.int .i64 u) := lb_at hvl 1 rfl; have HR2 := Lib.hid (HB2.out _ _ (bb1 hb1 _) hm2); have HM2 := Lib.hid (hm2.under (bb1 hb1 _)); clear hm2 hln hvl hA1)
    | (go_at_call 126; refine (CR.out _ HR2.out).mono ?_; rintro _ w3 ⟨rfl, hm3⟩))
  go_returns
  exact ⟨rfl, _, HM2.out, hm3⟩
end
end Lo
end Go.Proofs.YtjmifcnfnihhnaaGreatDoor
