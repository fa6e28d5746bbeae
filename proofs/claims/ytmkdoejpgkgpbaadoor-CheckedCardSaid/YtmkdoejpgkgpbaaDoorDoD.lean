/- AID: the document's rows of Booleans. -/
import Derived.Test.YtmkdoejpgkgpbaaDoorDoC
import Derived.Test.YtmkdoejpgkgpbaaDoorDoP
import Derived.Test.YtmkdoejpgkgpbaaDoorRoN
import Derived.Deep.OwnRows
set_option linter.unusedVariables false
set_option linter.unusedSimpArgs false
namespace Go.Proofs.YtmkdoejpgkgpbaaDoor
open Go.RowKit Li Ro

theorem Tryd.infB : (Tryd.prog.info? 4).map (fun i => (i.zero, i.size, i.bytes)) = some (some (.bool false), 1, 1) := by kernel_rfl
theorem Tryd.undB : Tryd.prog.underlying 77 = some (.slice 4) := by kernel_rfl
theorem Tryd.infBB : (Tryd.prog.info? 77).map (fun i => (i.zero, i.size, i.bytes)) = some (some (.slice none 0 0), 1, 24) := by kernel_rfl
theorem Tryd.undBB : Tryd.prog.underlying 76 = some (.slice 77) := by kernel_rfl
def rwV (g : Nat → Nat) (wd n : Nat) : List Value := (List.range n).map fun j => .slice (some ⟨g j, 0, none⟩) wd wd
theorem rwV_at {g : Nat → Nat} {wd n j : Nat} (h : j < n) : (rwV g wd n)[j]? = some (.slice (some ⟨g j, 0, none⟩) wd wd) := by simp [rwV, h]
theorem rwV_succ {g : Nat → Nat} {wd n b : Nat} : rwV (fun m => if m = n then b else g m) wd (n + 1) = rwV g wd n ++ [.slice (some ⟨b, 0, none⟩) wd wd] := by
  unfold rwV
  rw [List.range_succ, List.map_append]
  congr 1
  · apply List.map_congr_left
    intro j hj
    rw [List.mem_range] at hj
    have e : ¬ j = n := by omega
    simp [e]
  · simp
structure LaidD (w : World) (base : Nat) (v : Value) (n wd : Nat) (g : Nat → Nat) (la : Nat → Nat → Bool) : Prop where
  own : w.ownsRow base 77 1 v n (rwV g wd n)
  row : ∀ j, j < n → BR w (g j) wd (la j)
  lo : ∀ j, j < n → base ≤ g j
  inj : ∀ i j, i < n → j < n → g i = g j → i = j
theorem LaidD.ne {w : World} {base : Nat} {v : Value} {n wd : Nat} {g : Nat → Nat} {la : Nat → Nat → Bool} (h : LaidD w base v n wd g la) {b m : Nat} {f : Nat → Bool} (hb : BR w b m f) : v.ownBlock ≠ some b := fun e => by
  rcases h.own.2 with ⟨h1, _⟩ | ⟨g', cap, cur, h1, _, h3, _⟩
  · rw [h1] at e; cases e
  · rw [h1] at e
    injection e with e
    have e' : g' = b := e
    subst e'
    unfold BR at hb
    rw [h3] at hb
    injection hb with hb
    injection hb with _ ht
    exact absurd ht (by decide)
theorem LaidD.on {w w' : World} {base : Nat} {v : Value} {n wd : Nat} {g : Nat → Nat} {la : Nat → Nat → Bool} (h : LaidD w base v n wd g la) (hb : Below w.heap.size w w') : LaidD w' base v n wd g la :=
  ⟨own_below h.own hb, fun j hj => lb_below (h.row j hj) hb (lt_of_block (h.row j hj)), h.lo, h.inj⟩
/-- another block of Booleans has changed -/
theorem LaidD.lone {w w' : World} {base b m : Nat} {v : Value} {n wd : Nat} {g : Nat → Nat} {la : Nat → Nat → Bool} {f : Nat → Bool} (h : LaidD w base v n wd g la) (hb : BR w b m f) (hlo : Lone b w w') (hne : ∀ j, j < n → g j ≠ b) : LaidD w' base v n wd g la :=
  ⟨or_keep h.own (fun c hc => hlo.rest c (h.own.lt c hc).2 (fun e => h.ne hb (e ▸ hc))), fun j hj => (hlo.rest (g j) (lt_of_block (h.row j hj)) (hne j hj)).trans (h.row j hj), h.lo, h.inj⟩
/-- row j has changed -/
theorem LaidD.upd {w w' : World} {base j : Nat} {v : Value} {n wd : Nat} {g : Nat → Nat} {la : Nat → Nat → Bool} {f : Nat → Bool} (h : LaidD w base v n wd g la) (hj : j < n) (hlo : Lone (g j) w w') (hf : BR w' (g j) wd f) : LaidD w' base v n wd g (fun m => if m = j then f else la m) :=
  ⟨or_keep h.own (fun c hc => hlo.rest c (h.own.lt c hc).2 (fun e => h.ne (h.row j hj) (e ▸ hc))), fun m hm => by
    by_cases e : m = j
    · subst e; rw [if_pos rfl]; exact hf
    · rw [if_neg e]; exact (hlo.rest (g m) (lt_of_block (h.row m hm)) (fun e' => e (h.inj m j hm hj e'))).trans (h.row m hm), h.lo, h.inj⟩
theorem LaidD.congr {w : World} {base : Nat} {v : Value} {n wd : Nat} {g : Nat → Nat} {la la' : Nat → Nat → Bool} (h : LaidD w base v n wd g la) (he : ∀ j x, j < n → x < wd → la j x = la' j x) : LaidD w base v n wd g la' :=
  ⟨h.own, fun j hj => by have := h.row j hj; unfold BR at *; rw [this, brow_congr (fun x hx => he j x hj hx)], h.lo, h.inj⟩
theorem LaidD.cell {w : World} {base : Nat} {n wd gv cap : Nat} {g : Nat → Nat} {la : Nat → Nat → Bool} (h : LaidD w base (.slice (some ⟨gv, 0, none⟩) n cap) n wd g la) {j : Nat} (hj : j < n) : w.cell? ⟨gv, j, none⟩ = some (.slice (some ⟨g j, 0, none⟩) wd wd) := by
  have := h.own.cellAt j (by omega)
  rw [this]
  exact rwV_at hj
/-- one row more -/
theorem LaidD.push {w w' : World} {base b : Nat} {v v' : Value} {n wd : Nat} {g : Nat → Nat} {la : Nat → Nat → Bool} {f : Nat → Bool} (h : LaidD w base v n wd g la) (hf : BR w b wd f) (hb0 : base ≤ b) (hbn : ∀ j, j < n → g j ≠ b)
    (hown : w'.ownsRow base 77 1 v' (n + 1) (rwV g wd n ++ [.slice (some ⟨b, 0, none⟩) wd wd])) (hk : ∀ c, c < w.heap.size → v.ownBlock ≠ some c → w'.heap[c]? = w.heap[c]?) :
    LaidD w' base v' (n + 1) wd (fun m => if m = n then b else g m) (fun m => if m = n then f else la m) := by
  refine ⟨by rw [rwV_succ]; exact hown, fun j hj => ?_, fun j hj => ?_, fun i j hi hj e => ?_⟩
  · by_cases e : j = n
    · subst e; rw [if_pos rfl, if_pos rfl]; exact (hk b (lt_of_block hf) (h.ne hf)).trans hf
    · rw [if_neg e, if_neg e]
      have hr := h.row j (by omega)
      exact (hk (g j) (lt_of_block hr) (h.ne hr)).trans hr
  · by_cases e : j = n
    · rw [if_pos e]; exact hb0
    · rw [if_neg e]; exact h.lo j (by omega)
  · by_cases e1 : i = n
    · by_cases e2 : j = n
      · omega
      · rw [if_pos e1, if_neg e2] at e; exact absurd e.symm (hbn j (by omega))
    · by_cases e2 : j = n
      · rw [if_neg e1, if_pos e2] at e; exact absurd e (hbn i (by omega))
      · rw [if_neg e1, if_neg e2] at e; exact h.inj i j (by omega) (by omega) e
theorem take_has {l : List Nat} {i x : Nat} (h : i < l.length) : (l.take (i + 1)).contains x = ((l.take i).contains x || x == l[i]) := by
  rw [List.take_succ_eq_append_getElem h]
  generalize l.take i = m
  generalize l[i] = y
  rw [Bool.eq_iff_iff]; simp
/-- the function's row, boxed -/
def fuB (s : ByteArray) (k : Nat) : Obj := .cells #[.int .i64 (r0 s k), .int .i64 (r1 s k), .int .i64 (r2 s k), .int .i64 (r3 s k), .int .i64 (en s k)] 50 (0, 0)
/-- what flow has in memory -/
structure FS (s : ByteArray) (k : Nat) (w w' : World) (gv cap cnt wd : Nat) (g : Nat → Nat) (re : Nat → Bool) (la : Nat → Nat → Bool) : Prop where
  ld : LaidD w' (w.heap.size + 2) (.slice (some ⟨gv, 0, none⟩) cnt cap) cnt wd g la
  br : BR w' (w.heap.size + 1) cnt re
  bx : w'.heap[w.heap.size]? = some (fuB s k)
  bl : Below w.heap.size w w'
  sz : w.heap.size + 2 ≤ w'.heap.size
theorem FS.on {s : ByteArray} {k : Nat} {w w1 w2 : World} {gv cap cnt wd : Nat} {g : Nat → Nat} {re : Nat → Bool} {la : Nat → Nat → Bool} (h : FS s k w w1 gv cap cnt wd g re la) (hb : Below w1.heap.size w1 w2) : FS s k w w2 gv cap cnt wd g re la :=
  ⟨h.ld.on hb, lb_below h.br hb (lt_of_block h.br), lb_below h.bx hb (lt_of_block h.bx), h.bl.trans (hb.mono h.bl.size), by have := h.sz; have := hb.size; omega⟩
theorem FS.reach {s : ByteArray} {k : Nat} {w w1 : World} {gv cap cnt wd : Nat} {g : Nat → Nat} {re : Nat → Bool} {la : Nat → Nat → Bool} (h : FS s k w w1 gv cap cnt wd g re la) (n : Nat) : FS s k w (w1.setCell ⟨w.heap.size + 1, n, none⟩ (.bool true)) gv cap cnt wd g (fun m => if m = n then true else re m) la :=
  ⟨h.ld.lone h.br ((Lone.refl (w.heap.size + 1) w1).set n (.bool true)) (fun j hj => by have := h.ld.lo j hj; omega), h.br.set n true, (Below.heap_setCell _ _ _ _ (show w.heap.size ≠ w.heap.size + 1 by omega)).trans h.bx, h.bl.setCell (p := ⟨w.heap.size + 1, n, none⟩) (show w.heap.size ≤ w.heap.size + 1 by omega) _, by rw [setCell_size]; exact h.sz⟩
theorem FS.struck {s : ByteArray} {k : Nat} {w w1 w2 : World} {gv cap cnt wd n : Nat} {g : Nat → Nat} {re : Nat → Bool} {la : Nat → Nat → Bool} {f : Nat → Bool} (h : FS s k w w1 gv cap cnt wd g re la) (hn : n < cnt) (hlo : Lone (g n) w1 w2) (hf : BR w2 (g n) wd f) : FS s k w w2 gv cap cnt wd g re (fun m => if m = n then f else la m) := by
  have h1 := h.ld.lo n hn
  have h2 := h.sz
  exact ⟨h.ld.upd hn hlo hf, (hlo.rest _ (by omega) (by omega)).trans h.br, (hlo.rest _ (by omega) (by omega)).trans h.bx, h.bl.trans (hlo.below.mono (by omega)), by have := hlo.size; omega⟩
theorem FS.la_eq {s : ByteArray} {k : Nat} {w w1 : World} {gv cap cnt wd : Nat} {g : Nat → Nat} {re : Nat → Bool} {la la' : Nat → Nat → Bool} (h : FS s k w w1 gv cap cnt wd g re la) (he : ∀ j x, j < cnt → x < wd → la j x = la' j x) : FS s k w w1 gv cap cnt wd g re la' := ⟨h.ld.congr he, h.br, h.bx, h.bl, h.sz⟩
theorem tkF_len {s : ByteArray} {k : Nat} (h : r1 s k ≤ 4) : (tkF s k).length ≤ 5 := by
  unfold tkF
  rw [List.length_append, List.length_range]
  split <;> simp <;> omega
theorem rdL_len {s : ByteArray} (hr : bad (rowB s) (hF s) 0 = none) {k pc : Nat} (h : Wl s k pc) : (rdL s pc).length ≤ 10 := by
  unfold rdL
  have h1 := h.f1
  have h3 := h.op1
  have h4 := h.op2
  generalize l0 s pc = op at *
  generalize l1 s pc = r at *
  generalize l2 s pc = x at *
  generalize l3 s pc = y at *
  by_cases g1 : op = 29 ∨ op = 31
  · have hx : x < hF s := by rcases g1 with rfl | rfl <;> simpa [fitB, ruN, rul] using h1
    have := tkF_len (r1_le hr hx).1
    have e : rdO s op r x y = tkF s x := by rcases g1 with rfl | rfl <;> simp [rdO]
    rw [e]; omega
  · by_cases g2 : op = 30 ∨ op = 32
    · have hx : x ≤ 4 := by rcases g2 with rfl | rfl <;> simpa [fitB, ruN, rul] using h1
      have e : rdO s op r x y = 7 :: List.range x := by rcases g2 with rfl | rfl <;> simp [rdO]
      rw [e]; simp; omega
    · unfold rdO
      rw [if_neg g1, if_neg g2]
      (repeat' split) <;> simp
end Go.Proofs.YtmkdoejpgkgpbaaDoor
