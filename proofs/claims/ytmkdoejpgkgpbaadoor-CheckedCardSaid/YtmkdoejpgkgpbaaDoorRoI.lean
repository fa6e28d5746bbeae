/- WALKS: the registers that a call reads, in the code; mayRead. -/
import Derived.Test.YtmkdoejpgkgpbaaDoorRoH
set_option linter.unusedVariables false
set_option linter.unusedSimpArgs false
namespace Go.Proofs.YtmkdoejpgkgpbaaDoor
open Go.RowKit Li Ro

/-- the code's flow, in memory -/
def flB' (vF vN vL : Value) (first : Nat) (vR : Value) : Obj := .cells #[vF, vN, vL, .int .i64 first, vR] 98 (0, 0)
set_option maxRecDepth 100000 in
set_option maxHeartbeats 3200000 in
theorem read_call {s : ByteArray} {w : World} {B f first op r x y p : Nat} {aF aN aL : Option Addr} {nF cFc nN cNc nL cLc : Nat} {vR : Value} (hcd : CdAt s w B (.slice aF nF cFc) (.slice aN nN cNc) (.slice aL nL cLc)) (hrow : bad (rowB s) (hF s) 0 = none) (hf : w.heap[f]? = some (flB' (.slice aF nF cFc) (.slice aN nN cNc) (.slice aL nL cLc) first vR)) (hop : op = 29 ∨ op = 31) (hx : x < hF s) :
    Calls Tryd.prog 62 #[.pointer (some ⟨f, 0, none⟩), .agg #[.int .i64 op, .int .i64 r, .int .i64 x, .int .i64 y, .int .i64 p]] w fun e w' => e = .returned (.int .i64 ((mkR (rdO s op r x y) : Nat) : Int)) ∧ Below w.heap.size w w' := by
  have HB : Hid (∀ o : Obj, Below w.heap.size w (w.alloc o)) := fun o => (Below.refl _ _).alloc (Nat.le_refl _) _
  have HE : Hid (mkR (tkL (r1 s x) (r2 s x)) = mkR (rdO s op r x y)) := by
    show _ = _
    rw [← tkF_tkL]
    rcases hop with rfl | rfl <;> simp [rdO]
  obtain ⟨hr1, hr2, hr3, hr4⟩ := r1_le hrow hx
  have hlt := lt_of_block hf
  have HBZ : Hid (∀ (o : Obj) (x : Wd (w.alloc o).heap.size (w.alloc o)), Below w.heap.size w x.v) := fun o x => (HB.out o).trans (x.h.mono (by rw [World.size_alloc]; omega))
  have CF : Hid (∀ W, Below w.heap.size w W → Calls Tryd.prog 41 #[.agg #[.slice aF nF cFc, .slice aN nN cNc, .slice aL nL cLc], .int .i64 x] W fun e w' => e = .returned (.agg #[.int .i64 (r0 s x), .int .i64 (r1 s x), .int .i64 (r2 s x), .int .i64 (r3 s x)]) ∧ Below W.heap.size W w') := fun W hW => fn_at hcd hx W hW
  have CE : Hid (∀ W, Calls Tryd.prog 53 #[.agg #[.int .i64 (r0 s x), .int .i64 (r1 s x), .int .i64 (r2 s x), .int .i64 (r3 s x)]] W fun e w' => e = .returned (.int .i64 ((mkR (tkL (r1 s x) (r2 s x)) : Nat) : Int)) ∧ Below W.heap.size W w') := fun W => entry_any hr1
  have hfa : ∀ o : Obj, (w.alloc o).heap[f]? = some (flB' (.slice aF nF cFc) (.slice aN nN cNc) (.slice aL nL cLc) first vR) := fun o => (Below.heap_alloc w o _ hlt).trans hf
  have hlt0 : ∀ o : Obj, f < (w.alloc o).heap.size := fun o => by rw [World.size_alloc]; omega
  have hlt1 : ∀ o : Obj, w.heap.size < (w.alloc o).heap.size := fun o => by rw [World.size_alloc]; omega
  have u0 : ∀ (o : Obj) (x : Wd (w.alloc o).heap.size (w.alloc o)), x.v.cell? ⟨f, 0, none⟩ = some (.slice aF nF cFc) := fun o x => Wd.at (hfa o) (hlt0 o) 0 rfl x
  have u1 : ∀ (o : Obj) (x : Wd (w.alloc o).heap.size (w.alloc o)), x.v.cell? ⟨f, 1, none⟩ = some (.slice aN nN cNc) := fun o x => Wd.at (hfa o) (hlt0 o) 1 rfl x
  have u2 : ∀ (o : Obj) (x : Wd (w.alloc o).heap.size (w.alloc o)), x.v.cell? ⟨f, 2, none⟩ = some (.slice aL nL cLc) := fun o x => Wd.at (hfa o) (hlt0 o) 2 rfl x
  have u3 : ∀ z : Wd (w.alloc (.cells #[.int .i64 op, .int .i64 r, .int .i64 x, .int .i64 y, .int .i64 p] 70 (0, 0))).heap.size (w.alloc (.cells #[.int .i64 op, .int .i64 r, .int .i64 x, .int .i64 y, .int .i64 p] 70 (0, 0))), z.v.cell? ⟨w.heap.size, 2, none⟩ = some (.int .i64 x) := fun z => Wd.at (lb_new w _) (hlt1 _) 2 rfl z
  generalize mkR (rdO s op r x y) = M at *
  generalize mkR (tkL (r1 s x) (r2 s x)) = M1 at *
  clear hfa hlt0 hlt1 hr1 hr2 hr3 hr4 hf hcd hrow
  generalize (r0 s x : Int) = q0 at *
  generalize (r1 s x : Int) = q1 at *
  generalize (r2 s x : Int) = q2 at *
  generalize (r3 s x : Int) = q3 at *
  haveI : ∀ (B : Nat) (W : World), Nonempty (Wd B W) := Wd.ne
  rcases hop with rfl | rfl
  all_goals
    go_enter Tryd.func62, Tryd.ntmps62
    go_wp2_with fail
    refine wp_region_wd (by kernel_rfl) (by kernel_rfl) ?_
    repeat (go_big_quiet_step ((first | (go_at_call 41; exact calls_wd (Nat.le_refl _) (CF.out _ (HBZ.out _ _))) | (go_at_call 53; exact calls_wd (Nat.le_refl _) (CE.out _)))))
    refine wpQuiet_nil ?_
    intro z
    go_wp2_with fail
    go_ret
    exact ⟨ret_int' (by rw [HE.out]), HBZ.out _ z⟩
/-- what a line that is well made reads -/
theorem read_any {s : ByteArray} {w : World} {B f first k pc : Nat} {aF aN aL : Option Addr} {nF cFc nN cNc nL cLc : Nat} {vR : Value} (hcd : CdAt s w B (.slice aF nF cFc) (.slice aN nN cNc) (.slice aL nL cLc)) (hrow : bad (rowB s) (hF s) 0 = none) (hf : w.heap[f]? = some (flB' (.slice aF nF cFc) (.slice aN nN cNc) (.slice aL nL cLc) first vR)) (hw : Wl s k pc) :
    Calls Tryd.prog 62 #[.pointer (some ⟨f, 0, none⟩), .agg #[.int .i64 (l0 s pc), .int .i64 (l1 s pc), .int .i64 (l2 s pc), .int .i64 (l3 s pc), .int .i64 (l4 s pc)]] w fun e w' => e = .returned (.int .i64 ((mkR (rdL s pc) : Nat) : Int)) ∧ Below w.heap.size w w' := by
  have h0 := hw.f0
  have h1 := hw.f1
  have h2 := hw.f2
  have h3 := hw.op1
  have h4 := hw.op2
  unfold rdL
  generalize hop : l0 s pc = op at *
  generalize l1 s pc = r at *
  generalize l2 s pc = x at *
  generalize l3 s pc = y at *
  generalize l4 s pc = p at *
  clear hop
  have hc : op = 1 ∨ op = 2 ∨ op = 3 ∨ op = 4 ∨ op = 5 ∨ op = 6 ∨ op = 7 ∨ op = 8 ∨ op = 9 ∨ op = 10 ∨ op = 11 ∨ op = 12 ∨ op = 13 ∨ op = 14 ∨ op = 15 ∨ op = 16 ∨ op = 17 ∨ op = 18 ∨ op = 19 ∨ op = 20 ∨ op = 21 ∨ op = 22 ∨ op = 23 ∨ op = 24 ∨ op = 25 ∨ op = 26 ∨ op = 27 ∨ op = 28 ∨ op = 29 ∨ op = 30 ∨ op = 31 ∨ op = 32 ∨ op = 33 := by omega
  by_cases g0 : op = 1 ∨ op = 3 ∨ op = 4 ∨ op = 6 ∨ op = 17 ∨ op = 19 ∨ op = 20 ∨ op = 28
  · exact read_none g0
  by_cases g1 : op = 2 ∨ op = 15 ∨ op = 16 ∨ op = 22 ∨ op = 26
  · exact read_x g1 (by rcases g1 with rfl | rfl | rfl | rfl | rfl <;> simpa [fitB, ruN, rul] using h1)
  by_cases g2 : op = 5 ∨ op = 18 ∨ op = 27
  · exact read_r g2 (by rcases g2 with rfl | rfl | rfl <;> simpa [fitB, ruN, rul] using h0)
  by_cases g3 : op = 7 ∨ op = 8 ∨ op = 9 ∨ op = 10 ∨ op = 11 ∨ op = 12 ∨ op = 13 ∨ op = 14 ∨ op = 23 ∨ op = 24
  · exact read_xy g3 (by rcases g3 with rfl | rfl | rfl | rfl | rfl | rfl | rfl | rfl | rfl | rfl <;> simpa [fitB, ruN, rul] using h1) (by rcases g3 with rfl | rfl | rfl | rfl | rfl | rfl | rfl | rfl | rfl | rfl <;> simpa [fitB, ruN, rul] using h2)
  by_cases g4 : op = 21
  · exact read_ry g4 (by subst g4; simpa [fitB, ruN, rul] using h0) (by subst g4; simpa [fitB, ruN, rul] using h2)
  by_cases g5 : op = 25
  · exact read_rxy g5 (by subst g5; simpa [fitB, ruN, rul] using h0) (by subst g5; simpa [fitB, ruN, rul] using h1) (by subst g5; simpa [fitB, ruN, rul] using h2)
  by_cases g6 : op = 29 ∨ op = 31
  · exact read_call hcd hrow hf g6 (by rcases g6 with rfl | rfl <;> simpa [fitB, ruN, rul] using h1)
  by_cases g7 : op = 30 ∨ op = 32
  · exact read_few g7 (by rcases g7 with rfl | rfl <;> simpa [fitB, ruN, rul] using h1)
  · exact read_r0 (by omega)
end Go.Proofs.YtmkdoejpgkgpbaaDoor
