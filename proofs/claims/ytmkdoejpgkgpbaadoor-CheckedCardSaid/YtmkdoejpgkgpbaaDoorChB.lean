/- WALKS: the document's rules; the code's Line, End. -/
import Derived.Test.YtmkdoejpgkgpbaaDoorChA
set_option linter.unusedVariables false
set_option linter.unusedSimpArgs false
namespace Go.Proofs.YtmkdoejpgkgpbaaDoor
open Go.RowKit Li

/-- the end of function k -/
def en (s : ByteArray) (k : Nat) : Nat := if k + 1 < hF s then r0 s (k + 1) else hL s
set_option maxRecDepth 100000 in
set_option maxHeartbeats 6400000 in
theorem rules_yes {op : Nat} {w : World} (h1 : 1 ≤ op) (h2 : op < 34) : ∃ a b c d, rul[op]? = some [a, b, c, d] ∧ Calls Tryd.prog 32 #[.int .i64 op] w fun e w' => e = .returned (.tuple #[.slice (some ⟨w.heap.size, 0, none⟩) 4 4, .bool true]) ∧ w' = w.alloc (.cells #[.int .i64 (a : Nat), .int .i64 (b : Nat), .int .i64 (c : Nat), .int .i64 (d : Nat)] 3) := by
  have hc : op = 1 ∨ op = 2 ∨ op = 3 ∨ op = 4 ∨ op = 5 ∨ op = 6 ∨ op = 7 ∨ op = 8 ∨ op = 9 ∨ op = 10 ∨ op = 11 ∨ op = 12 ∨ op = 13 ∨ op = 14 ∨ op = 15 ∨ op = 16 ∨ op = 17 ∨ op = 18 ∨ op = 19 ∨ op = 20 ∨ op = 21 ∨ op = 22 ∨ op = 23 ∨ op = 24 ∨ op = 25 ∨ op = 26 ∨ op = 27 ∨ op = 28 ∨ op = 29 ∨ op = 30 ∨ op = 31 ∨ op = 32 ∨ op = 33 := by omega
  rcases hc with rfl | rfl | rfl | rfl | rfl | rfl | rfl | rfl | rfl | rfl | rfl | rfl | rfl | rfl | rfl | rfl | rfl | rfl | rfl | rfl | rfl | rfl | rfl | rfl | rfl | rfl | rfl | rfl | rfl | rfl | rfl | rfl | rfl
  all_goals
    refine ⟨_, _, _, _, rfl, ?_⟩
    go_enter Tryd.func32, Tryd.ntmps32
    go_wp2
    go_ret2
    exact ⟨rfl, rfl⟩
set_option maxRecDepth 100000 in
set_option maxHeartbeats 1600000 in
theorem rules_no {op : Nat} {w : World} (h : op = 0 ∨ 34 ≤ op) : Calls Tryd.prog 32 #[.int .i64 op] w fun e w' => e = .returned (.tuple #[.slice none 0 0, .bool false]) ∧ w' = w := by
  have g1 : ((op : Int) == 1) = false := by simp; omega
  have g2 : ((op : Int) == 2) = false := by simp; omega
  have g3 : ((op : Int) == 3) = false := by simp; omega
  have g4 : ((op : Int) == 4) = false := by simp; omega
  have g5 : ((op : Int) == 5) = false := by simp; omega
  have g6 : ((op : Int) == 6) = false := by simp; omega
  have g7 : ((op : Int) == 7) = false := by simp; omega
  have g8 : ((op : Int) == 8) = false := by simp; omega
  have g9 : ((op : Int) == 9) = false := by simp; omega
  have g10 : ((op : Int) == 10) = false := by simp; omega
  have g11 : ((op : Int) == 11) = false := by simp; omega
  have g12 : ((op : Int) == 12) = false := by simp; omega
  have g13 : ((op : Int) == 13) = false := by simp; omega
  have g14 : ((op : Int) == 14) = false := by simp; omega
  have g15 : ((op : Int) == 15) = false := by simp; omega
  have g16 : ((op : Int) == 16) = false := by simp; omega
  have g17 : ((op : Int) == 17) = false := by simp; omega
  have g18 : ((op : Int) == 18) = false := by simp; omega
  have g19 : ((op : Int) == 19) = false := by simp; omega
  have g20 : ((op : Int) == 20) = false := by simp; omega
  have g21 : ((op : Int) == 21) = false := by simp; omega
  have g22 : ((op : Int) == 22) = false := by simp; omega
  have g23 : ((op : Int) == 23) = false := by simp; omega
  have g24 : ((op : Int) == 24) = false := by simp; omega
  have g25 : ((op : Int) == 25) = false := by simp; omega
  have g26 : ((op : Int) == 26) = false := by simp; omega
  have g27 : ((op : Int) == 27) = false := by simp; omega
  have g28 : ((op : Int) == 28) = false := by simp; omega
  have g29 : ((op : Int) == 29) = false := by simp; omega
  have g30 : ((op : Int) == 30) = false := by simp; omega
  have g31 : ((op : Int) == 31) = false := by simp; omega
  have g32 : ((op : Int) == 32) = false := by simp; omega
  have g33 : ((op : Int) == 33) = false := by simp; omega
  clear h
  go_enter Tryd.func32, Tryd.ntmps32
  go_wp2
  go_ret2
  exact ⟨rfl, rfl⟩
set_option maxRecDepth 100000 in
set_option maxHeartbeats 800000 in
theorem line_any {w : World} {g n c i nn cn nl cl : Nat} {an al : Option Addr} {a0 a1 a2 a3 a4 : Int} (hn : n ≤ 70000) (hi : i < n) (hc : n ≤ c) (hg : g < w.heap.size) (d0 : w.cell? ⟨g, i * 5, none⟩ = some (.int .i64 a0)) (d1 : w.cell? ⟨g, i * 5 + 1, none⟩ = some (.int .i64 a1)) (d2 : w.cell? ⟨g, i * 5 + 2, none⟩ = some (.int .i64 a2)) (d3 : w.cell? ⟨g, i * 5 + 3, none⟩ = some (.int .i64 a3)) (d4 : w.cell? ⟨g, i * 5 + 4, none⟩ = some (.int .i64 a4)) :
    Calls Tryd.prog 49 #[.agg #[.slice an nn cn, .slice al nl cl, .slice (some ⟨g, 0, none⟩) n c], .int .i64 i] w fun e w' => e = .returned (.agg #[.int .i64 a0, .int .i64 a1, .int .i64 a2, .int .i64 a3, .int .i64 a4]) ∧ Below w.heap.size w w' := by
  have hB : ∀ o1 o2 : Obj, Below w.heap.size w ((w.alloc o1).alloc o2) := fun o1 o2 => ((Below.refl _ _).alloc (Nat.le_refl _) _).alloc (by rw [World.size_alloc]; omega) _
  have e0 : ∀ o1 o2 : Obj, ((w.alloc o1).alloc o2).cell? ⟨g, i * 5, none⟩ = some (.int .i64 a0) := fun o1 o2 => ((hB o1 o2).cell (p := ⟨g, _, none⟩) hg).trans d0
  have e1 : ∀ o1 o2 : Obj, ((w.alloc o1).alloc o2).cell? ⟨g, i * 5 + 1, none⟩ = some (.int .i64 a1) := fun o1 o2 => ((hB o1 o2).cell (p := ⟨g, _, none⟩) hg).trans d1
  have e2 : ∀ o1 o2 : Obj, ((w.alloc o1).alloc o2).cell? ⟨g, i * 5 + 2, none⟩ = some (.int .i64 a2) := fun o1 o2 => ((hB o1 o2).cell (p := ⟨g, _, none⟩) hg).trans d2
  have e3 : ∀ o1 o2 : Obj, ((w.alloc o1).alloc o2).cell? ⟨g, i * 5 + 3, none⟩ = some (.int .i64 a3) := fun o1 o2 => ((hB o1 o2).cell (p := ⟨g, _, none⟩) hg).trans d3
  have e4 : ∀ o1 o2 : Obj, ((w.alloc o1).alloc o2).cell? ⟨g, i * 5 + 4, none⟩ = some (.int .i64 a4) := fun o1 o2 => ((hB o1 o2).cell (p := ⟨g, _, none⟩) hg).trans d4
  have HB : Hid (∀ o1 o2 : Obj, Below w.heap.size w ((w.alloc o1).alloc o2)) := hB
  have g1 : decide ((n : Int) ≤ (i : Int)) = false := by simp; omega
  have g2 : (i : Int) < (n : Int) := by omega
  clear hB d0 d1 d2 d3 d4
  go_enter Tryd.func49, Tryd.ntmps49
  go_wp2
  go_returns
  exact ⟨rfl, HB.out _ _⟩
end Go.Proofs.YtmkdoejpgkgpbaaDoor
