/- WALKS: what a field must be, on both sides. -/
import Derived.Test.YtmkdoejpgkgpbaaDoorChP
import Derived.Test.YtmkdoejpgkgpbaaDoorLiM
set_option linter.unusedVariables false
set_option linter.unusedSimpArgs false
namespace Go.Proofs.YtmkdoejpgkgpbaaDoor
open Go.RowKit Li

theorem last_any {op : Nat} {w : World} : Calls Tryd.prog 34 #[.int .i64 op] w fun e w' => e = .returned (.bool (overB op)) ∧ w' = w := by
  obtain ⟨R, hR⟩ : ∃ R, overB op = R := ⟨_, rfl⟩
  rw [hR]
  have HR : Hid (overB op = R) := hR
  clear hR
  go_enter Tryd.func34, Tryd.ntmps34
  go_wp2
  all_goals
    go_ret
    refine ⟨ret_bool' ?_, rfl⟩
    rw [← HR.out, Bool.eq_iff_iff]
    simp [overB]
    omega
theorem goesOn_any {op : Nat} {w : World} : Calls Tryd.prog 50 #[.int .i64 op] w fun e w' => e = .returned (.bool (!overB op)) ∧ w' = w := by
  obtain ⟨R, hR⟩ : ∃ R, (!overB op) = R := ⟨_, rfl⟩
  rw [hR]
  have HR : Hid ((!overB op) = R) := hR
  clear hR
  go_enter Tryd.func50, Tryd.ntmps50
  go_wp2
  all_goals
    go_ret
    refine ⟨ret_bool' ?_, rfl⟩
    rw [← HR.out, Bool.eq_iff_iff]
    simp [overB]
    omega
set_option maxRecDepth 100000 in
set_option maxHeartbeats 1600000 in
theorem pfits_any {w : World} {p v r pc a0 a1 a2 slots end' F N : Nat} {aF aN : Option Addr} {cF' cN' : Nat} {vL : Value} {R : Bool} (hr : r < 8) (hblk : w.heap[p]? = some (prB (.slice aF F cF') (.slice aN N cN') vL)) (hR : fitB F N v r pc slots end' = R) :
    Calls Tryd.prog 33 #[.pointer (some ⟨p, 0, none⟩), .int .i64 v, .int .i64 r, .int .i64 pc, .agg #[.int .i64 a0, .int .i64 a1, .int .i64 a2, .int .i64 slots, .int .i64 end']] w fun e w' => e = .returned (.bool R) ∧ Below w.heap.size w w' := by
  have c0 : ∀ o, (w.alloc o).cell? ⟨p, 0, none⟩ = some (.slice aF F cF') := lb_past hblk 0 rfl
  have c1 : ∀ o, (w.alloc o).cell? ⟨p, 1, none⟩ = some (.slice aN N cN') := lb_past hblk 1 rfl
  have hlt := lt_of_block hblk
  have HR : Hid (fitB F N v r pc slots end' = R) := hR
  clear hR hblk
  have hcs : r = 0 ∨ r = 1 ∨ r = 2 ∨ r = 3 ∨ r = 4 ∨ r = 5 ∨ r = 6 ∨ r = 7 := by omega
  rcases hcs with rfl | rfl | rfl | rfl | rfl | rfl | rfl | rfl
  all_goals
    go_enter Tryd.func33, Tryd.ntmps33
    go_wp2
    all_goals
      go_ret
      refine ⟨ret_bool' ?_, (Below.refl _ _).alloc (Nat.le_refl _) _⟩
      rw [← HR.out, Bool.eq_iff_iff]
      simp [fitB]
      try omega
set_option maxRecDepth 100000 in
set_option maxHeartbeats 1600000 in
theorem cfits_any {w : World} {v r pc slots end' F N : Nat} {aF aN aL : Option Addr} {cF' cN' nL cL' : Nat} {R : Bool} (hr : r < 8) (hR : fitB F N v r pc slots end' = R) :
    Calls Tryd.prog 51 #[.agg #[.slice aF F cF', .slice aN N cN', .slice aL nL cL', .int .i64 slots, .int .i64 pc, .int .i64 end'], .int .u8 (ltr r : Nat), .int .i64 v] w fun e w' => e = .returned (.bool R) ∧ Below w.heap.size w w' := by
  have HR : Hid (fitB F N v r pc slots end' = R) := hR
  clear hR
  have hcs : r = 0 ∨ r = 1 ∨ r = 2 ∨ r = 3 ∨ r = 4 ∨ r = 5 ∨ r = 6 ∨ r = 7 := by omega
  rcases hcs with rfl | rfl | rfl | rfl | rfl | rfl | rfl | rfl
  all_goals
    simp only [ltr, List.getD_cons_zero, List.getD_cons_succ]
    go_enter Tryd.func51, Tryd.ntmps51
    go_wp2
    all_goals
      go_ret
      refine ⟨ret_bool' ?_, (Below.refl _ _).alloc (Nat.le_refl _) _⟩
      rw [← HR.out, Bool.eq_iff_iff]
      simp [fitB]
      try omega
end Go.Proofs.YtmkdoejpgkgpbaaDoor
