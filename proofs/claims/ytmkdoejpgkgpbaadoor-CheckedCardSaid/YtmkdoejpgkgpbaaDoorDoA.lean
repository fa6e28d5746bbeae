/- WALKS: the document's takes, lays, loses. -/
import Derived.Test.YtmkdoejpgkgpbaaDoorRoC
import Derived.Deep.LoopGhost
set_option linter.unusedVariables false
set_option linter.unusedSimpArgs false
namespace Go.Proofs.YtmkdoejpgkgpbaaDoor
open Go.RowKit Li

theorem Tryd.infI : (Tryd.prog.info? 3).map (fun i => (i.zero, i.size, i.bytes)) = some (some (.int .i64 0), 1, 8) := by kernel_rfl
theorem Tryd.undI : Tryd.prog.underlying 35 = some (.slice 3) := by kernel_rfl
def inV (l : List Nat) : List Value := l.map fun x => .int .i64 ((x : Nat) : Int)
theorem inV_app (l m : List Nat) : inV (l ++ m) = inV l ++ inV m := by simp [inV]
theorem inV_len (l : List Nat) : (inV l).length = l.length := by simp [inV]
theorem grown_below {B : Nat} {a w w' : World} {base n size : Nat} {e : TypeId} {v : Value} {xs : List Value} (h : Below B a w) (hown : w.ownsRow base e size v n xs) (hg : w.grownBy w' v.ownBlock) (hB : B ≤ w.heap.size) (hb : B ≤ base) : Below B a w' := h.grown hg hB (fun k hk => by have := (hown.lt k hk).1; omega)
set_option maxRecDepth 100000 in
set_option maxHeartbeats 1600000 in
theorem takes_any {s : ByteArray} {w : World} {p k : Nat} {vF vN vL : Value} (hat : RdAt s w p vF vN vL) (hk : k < hF s) (hr1 : r1 s k ≤ 4) :
    Calls Tryd.prog 35 #[.pointer (some ⟨p, 0, none⟩), .int .i64 k] w fun e w' => ∃ v, e = .returned v ∧ w'.ownsRow w.heap.size 3 1 v (tkF s k).length (inV (tkF s k)) ∧ Below w.heap.size w w' := by
  have hFl : hF s < 65536 := n2_lt _ _
  have hlt := lt_of_block hat.blk
  obtain ⟨g, cap, rfl, hg1, hg2, hg3, hg4⟩ := or_shape hat.funs (by omega)
  have HBK := Lib.hid hat.blk
  have HC : Hid (∀ W, Below w.heap.size w W → W.cell? ⟨p, 0, none⟩ = some (.slice (some ⟨g, 0, none⟩) (hF s) cap) ∧ W.cell? ⟨g, k * 5 + 1, none⟩ = some (.int .i64 (r1 s k)) ∧ W.cell? ⟨g, k * 5 + 2, none⟩ = some (.int .i64 (r2 s k))) := fun W hW => by
    refine ⟨(lb_at (lb_below hat.blk hW hlt) 0 rfl), ?_, ?_⟩
    · rw [hW.cell (p := ⟨g, k * 5 + 1, none⟩) hg2, hat.funs.cellAt (k * 5 + 1) (by omega)]
      exact rowC_at (dF_len s _) (i := k) (o := 1) (by omega) (hF s) hk
    · rw [hW.cell (p := ⟨g, k * 5 + 2, none⟩) hg2, hat.funs.cellAt (k * 5 + 2) (by omega)]
      exact rowC_at (dF_len s _) (i := k) (o := 2) (by omega) (hF s) hk
  obtain ⟨P, hP⟩ : ∃ P, r1 s k = P := ⟨_, rfl⟩
  obtain ⟨N, hN⟩ : ∃ N, r2 s k = N := ⟨_, rfl⟩
  have HT : Hid (tkF s k = List.range P ++ (if N = 1 then [7] else [])) := by show _ = _; rw [← hP, ← hN]; rfl
  rw [hP] at HC hr1
  rw [hN] at HC
  rw [HT.out]
  clear hat HT hP hN
  obtain ⟨i0, hi0, hz0, hz1, hz2⟩ := info_parts Tryd.infI
  have hkF : (k : Int) < ((hF s : Nat) : Int) := by omega
  generalize hF s = F at *
  go_enter Tryd.func35, Tryd.ntmps35
  go_wp2
  go_loopg [5, 6] P (fun gh v s6 (wr : World) => ∃ j : Nat, j ≤ P ∧ gh = P - j ∧ s6 = .int .i64 j ∧ wr.ownsRow w.heap.size 3 1 v j (inV (List.range j)) ∧ Below w.heap.size w wr)
  case atStart => exact ⟨0, by omega, rfl, rfl, World.ownsRow_nil _ _ _ _, Below.refl _ _⟩
  case round =>
    obtain ⟨j, hj, hgj, rfl, hown, hbw⟩ := hrel
    obtain ⟨c0, c1, c2⟩ := HC.out _ hbw
    have HOW := Lib.hid hown
    have HBW := Lib.hid hbw
    have hsw := hbw.size
    clear hown hbw
    by_cases hlt2 : j < P
    · go_wp2_with (at_builtin; refine wpList_append_own2 _ rfl (.tmp 19) (.tmp 21) 35 rfl w.heap.size 3 i0 _ 1 8 Tryd.undI hi0 hz0 hz1 hz2 rfl (by decide) _ _ _ rfl (HOW.out.alloc _) _ 1 1 [.int .i64 (j : Int)] rfl rfl (cells_new _ _ _ _ (by simp)) ?_ ?_ ?_ ?_ ?_; (intro u hu; simp at hu; subst hu; rfl); (unfold maxLen; omega); omega; (simp; omega); intro v' w4 hown4 hg4' hrow4)
      go_roundg (P - (j + 1))
      case measure => omega
      case rel =>
        refine ⟨j + 1, by omega, rfl, by go_num, ?_, grown_below (HBW.out.alloc (by omega) _) (HOW.out.alloc _) hg4' (by rw [World.size_alloc]; omega) (Nat.le_refl _)⟩
        rw [List.range_succ, inV_app]
        exact hown4
    · have hjP : j = P := by omega
      subst hjP
      by_cases hN1 : N = 1
      · subst hN1
        go_wp2_with (at_builtin; refine wpList_append_own2 _ rfl (.tmp 32) (.tmp 33) 35 rfl w.heap.size 3 i0 _ 1 8 Tryd.undI hi0 hz0 hz1 hz2 rfl (by decide) _ _ _ rfl (HOW.out.alloc _) _ 1 1 [.int .i64 7] rfl rfl (cells_new _ _ _ _ (by simp)) ?_ ?_ ?_ ?_ ?_; (intro u hu; simp at hu; subst hu; rfl); (unfold maxLen; omega); omega; (simp; omega); intro v' w4 hown4 hg4' hrow4)
        go_ret
        refine ⟨_, rfl, ?_, grown_below (HBW.out.alloc (by omega) _) (HOW.out.alloc _) hg4' (by rw [World.size_alloc]; omega) (Nat.le_refl _)⟩
        first
          | (rw [inV_app]; exact hown4)
          | (rw [if_pos rfl, inV_app, List.length_append, List.length_range]; exact hown4)
      · have hNb : ((N : Int) == 1) = false := by simp; omega
        go_wp2_with fail
        go_ret
        refine ⟨_, rfl, ?_, HBW.out⟩
        first
          | exact HOW.out
          | (rw [if_neg hN1, List.append_nil, List.length_range]; exact HOW.out)
          | (simp only [hN1, if_false, List.append_nil, List.length_range]; exact HOW.out)
/-- the place that a line lays: -1 if none -/
def lyI (op r x : Nat) : Int := if op = 5 then ((8 + x : Nat) : Int) else if op = 29 ∨ op = 30 then 0 else if op = 6 ∨ op = 17 ∨ op = 18 ∨ op = 21 ∨ op = 25 ∨ op = 27 ∨ op = 31 ∨ op = 32 ∨ op = 33 then -1 else (r : Int)
theorem lyI_lyO {op r x i : Nat} : ((i : Int) == lyI op r x) = lyO op r x i := by
  unfold lyI lyO
  by_cases h1 : op = 5
  · rw [if_pos h1, if_pos h1, Bool.eq_iff_iff]; simp; omega
  · rw [if_neg h1, if_neg h1]
    by_cases h2 : op = 29 ∨ op = 30
    · rw [if_pos h2, if_pos h2, Bool.eq_iff_iff]; simp
    · rw [if_neg h2, if_neg h2]
      by_cases h3 : op = 6 ∨ op = 17 ∨ op = 18 ∨ op = 21 ∨ op = 25 ∨ op = 27 ∨ op = 31 ∨ op = 32 ∨ op = 33
      · rw [if_pos h3, if_pos h3]; simp
      · rw [if_neg h3, if_neg h3, Bool.eq_iff_iff]; simp; omega
set_option maxRecDepth 100000 in
set_option maxHeartbeats 1600000 in
theorem lays_any {w : World} {op r x y p : Nat} (hop : op < 256) (hx : x < 65536) :
    Calls Tryd.prog 46 #[.agg #[.int .i64 op, .int .i64 r, .int .i64 x, .int .i64 y, .int .i64 p]] w fun e w' => e = .returned (.int .i64 (lyI op r x)) ∧ Below w.heap.size w w' := by
  have HB : Hid (∀ o : Obj, Below w.heap.size w (w.alloc o)) := fun o => (Below.refl _ _).alloc (Nat.le_refl _) _
  have HL := Lib.hid (show ∀ z, z = lyI op r x → Ending.returned (.int .i64 z) = .returned (.int .i64 (lyI op r x)) from fun z h => by rw [h])
  unfold lyI at HL ⊢
  generalize hR : (if op = 5 then ((8 + x : Nat) : Int) else if op = 29 ∨ op = 30 then 0 else if op = 6 ∨ op = 17 ∨ op = 18 ∨ op = 21 ∨ op = 25 ∨ op = 27 ∨ op = 31 ∨ op = 32 ∨ op = 33 then -1 else (r : Int)) = R at *
  have HR := Lib.hid hR
  clear hR HL
  go_enter Tryd.func46, Tryd.ntmps46
  go_wp2
  all_goals
    go_ret
    refine ⟨ret_int' ?_, HB.out _⟩
    rw [← HR.out]
    simp only [beq_iff_eq, beq_eq_false_iff_ne, ne_eq] at *
    first
      | (rw [if_pos (by omega)]; omega)
      | (rw [if_neg (by omega), if_pos (by omega)])
      | (rw [if_neg (by omega), if_neg (by omega), if_pos (by omega)])
      | (rw [if_neg (by omega), if_neg (by omega), if_neg (by omega)])
set_option maxRecDepth 100000 in
set_option maxHeartbeats 1600000 in
theorem loses_any {w : World} {op r x y p i : Nat} (hop : op < 256) (hx : x < 65536) (hi : i < 65536) :
    Calls Tryd.prog 47 #[.agg #[.int .i64 op, .int .i64 r, .int .i64 x, .int .i64 y, .int .i64 p], .int .i64 i] w fun e w' => e = .returned (.bool (loO op x i)) ∧ Below w.heap.size w w' := by
  have HB : Hid (∀ o : Obj, Below w.heap.size w (w.alloc o)) := fun o => (Below.refl _ _).alloc (Nat.le_refl _) _
  by_cases h1 : op = 29 ∨ op = 30 ∨ op = 19 ∨ op = 20 ∨ op = 23
  · have HR : Hid (loO op x i = decide (i < 8)) := by show _ = _; unfold loO; rw [if_pos h1]
    rw [HR.out]
    clear HR
    rcases h1 with rfl | rfl | rfl | rfl | rfl
    all_goals
      go_enter Tryd.func47, Tryd.ntmps47
      go_wp2
      all_goals
        go_ret
        refine ⟨ret_bool' ?_, HB.out _⟩
        rw [Bool.eq_iff_iff]; simp; try omega
  · by_cases h2 : op = 4 ∨ op = 6
    · have HR : Hid (loO op x i = (i == 8 + x)) := by show _ = _; unfold loO; rw [if_neg h1, if_pos h2]
      rw [HR.out]
      clear HR h1
      rcases h2 with rfl | rfl
      all_goals
        go_enter Tryd.func47, Tryd.ntmps47
        go_wp2
        all_goals
          go_ret
          refine ⟨ret_bool' ?_, HB.out _⟩
          rw [Bool.eq_iff_iff]; simp; try omega
    · have HR : Hid (loO op x i = false) := by show _ = _; unfold loO; rw [if_neg h1, if_neg h2]
      rw [HR.out]
      have g1 : ((op : Int) == 29) = false := by simp; omega
      have g2 : ((op : Int) == 30) = false := by simp; omega
      have g3 : ((op : Int) == 19) = false := by simp; omega
      have g4 : ((op : Int) == 20) = false := by simp; omega
      have g5 : ((op : Int) == 23) = false := by simp; omega
      have g6 : ((op : Int) == 4) = false := by simp; omega
      have g7 : ((op : Int) == 6) = false := by simp; omega
      clear HR h1 h2
      go_enter Tryd.func47, Tryd.ntmps47
      go_wp2
      go_ret
      exact ⟨rfl, HB.out _⟩
end Go.Proofs.YtmkdoejpgkgpbaaDoor
