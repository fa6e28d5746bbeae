/- WALKS: the code's isWhole, Read. -/
import Derived.Test.YtmkdoejpgkgpbaaDoorLiG
import Derived.Test.YtmkdoejpgkgpbaaDoorLiH
set_option linter.unusedVariables false
set_option linter.unusedSimpArgs false
namespace Go.Proofs.YtmkdoejpgkgpbaaDoor
open Go.RowKit Li

set_option maxRecDepth 100000 in
set_option maxHeartbeats 800000 in
theorem isWhole_any {s : ByteArray} {w : World} (hs : s.size ≤ 600000) :
    Calls Tryd.prog 20 #[.string s] w fun e w' => e = .returned (.bool (hdB s)) ∧ w' = w := by
  obtain ⟨R, hR⟩ : ∃ R, hdB s = R := ⟨_, rfl⟩
  rw [hR]
  by_cases h8 : s.size < 8
  · have HR : Hid (R = false) := by rw [← hR]; unfold hdB; rw [decide_eq_false (by omega)]; rfl
    clear hR
    go_enter Tryd.func20, Tryd.ntmps20
    go_wp2
    go_ret
    exact ⟨by rw [HR.out]; rfl, rfl⟩
  · have HD : Hid (hdB s = R) := hR
    have HF : Hid (nV s 2 2 = ((hF s : Nat) : Int)) := nV_2 s 2
    have HN : Hid (nV s 4 2 = ((hN s : Nat) : Int)) := nV_2 s 4
    have HL : Hid (nV s 6 2 = ((hL s : Nat) : Int)) := nV_2 s 6
    obtain ⟨F, hF'⟩ : ∃ F, hF s = F := ⟨_, rfl⟩
    obtain ⟨N, hN'⟩ : ∃ N, hN s = N := ⟨_, rfl⟩
    obtain ⟨L, hL'⟩ : ∃ L, hL s = L := ⟨_, rfl⟩
    have hFl : F < 65536 := by rw [← hF']; exact n2_lt _ _
    have hNl : N < 65536 := by rw [← hN']; exact n2_lt _ _
    have hLl : L < 65536 := by rw [← hL']; exact n2_lt _ _
    rw [hF'] at HF
    rw [hN'] at HN
    rw [hL'] at HL
    have CF : Hid (∀ (z n : Int) (w : World), z = 2 ∧ n = 2 → Calls Tryd.prog 22 #[.string s, .int .i64 z, .int .i64 n] w fun e w' => e = .returned (.int .i64 (F : Int)) ∧ w' = w) := fun z n w hz => by rw [← HF.out, hz.1, hz.2]; exact number_any (a := 2) (n := 2) (by omega) (by omega)
    have CN : Hid (∀ (z n : Int) (w : World), z = 4 ∧ n = 2 → Calls Tryd.prog 22 #[.string s, .int .i64 z, .int .i64 n] w fun e w' => e = .returned (.int .i64 (N : Int)) ∧ w' = w) := fun z n w hz => by rw [← HN.out, hz.1, hz.2]; exact number_any (a := 4) (n := 2) (by omega) (by omega)
    have CL : Hid (∀ (z n : Int) (w : World), z = 6 ∧ n = 2 → Calls Tryd.prog 22 #[.string s, .int .i64 z, .int .i64 n] w fun e w' => e = .returned (.int .i64 (L : Int)) ∧ w' = w) := fun z n w hz => by rw [← HL.out, hz.1, hz.2]; exact number_any (a := 6) (n := 2) (by omega) (by omega)
    have HE : Hid (R = (decide ((s.extract 0 2).toList = [109, 108]) && (decide (0 < F) && decide (s.size = 8 + 6 * F + 8 * N + 8 * L)))) := by
      show _ = _
      rw [← hR]
      unfold hdB mlB
      rw [hF', hN', hL', decide_eq_true (show 8 ≤ s.size by omega)]
      rfl
    clear hF' hN' hL' hR
    by_cases hml : (s.extract 0 2).toList = [109, 108]
    · rw [decide_eq_true hml, Bool.true_and] at HE
      go_enter Tryd.func20, Tryd.ntmps20
      go_wp2_with (first
        | (go_at_call 22; refine (CF.out _ _ _ (by omega)).mono ?_; rintro _ w1 ⟨rfl, hw1⟩; have hw2 := hw1.symm; subst hw2)
        | (go_at_call 22; refine (CN.out _ _ _ (by omega)).mono ?_; rintro _ w1 ⟨rfl, hw1⟩; have hw2 := hw1.symm; subst hw2)
        | (go_at_call 22; refine (CL.out _ _ _ (by omega)).mono ?_; rintro _ w1 ⟨rfl, hw1⟩; have hw2 := hw1.symm; subst hw2))
      all_goals
        go_ret
        refine ⟨ret_bool' ?_, rfl⟩
        rw [HE.out, Bool.eq_iff_iff]
        simp
        omega
    · rw [decide_eq_false hml, Bool.false_and] at HE
      have hmb : ((s.extract 0 2).toList == [109, 108]) = false := by simp [hml]
      go_enter Tryd.func20, Tryd.ntmps20
      go_wp2_with (first
        | (go_at_call 22; refine (CF.out _ _ _ (by omega)).mono ?_; rintro _ w1 ⟨rfl, hw1⟩; have hw2 := hw1.symm; subst hw2)
        | (go_at_call 22; refine (CN.out _ _ _ (by omega)).mono ?_; rintro _ w1 ⟨rfl, hw1⟩; have hw2 := hw1.symm; subst hw2)
        | (go_at_call 22; refine (CL.out _ _ _ (by omega)).mono ?_; rintro _ w1 ⟨rfl, hw1⟩; have hw2 := hw1.symm; subst hw2))
      all_goals first
        | (exfalso; exact hml (by assumption))
        | (go_ret; exact ⟨by rw [HE.out]; rfl, rfl⟩)
structure CdAt (s : ByteArray) (w : World) (B : Nat) (vF vN vL : Value) : Prop where
  funs : w.ownsRow B 67 4 vF (hF s) (rowC (cF s) (hF s))
  nums : w.ownsRow B 3 1 vN (hN s) (rowC (cN s) (hN s))
  lines : w.ownsRow B 70 5 vL (hL s) (rowC (cL s) (hL s))
theorem rows_bad {s : ByteArray} {w : World} {r F L k : Nat} (hs : s.size ≤ 600000) (hsz : 8 + 6 * F ≤ s.size) (hF : F < 65536) (hLl : L < 65536) (hL' : hL s = L) (hblk : w.heap[r]? = some (rdB s 8 nilS nilS nilS)) (hb : bad (rowB s) F 0 = some k) :
    Calls Tryd.prog 21 #[.pointer (some ⟨r, 0, none⟩), .int .i64 F, .int .i64 L] w fun e w' => e = .returned (.bool false) ∧ ∃ v, w'.heap[r]? = some (rdB s (8 + 6 * k) v nilS nilS) ∧ Lone r w w' := by
  refine (rows_any hs hsz hF hLl hL' hblk).mono ?_
  rintro e w' ⟨k', v, h1, h2, ⟨h3, h4⟩ | ⟨_, h4, _⟩⟩
  · rw [hb] at h4
    injection h4 with h4
    subst h4
    exact ⟨h3, v, h1, h2⟩
  · rw [hb] at h4; cases h4
theorem rows_ok {s : ByteArray} {w : World} {r F L : Nat} (hs : s.size ≤ 600000) (hsz : 8 + 6 * F ≤ s.size) (hF : F < 65536) (hLl : L < 65536) (hL' : hL s = L) (hblk : w.heap[r]? = some (rdB s 8 nilS nilS nilS)) (hb : bad (rowB s) F 0 = none) :
    Calls Tryd.prog 21 #[.pointer (some ⟨r, 0, none⟩), .int .i64 F, .int .i64 L] w fun e w' => e = .returned (.bool true) ∧ ∃ a c, w'.heap[r]? = some (rdB s (8 + 6 * F) (.slice a F c) nilS nilS) ∧ Lone r w w' ∧ w'.ownsRow w.heap.size 67 4 (.slice a F c) F (rowC (cF s) F) := by
  refine (rows_any hs hsz hF hLl hL' hblk).mono ?_
  rintro e w' ⟨k', v, h1, h2, ⟨h3, h4⟩ | ⟨h3, h4, h5, h6⟩⟩
  · rw [hb] at h4; cases h4
  · subst h5
    obtain ⟨a, c, rfl⟩ := or_slice h6
    exact ⟨h3, a, c, h1, h2, h6⟩
theorem constants_bad {s : ByteArray} {w : World} {r F N k : Nat} {aF : Option Addr} {nF cF' : Nat} (hs : s.size ≤ 600000) (hsz : 8 + 6 * F + 8 * N ≤ s.size) (hFl : F < 65536) (hNl : N < 65536) (hF' : hF s = F) (hblk : w.heap[r]? = some (rdB s (8 + 6 * F) (.slice aF nF cF') nilS nilS)) (hb : bad (numB s) N 0 = some k) :
    Calls Tryd.prog 23 #[.pointer (some ⟨r, 0, none⟩), .int .i64 N] w fun e w' => e = .returned (.bool false) ∧ ∃ v, w'.heap[r]? = some (rdB s (8 + 6 * F + 8 * k) (.slice aF nF cF') v nilS) ∧ Lone r w w' := by
  refine (constants_any hs hsz hFl hNl hF' hblk).mono ?_
  rintro e w' ⟨k', v, h1, h2, ⟨h3, h4⟩ | ⟨_, h4, _⟩⟩
  · rw [hb] at h4
    injection h4 with h4
    subst h4
    exact ⟨h3, v, h1, h2⟩
  · rw [hb] at h4; cases h4
theorem constants_ok {s : ByteArray} {w : World} {r F N : Nat} {aF : Option Addr} {nF cF' : Nat} (hs : s.size ≤ 600000) (hsz : 8 + 6 * F + 8 * N ≤ s.size) (hFl : F < 65536) (hNl : N < 65536) (hF' : hF s = F) (hblk : w.heap[r]? = some (rdB s (8 + 6 * F) (.slice aF nF cF') nilS nilS)) (hb : bad (numB s) N 0 = none) :
    Calls Tryd.prog 23 #[.pointer (some ⟨r, 0, none⟩), .int .i64 N] w fun e w' => e = .returned (.bool true) ∧ ∃ a c, w'.heap[r]? = some (rdB s (8 + 6 * F + 8 * N) (.slice aF nF cF') (.slice a N c) nilS) ∧ Lone r w w' ∧ w'.ownsRow w.heap.size 3 1 (.slice a N c) N (rowC (cN s) N) := by
  refine (constants_any hs hsz hFl hNl hF' hblk).mono ?_
  rintro e w' ⟨k', v, h1, h2, ⟨h3, h4⟩ | ⟨h3, h4, h5, h6⟩⟩
  · rw [hb] at h4; cases h4
  · subst h5
    obtain ⟨a, c, rfl⟩ := or_slice h6
    exact ⟨h3, a, c, h1, h2, h6⟩
end Go.Proofs.YtmkdoejpgkgpbaaDoor
