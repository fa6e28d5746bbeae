/- WALKS: meet, of a line that is reached. -/
import Derived.Test.YtmkdoejpgkgpbaaDoorRoE
import Derived.Deep.LoopGhost
set_option linter.unusedVariables false
set_option linter.unusedSimpArgs false
namespace Go.Proofs.YtmkdoejpgkgpbaaDoor
open Go.RowKit Li Ro

/-- the cells in the middle of a meeting: j words are done -/
def cvm (B A : Pl) (j i : Nat) : Value :=
  if i = 0 then .bool true else if i = 1 then .int .i64 ((mask (fun x => B x && A x) 8 : Nat) : Int)
  else if i < 2 + j then .int .u64 ((mask (fun x => B (8 + 64 * (i - 2) + x) && A (8 + 64 * (i - 2) + x)) 64 : Nat) : Int) else .int .u64 ((mask (fun x => B (8 + 64 * (i - 2) + x)) 64 : Nat) : Int)
theorem cvm_end (B A : Pl) (i : Nat) (h : i < 18) : cvm B A 16 i = cv (some fun x => B x && A x) i := by
  unfold cvm cv
  by_cases h0 : i = 0
  · rw [if_pos h0]; simp [h0]
  · by_cases h1 : i = 1
    · subst h1; simp
    · rw [if_neg h0, if_neg h1, if_pos (by omega)]; simp [h0, h1]
set_option maxRecDepth 100000 in
set_option maxHeartbeats 1600000 in
theorem meet_some {w : World} {b o b2 o2 : Nat} {A B : Pl} {arr : Array Value} {t : TypeId} (hb : w.heap[b]? = some (.cells arr t (0, 0))) (hb2 : b2 < w.heap.size) (hne : b2 ≠ b ∨ o2 + 18 ≤ o) (h1 : LdAt w b o (some B)) (h2 : LdAt w b2 o2 (some A)) :
    Calls Tryd.prog 58 #[.pointer (some ⟨b, o, none⟩), .pointer (some ⟨b2, o2, none⟩)] w fun e w' => e = .returned (.tuple #[]) ∧ LdAt w' b o (some fun x => B x && A x) ∧ Ch b o w w' := by
  have c0 : w.cell? ⟨b, o, none⟩ = some (.bool true) := h1 0 (by omega)
  have c1 : w.cell? ⟨b, o + 1, none⟩ = some (.int .i64 ((mask B 8 : Nat) : Int)) := h1 1 (by omega)
  have d1 : w.cell? ⟨b2, o2 + 1, none⟩ = some (.int .i64 ((mask A 8 : Nat) : Int)) := h2 1 (by omega)
  have f1 : w.frozen? ⟨b, o + 1, none⟩ = false := lb_f hb _
  have hA8 := mask_lt A 8
  have hB8 := mask_lt B 8
  have hand : bits BinOp.and IntKind.i64 ((mask B 8 : Nat) : Int) ((mask A 8 : Nat) : Int) = ((mask (fun x => B x && A x) 8 : Nat) : Int) := by
    rw [i64_and _ _ (by omega) (by omega), mask_and]
  have H1 := Lib.hid h1
  have H2 := Lib.hid h2
  have HB := Lib.hid hb
  have hz2 : w.heap.size ≤ w.heap.size := Nat.le_refl _
  clear h1 h2 hA8 hB8
  have hcb := @lb_get w b (o + 1)
  obtain ⟨m12, hm12⟩ : ∃ m, mask (fun x => B x && A x) 8 = m := ⟨_, rfl⟩
  rw [hm12] at hand
  have EM := Lib.hid hm12
  clear hm12 hcb hz2 hb
  go_enter Tryd.func58, Tryd.ntmps58
  go_wp2
  go_region
  rename_i K1 hK1
  refine hK1 _ _ ?_
  clear hK1
  have HC0 : Hid (Ch b o w (w.setCell ⟨b, o + 1, none⟩ (.int .i64 (m12 : Int))).drew) := ((Ch.refl b o w).set (o + 1) _ (by omega) (by omega)).drew
  have HV0 : Hid (∀ q, q < 18 → (w.setCell ⟨b, o + 1, none⟩ (.int .i64 (m12 : Int))).drew.cell? ⟨b, o + q, none⟩ = some (cvm B A 0 q)) := fun q hq => by
    show (w.setCell ⟨b, o + 1, none⟩ (.int .i64 (m12 : Int))).cell? ⟨b, o + q, none⟩ = _
    rw [lb_get HB.out c1, H1.out q hq]
    by_cases e : q = 1
    · subst e
      rw [if_pos rfl]
      simp only [cvm, if_neg (show ¬ 1 = 0 by omega), if_true]
      rw [EM.out]
    · rw [if_neg (by omega)]
      by_cases e0 : q = 0
      · subst e0; rfl
      · simp only [cv, cvm, if_neg e0, if_neg e, if_neg (show ¬ q < 2 + 0 by omega)]
  go_wp2
  go_loopg [4] 16 (fun gh i (wi : World) => ∃ j : Nat, j ≤ 16 ∧ gh = 16 - j ∧ i = .int .i64 j ∧ (∀ q, q < 18 → wi.cell? ⟨b, o + q, none⟩ = some (cvm B A j q)) ∧ Ch b o w wi)
  case atStart => exact ⟨0, by omega, rfl, rfl, HV0.out, HC0.out⟩
  case round =>
    obtain ⟨j, hj, hgj, rfl, hv, hch⟩ := hrel
    have HV := Lib.hid hv
    have HCH := Lib.hid hch
    by_cases hlt : j < 16
    · obtain ⟨arr', hb', hsz', _⟩ := hch.blk arr t HB.out
      have HB' := Lib.hid hb'
      have k1 : wr.cell? ⟨b, o + 2 + j, none⟩ = some (.int .u64 ((mask (fun x => B (8 + 64 * j + x)) 64 : Nat) : Int)) := by
        rw [show o + 2 + j = o + (2 + j) by omega, hv (2 + j) (by omega)]
        simp only [cvm, if_neg (show ¬ 2 + j = 0 by omega), if_neg (show ¬ 2 + j = 1 by omega), if_neg (show ¬ 2 + j < 2 + j by omega), Nat.add_sub_cancel_left]
      have k2 : wr.cell? ⟨b2, o2 + 2 + j, none⟩ = some (.int .u64 ((mask (fun x => A (8 + 64 * j + x)) 64 : Nat) : Int)) := by
        rw [hch.cell HB.out hb2 (hne.imp id (fun h => .inl (by omega))), show o2 + 2 + j = o2 + (2 + j) by omega, H2.out (2 + j) (by omega)]
        simp only [cv, if_neg (show ¬ 2 + j = 0 by omega), if_neg (show ¬ 2 + j = 1 by omega), Nat.add_sub_cancel_left]
      have k3 : wr.frozen? ⟨b, o + 2 + j, none⟩ = false := lb_f hb' _
      have m1 := mask_lt (fun x => B (8 + 64 * j + x)) 64
      have m2 := mask_lt (fun x => A (8 + 64 * j + x)) 64
      have hand2 : bits BinOp.and IntKind.u64 ((mask (fun x => B (8 + 64 * j + x)) 64 : Nat) : Int) ((mask (fun x => A (8 + 64 * j + x)) 64 : Nat) : Int) = ((mask (fun x => B (8 + 64 * j + x) && A (8 + 64 * j + x)) 64 : Nat) : Int) := by
        rw [u64_and_nat _ _ m1 m2, mask_and]
      have HV1 : Hid (∀ q, q < 18 → (wr.setCell ⟨b, o + 2 + j, none⟩ (.int .u64 ((mask (fun x => B (8 + 64 * j + x) && A (8 + 64 * j + x)) 64 : Nat) : Int))).cell? ⟨b, o + q, none⟩ = some (cvm B A (j + 1) q)) := fun q hq => by
        rw [lb_get hb' k1, hv q hq]
        by_cases e : q = 2 + j
        · subst e
          rw [if_pos (by omega)]
          simp only [cvm, if_neg (show ¬ 2 + j = 0 by omega), if_neg (show ¬ 2 + j = 1 by omega), if_pos (show 2 + j < 2 + (j + 1) by omega), Nat.add_sub_cancel_left]
        · rw [if_neg (by omega)]
          unfold cvm
          by_cases e0 : q = 0
          · rw [if_pos e0, if_pos e0]
          · rw [if_neg e0, if_neg e0]
            by_cases e1 : q = 1
            · rw [if_pos e1, if_pos e1]
            · rw [if_neg e1, if_neg e1]
              by_cases e2 : q < 2 + j
              · rw [if_pos e2, if_pos (by omega)]
              · rw [if_neg e2, if_neg (by omega)]
      have HC1 : Hid (Ch b o w (wr.setCell ⟨b, o + 2 + j, none⟩ (.int .u64 ((mask (fun x => B (8 + 64 * j + x) && A (8 + 64 * j + x)) 64 : Nat) : Int)))) := hch.set (o + 2 + j) _ (by omega) (by omega)
      clear hv hch hb' hsz' m1 m2
      generalize mask (fun x => B (8 + 64 * j + x) && A (8 + 64 * j + x)) 64 = mm at *
      generalize mask (fun x => B (8 + 64 * j + x)) 64 = mb at *
      generalize mask (fun x => A (8 + 64 * j + x)) 64 = ma at *
      go_wp2_with fail
      go_region
      rename_i K2 hK2
      refine hK2 _ _ ?_
      clear hK2
      go_wp2_with fail
      go_roundg (16 - (j + 1))
      case measure => omega
      case rel => exact ⟨j + 1, by omega, rfl, by go_num, HV1.out, HC1.out.drew⟩
    · have hj16 : j = 16 := by omega
      subst hj16
      clear hv hch
      go_wp2_with fail
      go_returns
      exact ⟨rfl, fun q hq => by rw [HV.out q hq, cvm_end B A q hq], HCH.out⟩
end Go.Proofs.YtmkdoejpgkgpbaaDoor
