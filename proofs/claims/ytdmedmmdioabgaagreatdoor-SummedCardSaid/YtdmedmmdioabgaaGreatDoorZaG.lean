import Derived.Test.YtdmedmmdioabgaaGreatDoorZaF
/- WALKS: remarks and blanks. -/
set_option linter.unusedVariables false
set_option linter.unusedSimpArgs false
namespace Go.Proofs.YtdmedmmdioabgaaGreatDoor
namespace Sl
end Sl
open Go.RowKit Sl

set_option maxHeartbeats 400000 in
theorem remarkEnd_any (s : ByteArray) (hs : s.size ≤ 1000) (b : Nat) (hb : b ≤ s.size) (w : World) :
    Calls Tryz.prog 86 #[.string s, .int .i64 b] w fun e w' => e = .returned (.int .i64 (rEnd s b)) ∧ w' = w := by
  have hm : s.size ≤ maxLen := by unfold maxLen; omega
  by_cases ho : stB s b opn = true
  · have hsz := stB_size ho
    have e2 : opn.size = 2 := rfl
    rw [e2] at hsz; clear e2
    go_enter Tryz.func86, Tryz.ntmps86
    go_wp2_with (go_at_call 87; refine (standsAt_any _ _ _ _ hm (by unfold maxLen; show b + 2 ≤ _; omega)).mono ?_; rintro e w' ⟨rfl, rfl⟩)
    go_loop [5, 6] (fun t u => ∃ d k : Nat, b + 2 ≤ k ∧ k ≤ s.size ∧ d ≤ k ∧ cnt s d k = rem s (b + 2) ∧ t = .int .i64 d ∧ u = .int .i64 k) (fun _ u => s.size - (intOf u).toNat)
    case atStart => exact ⟨1, b + 2, Nat.le_refl _, hsz, by omega, cnt_one s _, rfl, by go_num⟩
    case round =>
      obtain ⟨d, k, hbk, hks, hdk, hck, rfl, rfl⟩ := hrel
      have HC : Hid (cnt s d k = rem s (b + 2)) := hck
      clear hck
      by_cases hlt : k < s.size
      · cases d with
        | zero =>
          have HE : Hid (rEnd s b = k) := by
            show _ = _
            have h := HC.out
            rw [cnt_zero] at h
            rw [rEnd, if_pos ho, ← h]
          go_wp2_with fail
          go_ret
          exact ⟨ret_int (by rw [HE.out]), rfl⟩
        | succ d =>
          by_cases h1 : stB s k opn = true
          · have hsz1 := stB_size h1
            have e2 : opn.size = 2 := rfl
            rw [e2] at hsz1; clear e2
            go_wp2_with (go_at_call 87; refine (standsAt_any _ _ _ _ hm (by unfold maxLen; show k + 2 ≤ _; omega)).mono ?_; rintro e w' ⟨rfl, rfl⟩)
            go_round
            case rel => exact ⟨d + 2, k + 2, by omega, by omega, by omega, by rw [← HC.out, cnt_opn s d k hlt h1], by go_num, by go_num⟩
            case measure => simp [intOf]; omega
          · have h1' : stB s k opn = false := by simpa using h1
            clear h1
            by_cases h2 : stB s k cls = true
            · have hsz1 := stB_size h2
              have e2 : cls.size = 2 := rfl
              rw [e2] at hsz1; clear e2
              go_wp2_with (go_at_call 87; refine (standsAt_any _ _ _ _ hm (by unfold maxLen; show k + 2 ≤ _; omega)).mono ?_; rintro e w' ⟨rfl, rfl⟩)
              go_round
              case rel => exact ⟨d, k + 2, by omega, by omega, by omega, by rw [← HC.out, cnt_cls s d k hlt h1' h2], by go_num, by go_num⟩
              case measure => simp [intOf]; omega
            · have h2' : stB s k cls = false := by simpa using h2
              clear h2
              go_wp2_with (go_at_call 87; refine (standsAt_any _ _ _ _ hm (by unfold maxLen; show k + 2 ≤ _; omega)).mono ?_; rintro e w' ⟨rfl, rfl⟩)
              go_round
              case rel => exact ⟨d + 1, k + 1, by omega, by omega, by omega, by rw [← HC.out, cnt_on s d k hlt h1' h2'], by go_num, by go_num⟩
              case measure => simp [intOf]; omega
      · cases d with
        | zero =>
          have HE : Hid (rEnd s b = k) := by
            show _ = _
            have h := HC.out
            rw [cnt_zero] at h
            rw [rEnd, if_pos ho, ← h]
          go_wp2_with fail
          go_ret
          exact ⟨ret_int (by rw [HE.out]), rfl⟩
        | succ d =>
          have HE : Hid (rEnd s b = b) := by
            show _ = _
            have h := HC.out
            rw [cnt_end s d k hlt] at h
            rw [rEnd, if_pos ho, ← h]
          go_wp2_with fail
          go_ret
          exact ⟨ret_int (by rw [HE.out]), rfl⟩
  · have ho' : stB s b opn = false := by simpa using ho
    have HE : Hid (rEnd s b = b) := by
      show _ = _
      rw [rEnd, if_neg ho]
    clear ho
    go_enter Tryz.func86, Tryz.ntmps86
    go_wp2_with (go_at_call 87; refine (standsAt_any _ _ _ _ hm (by unfold maxLen; show b + 2 ≤ _; omega)).mono ?_; rintro e w' ⟨rfl, rfl⟩)
    go_ret
    exact ⟨ret_int (by rw [HE.out]), rfl⟩

set_option maxHeartbeats 400000 in
theorem skip_any (s : ByteArray) (hs : s.size ≤ 1000) (b : Nat) (hb : b ≤ s.size) (w : World) :
    Calls Tryz.prog 49 #[.string s, .int .i64 b] w fun e w' => e = .returned (.int .i64 (skp s b)) ∧ w' = w := by
  go_enter Tryz.func49, Tryz.ntmps49
  go_wp2_with fail
  go_loop [1] (fun t => ∃ k : Nat, b ≤ k ∧ k ≤ s.size ∧ skp s k = skp s b ∧ t = .int .i64 k) (fun t => s.size - (intOf t).toNat)
  case atStart => exact ⟨b, Nat.le_refl _, hb, rfl, rfl⟩
  case round =>
    obtain ⟨k, hbk, hks, hrk, rfl⟩ := hrel
    have HR : Hid (skp s k = skp s b) := hrk
    clear hrk
    by_cases hlt : k < s.size
    · by_cases hbl : blkB s[k] = true
      · go_wp2_with (go_at_call 85; refine (isBlank_any _ _).mono ?_; rintro e w' ⟨rfl, rfl⟩)
        go_round
        case rel => exact ⟨k + 1, by omega, by omega, by rw [← HR.out, skp_blk s k hlt hbl], by go_num⟩
        case measure => simp [intOf]; omega
      · have hbl' : blkB s[k] = false := by simpa using hbl
        clear hbl
        have hre := rEnd_le s k hks
        by_cases hr : k < rEnd s k
        · go_wp2_with (first | (go_at_call 85; refine (isBlank_any _ _).mono ?_; rintro e w' ⟨rfl, rfl⟩) | (go_at_call 86; refine (remarkEnd_any s hs k hks _).mono ?_; rintro e w' ⟨rfl, rfl⟩))
          go_round
          case rel => exact ⟨rEnd s k, by omega, by omega, by rw [← HR.out, skp_rem s k hlt hbl' hr], rfl⟩
          case measure => simp [intOf]; omega
        · go_wp2_with (first | (go_at_call 85; refine (isBlank_any _ _).mono ?_; rintro e w' ⟨rfl, rfl⟩) | (go_at_call 86; refine (remarkEnd_any s hs k hks _).mono ?_; rintro e w' ⟨rfl, rfl⟩))
          go_ret
          exact ⟨ret_int (by rw [← HR.out, skp_stay s k hlt hbl' hr]), rfl⟩
    · go_wp2_with fail
      go_ret
      exact ⟨ret_int (by rw [← HR.out, skp_end s k hlt]), rfl⟩
end Go.Proofs.YtdmedmmdioabgaaGreatDoor
/- WALKS: the table of words; numbers. -/
set_option linter.unusedVariables false
set_option linter.unusedSimpArgs false
namespace Go.Proofs.YtdmedmmdioabgaaGreatDoor
namespace Sl
end Sl
open Go.RowKit Sl

/-- the table of texts lies where the program lays it -/
def TX (w : World) : Prop := ∀ k : Nat, k < 35 → w.cell? ⟨1, k, none⟩ = some (.string (txt k))
theorem TX.below {B : Nat} {w w' : World} (h : TX w) (hb : Below B w w') (hB : 1 < B) : TX w' :=
  fun k hk => (hb.cell (p := ⟨1, k, none⟩) hB).trans (h k hk)

theorem text_any (k : Nat) (w : World) (hT : TX w) (hk : k ≤ 1000):
    Calls Tryz.prog 139 #[.int .i64 k] w fun e w' => e = .returned (.string (txt k)) ∧ w' = w := by
  by_cases h : k < 35
  · have hc := hT k h
    clear hT
    go_enter Tryz.func139, Tryz.ntmps139
    go_wp2
    go_ret
    exact ⟨rfl, rfl⟩
  · have e : Hid (txt k = ⟨#[]⟩) := txt_far k (by omega)
    clear hT
    go_enter Tryz.func139, Tryz.ntmps139
    go_wp2
    go_ret
    exact ⟨ret_str e.out.symm, rfl⟩

theorem decF_dig {n : Nat} {c : UInt8} {r : List UInt8} (h : digB c = true) : decF n (c :: r) = if n * 10 + (c.toNat - 48) ≤ 4611686018427387903 then decF (n * 10 + (c.toNat - 48)) r else none := by
  rw [decF, if_pos h]

set_option maxHeartbeats 400000 in
theorem numberOf_any (s : ByteArray) (hs : s.size ≤ 1000) (w : World) :
    Calls Tryz.prog 92 #[.string s] w fun e w' => e = .returned (.int .i64 (optI (numV s))) ∧ w' = w := by
  go_enter Tryz.func92, Tryz.ntmps92
  go_wp2_with fail
  go_loop [3, 4] (fun t u => ∃ v k : Nat, v ≤ 4611686018427387903 ∧ k ≤ s.size ∧ decF v (s.data.toList.drop k) = numV s ∧ t = .int .i64 v ∧ u = .int .i64 k) (fun _ u => s.size - (intOf u).toNat)
  case atStart => exact ⟨0, 0, by omega, by omega, rfl, rfl, rfl⟩
  case round =>
    obtain ⟨v, k, hv, hk, hd, rfl, rfl⟩ := hrel
    have HD : Hid (decF v (s.data.toList.drop k) = numV s) := hd
    clear hd
    by_cases hlt : k < s.size
    · by_cases hg : digB s[k] = true
      · have hr : 48 ≤ s[k].toNat ∧ s[k].toNat ≤ 57 := by simpa [digB] using hg
        by_cases hov : v * 10 + (s[k].toNat - 48) ≤ 4611686018427387903
        · have HN : Hid (decF (v * 10 + (s[k].toNat - 48)) (s.data.toList.drop (k + 1)) = numV s) := by
            show _ = _
            rw [← HD.out, dataget s k hlt, decF_dig hg, if_pos hov]
          go_wp2_with (go_at_call 90; refine (isDigit_any _ _).mono ?_; rintro e w' ⟨rfl, rfl⟩)
          go_round
          case rel => exact ⟨v * 10 + (s[k].toNat - 48), k + 1, hov, by omega, HN.out, by go_num, by go_num⟩
          case measure => simp [intOf]; omega
        · have HN : Hid (none = numV s) := by
            show _ = _
            rw [← HD.out, dataget s k hlt, decF_dig hg, if_neg hov]
          go_wp2_with (go_at_call 90; refine (isDigit_any _ _).mono ?_; rintro e w' ⟨rfl, rfl⟩)
          go_ret
          exact ⟨ret_int (by rw [← HN.out]; rfl), rfl⟩
      · have hg' : digB s[k] = false := by simpa using hg
        have HN : Hid (none = numV s) := by
          show _ = _
          rw [← HD.out, dataget s k hlt, decF, if_neg hg]
        clear hg
        go_wp2_with (go_at_call 90; refine (isDigit_any _ _).mono ?_; rintro e w' ⟨rfl, rfl⟩)
        go_ret
        exact ⟨ret_int (by rw [← HN.out]; rfl), rfl⟩
    · have HN : Hid (some v = numV s) := by
        show _ = _
        rw [← HD.out, List.drop_eq_nil_of_le (by simpa using hlt), decF]
      go_wp2_with fail
      go_ret
      exact ⟨ret_int (by rw [← HN.out]; rfl), rfl⟩
end Go.Proofs.YtdmedmmdioabgaaGreatDoor
/- WALKS: the code's words. -/
set_option linter.unusedVariables false
set_option linter.unusedSimpArgs false
namespace Go.Proofs.YtdmedmmdioabgaaGreatDoor
namespace Sl
end Sl
open Go.RowKit Sl

/-- a word of the code's: kind, place, number, name -/
abbrev wv (k p n : Nat) (t : ByteArray) : Value := .agg #[.int .i64 k, .int .i64 p, .int .i64 n, .string t]
def nmT (t : ByteArray) : ByteArray := if (kwK t).isSome then ⟨#[]⟩ else t

set_option maxHeartbeats 400000 in
theorem named_any (t : ByteArray) (p : Nat) (w : World) (hT : TX w) (h0 : 1 < w.heap.size) :
    Calls Tryz.prog 91 #[.string t, .int .i64 p] w fun e w' => e = .returned (wv (nmK t) p 0 (nmT t)) ∧ Below w.heap.size w w' := by
  have hb : Below w.heap.size w w := Below.refl _ _
  go_enter Tryz.func91, Tryz.ntmps91
  go_wp2_with fail
  go_loop [5] (fun u => ∃ k : Nat, 3 ≤ k ∧ k ≤ 18 ∧ firstK (fun k => (txt k).toList == t.toList) k (18 - k) = kwK t ∧ u = .int .i64 k) (fun u => 18 - (intOf u).toNat)
  case atStart => exact ⟨3, Nat.le_refl _, by omega, rfl, rfl⟩
  case round =>
    obtain ⟨k, hk3, hk, hf, rfl⟩ := hrel
    have HF : Hid (firstK (fun k => (txt k).toList == t.toList) k (18 - k) = kwK t) := hf
    clear hf
    by_cases hlt : k ≤ 17
    · by_cases he : ((txt k).toList == t.toList) = true
      · go_wp2_with (go_at_call 139; refine (text_any _ _ ?_ (by omega)).mono ?_; exact hT.below (hb.alloc (Nat.le_refl _) _) h0; rintro e w' ⟨rfl, rfl⟩)
        have HE : Hid (kwK t = some k) := by
          show _ = _
          rw [← HF.out, show 18 - k = (17 - k) + 1 by omega, firstK, if_pos he]
        refine bodyPost_ret (v := wv k p 0 ⟨#[]⟩) (by simp [results, Tryz.results91, go_sem]) rfl ⟨?_, hb.alloc (Nat.le_refl _) _⟩
        simp [nmK, nmT, HE.out]
      · have he' : ((txt k).toList == t.toList) = false := by simpa using he
        have HE : Hid (firstK (fun k => (txt k).toList == t.toList) (k + 1) (18 - (k + 1)) = kwK t) := by
          show _ = _
          rw [← HF.out, show 18 - k = (18 - (k + 1)) + 1 by omega, firstK, if_neg he]
        clear he
        go_wp2_with (go_at_call 139; refine (text_any _ _ ?_ (by omega)).mono ?_; exact hT.below (hb.alloc (Nat.le_refl _) _) h0; rintro e w' ⟨rfl, rfl⟩)
        go_round
        case rel => exact ⟨k + 1, by omega, by omega, HE.out, by go_num⟩
        case measure => simp [intOf]; omega
    · have HE : Hid (kwK t = none) := by
        show _ = _
        rw [← HF.out, show 18 - k = 0 by omega, firstK]
      go_wp2_with fail
      refine bodyPost_ret (v := wv 2 p 0 t) (by simp [results, Tryz.results91, go_sem]) rfl ⟨?_, hb.alloc (Nat.le_refl _) _⟩
      simp [nmK, nmT, HE.out]


/-- what signAt hands back -/
def signV (s : ByteArray) (p : Nat) : Value := match signK s p with
  | some k => .tuple #[wv k p 0 ⟨#[]⟩, .int .i64 0, .int .i64 ((p + (txt k).size : Nat) : Int)]
  | none => .tuple #[wv 0 0 0 ⟨#[]⟩, .int .i64 2, .int .i64 0]
set_option maxHeartbeats 400000 in
theorem signAt_any (s : ByteArray) (hs : s.size ≤ 1000) (p : Nat) (hp : p ≤ s.size) (w : World) (hT : TX w) (h0 : 1 < w.heap.size) :
    Calls Tryz.prog 89 #[.string s, .int .i64 p] w fun e w' => e = .returned (signV s p) ∧ Below w.heap.size w w' := by
  have hb : Below w.heap.size w w := Below.refl _ _
  have hm : s.size ≤ maxLen := by unfold maxLen; omega
  go_enter Tryz.func89, Tryz.ntmps89
  go_wp2_with fail
  go_loop [7] (fun u => ∃ k : Nat, 18 ≤ k ∧ k ≤ 35 ∧ firstK (fun k => stB s p (txt k)) k (35 - k) = signK s p ∧ u = .int .i64 k) (fun u => 35 - (intOf u).toNat)
  case atStart => exact ⟨18, Nat.le_refl _, by omega, rfl, rfl⟩
  case round =>
    obtain ⟨k, hk3, hk, hf, rfl⟩ := hrel
    have HF : Hid (firstK (fun k => stB s p (txt k)) k (35 - k) = signK s p) := hf
    clear hf
    have hz := txt_size k
    by_cases hlt : k ≤ 34
    · by_cases he : stB s p (txt k) = true
      · have HE : Hid (signK s p = some k) := by
          show _ = _
          rw [← HF.out, show 35 - k = (34 - k) + 1 by omega, firstK, if_pos he]
        go_wp2_with (first | (go_at_call 139; refine (text_any _ _ ?_ (by omega)).mono ?_; exact hT.below (hb.alloc (Nat.le_refl _) _) h0; rintro e w' ⟨rfl, rfl⟩) | (go_at_call 87; refine (standsAt_any _ _ _ _ hm (by unfold maxLen; omega)).mono ?_; rintro e w' ⟨rfl, rfl⟩))
        refine bodyPost_ret (v := .tuple #[wv k p 0 ⟨#[]⟩, .int .i64 0, .int .i64 (((p + (txt k).size : Nat)) : Int)]) (by simp [results, Tryz.results89, go_sem]) rfl ⟨by rw [signV, HE.out], hb.alloc (Nat.le_refl _) _⟩
      · have he' : stB s p (txt k) = false := by simpa using he
        have HE : Hid (firstK (fun k => stB s p (txt k)) (k + 1) (35 - (k + 1)) = signK s p) := by
          show _ = _
          rw [← HF.out, show 35 - k = (35 - (k + 1)) + 1 by omega, firstK, if_neg he]
        clear he
        go_wp2_with (first | (go_at_call 139; refine (text_any _ _ ?_ (by omega)).mono ?_; exact hT.below (hb.alloc (Nat.le_refl _) _) h0; rintro e w' ⟨rfl, rfl⟩) | (go_at_call 87; refine (standsAt_any _ _ _ _ hm (by unfold maxLen; omega)).mono ?_; rintro e w' ⟨rfl, rfl⟩))
        go_round
        case rel => exact ⟨k + 1, by omega, by omega, HE.out, by go_num⟩
        case measure => simp [intOf]; omega
    · have HE : Hid (signK s p = none) := by
        show _ = _
        rw [← HF.out, show 35 - k = 0 by omega, firstK]
      go_wp2_with fail
      exact bodyPost_ret (v := .tuple #[wv 0 0 0 ⟨#[]⟩, .int .i64 2, .int .i64 0]) (by simp [results, Tryz.results89, go_sem]) rfl ⟨by rw [signV, HE.out], hb.alloc (Nat.le_refl _) _⟩
end Go.Proofs.YtdmedmmdioabgaaGreatDoor
/- WALKS: the word at a place. -/
set_option linter.unusedVariables false
set_option linter.unusedSimpArgs false
namespace Go.Proofs.YtdmedmmdioabgaaGreatDoor
namespace Sl
end Sl
open Go.RowKit Sl

/-- a name's text; of other words nothing -/
def nmOf (k : Nat) (t : ByteArray) : ByteArray := if k = 2 then t else ⟨#[]⟩
def WR.val (p : Nat) : WR → Value
  | .err e => .tuple #[wv 0 0 0 ⟨#[]⟩, .int .i64 e, .int .i64 0]
  | .ok k n t z => .tuple #[wv k p n (nmOf k t), .int .i64 0, .int .i64 z]
theorem nmT_of (t : ByteArray) : nmT t = nmOf (nmK t) t := by
  unfold nmT nmOf nmK
  cases h : kwK t with
  | none => simp
  | some k =>
    have := firstK_range _ _ _ _ h
    simp; omega
theorem signV_of (s : ByteArray) (p : Nat) (hp : p < s.size) (ho : stB s p opn = false) (hl : letB s[p] = false) : signV s p = WR.val p (wordR s p) := by
  unfold signV wordR
  rw [dif_pos hp, if_neg (by simp [ho]), if_neg (by simp [hl])]
  cases h : signK s p with
  | none => rfl
  | some k =>
    have := firstK_range _ _ _ _ h
    simp only [WR.val, nmOf]
    rw [if_neg (by omega)]

theorem signV_form (s : ByteArray) (p : Nat) : ∃ k' p' e' z' : Nat, signV s p = .tuple #[wv k' p' 0 ⟨#[]⟩, .int .i64 e', .int .i64 z'] := by
  unfold signV
  split
  · exact ⟨_, _, 0, _, rfl⟩
  · exact ⟨0, 0, 2, 0, rfl⟩
theorem bcell {W w1 : World} (hb : Below W.heap.size W w1) : (∀ b o, b < W.heap.size → w1.cell? ⟨b, o, none⟩ = W.cell? ⟨b, o, none⟩) ∧ (∀ b o, b < W.heap.size → w1.frozen? ⟨b, o, none⟩ = W.frozen? ⟨b, o, none⟩) :=
  ⟨fun b o h => hb.cell (p := ⟨b, o, none⟩) h, fun b o h => hb.frozen (p := ⟨b, o, none⟩) h⟩
set_option maxHeartbeats 1000000 in
theorem wordAt_any (s : ByteArray) (hs : s.size ≤ 1000) (p : Nat) (hp : p < s.size) (w : World) (hT : TX w) (h0 : 1 < w.heap.size) :
    Calls Tryz.prog 50 #[.string s, .int .i64 p] w fun e w' => e = .returned (WR.val p (wordR s p)) ∧ Below w.heap.size w w' := by
  have hb : Below w.heap.size w w := Below.refl _ _
  have hm : s.size ≤ maxLen := by unfold maxLen; omega
  by_cases ho : stB s p opn = true
  · have HE : Hid (wordR s p = .err 2) := by show _ = _; rw [wordR, dif_pos hp, if_pos ho]
    go_enter Tryz.func50, Tryz.ntmps50
    go_wp2_with (first | (go_at_call 87; refine (standsAt_any _ _ _ _ hm (by unfold maxLen; show p + 2 ≤ _; omega)).mono ?_; rintro e w' ⟨rfl, rfl⟩))
    exact bodyPost_ret (v := .tuple #[wv 0 0 0 ⟨#[]⟩, .int .i64 2, .int .i64 0]) (by simp [results, Tryz.results50, go_sem]) rfl ⟨by rw [HE.out]; rfl, hb.alloc (Nat.le_refl _) _⟩
  · have ho' : stB s p opn = false := by simpa using ho
    clear ho
    by_cases hl : letB s[p] = true
    · have hr : p < runE s p ∧ runE s p ≤ s.size := by
        rw [runE_on s p hp hl]
        have := runE_le s s.size (p + 1) (by omega) (by omega)
        omega
      obtain ⟨z, hz⟩ : ∃ z, z = runE s p := ⟨_, rfl⟩
      rw [← hz] at hr
      have HZ : Hid (z = runE s p) := hz
      clear hz
      have hx : (s.extract p z).size ≤ 1000 := by simp; omega
      go_enter Tryz.func50, Tryz.ntmps50
      go_wp2_with (first | (go_at_call 87; refine (standsAt_any _ _ _ _ hm (by unfold maxLen; show p + 2 ≤ _; omega)).mono ?_; rintro e w' ⟨rfl, rfl⟩) | (go_at_call 88; refine (isLetter_any _ _).mono ?_; rintro e w' ⟨rfl, rfl⟩))
      go_loop [7] (fun u => ∃ j : Nat, p ≤ j ∧ j ≤ s.size ∧ runE s j = z ∧ u = .int .i64 j) (fun u => s.size - (intOf u).toNat)
      case atStart => exact ⟨p, Nat.le_refl _, by omega, HZ.out.symm, rfl⟩
      case round =>
        obtain ⟨j, hpj, hj, hf, rfl⟩ := hrel
        have HF : Hid (runE s j = z) := hf
        clear hf
        by_cases hg : ∃ h : j < s.size, letB s[j] = true
        · obtain ⟨hlt, hlj⟩ := hg
          go_wp2_with (go_at_call 88; refine (isLetter_any _ _).mono ?_; rintro e w' ⟨rfl, rfl⟩)
          go_round
          case rel => exact ⟨j + 1, by omega, by omega, by rw [← HF.out, runE_on s j hlt hlj], by go_num⟩
          case measure => simp [intOf]; omega
        · have hjz : j = z := by
            by_cases hlt : j < s.size
            · by_cases hlj : letB s[j] = true
              · exact absurd ⟨hlt, hlj⟩ hg
              · rw [← HF.out, runE_off s j hlt (by simpa using hlj)]
            · rw [← HF.out, runE_end s j hlt]
          clear HF
          subst hjz
          have hg' : ∀ h : j < s.size, letB s[j] = false := by
            intro h
            cases hh : letB s[j] with
            | false => rfl
            | true => exact absurd ⟨h, hh⟩ hg
          clear hg
          by_cases hd : digB s[p] = true
          · cases hv : numV (s.extract p j) with
            | none =>
              have HE : Hid (wordR s p = .err 3) := by show _ = _; rw [wordR, dif_pos hp, if_neg (by simp [ho']), if_pos hl, if_pos hd, ← HZ.out, hv]
              by_cases hlt : j < s.size
              all_goals
                first | have hgj := hg' hlt | skip
                clear hg'
                go_wp2_with (first | (go_at_call 88; refine (isLetter_any _ _).mono ?_; rintro e w' ⟨rfl, rfl⟩) | (go_at_call 90; refine (isDigit_any _ _).mono ?_; rintro e w' ⟨rfl, rfl⟩) | (go_at_call 92; refine (numberOf_any _ hx _).mono ?_; rw [hv]; rintro e w' ⟨rfl, rfl⟩; simp only [optI]))
                exact bodyPost_ret (v := .tuple #[wv 0 0 0 ⟨#[]⟩, .int .i64 3, .int .i64 0]) (by simp [results, Tryz.results50, go_sem]) rfl ⟨by rw [HE.out]; rfl, hb.alloc (Nat.le_refl _) _⟩
            | some v =>
              have HE : Hid (wordR s p = .ok 1 v (s.extract p j) j) := by show _ = _; rw [wordR, dif_pos hp, if_neg (by simp [ho']), if_pos hl, if_pos hd, ← HZ.out, hv]
              by_cases hlt : j < s.size
              all_goals
                first | have hgj := hg' hlt | skip
                clear hg'
                go_wp2_with (first | (go_at_call 88; refine (isLetter_any _ _).mono ?_; rintro e w' ⟨rfl, rfl⟩) | (go_at_call 90; refine (isDigit_any _ _).mono ?_; rintro e w' ⟨rfl, rfl⟩) | (go_at_call 92; refine (numberOf_any _ hx _).mono ?_; rw [hv]; rintro e w' ⟨rfl, rfl⟩; simp only [optI]))
                exact bodyPost_ret (v := .tuple #[wv 1 p v ⟨#[]⟩, .int .i64 0, .int .i64 j]) (by simp [results, Tryz.results50, go_sem]) rfl ⟨by rw [HE.out]; rfl, hb.alloc (Nat.le_refl _) _⟩
          · have hd' : digB s[p] = false := by simpa using hd
            have HE : Hid (wordR s p = .ok (nmK (s.extract p j)) 0 (s.extract p j) j) := by show _ = _; rw [wordR, dif_pos hp, if_neg (by simp [ho']), if_pos hl, if_neg hd, ← HZ.out]
            clear hd
            by_cases hlt : j < s.size
            all_goals
              first | have hgj := hg' hlt | skip
              clear hg'
              go_wp2_with (first | (go_at_call 88; refine (isLetter_any _ _).mono ?_; rintro e w' ⟨rfl, rfl⟩) | (go_at_call 90; refine (isDigit_any _ _).mono ?_; rintro e w' ⟨rfl, rfl⟩) | (go_at_call 91; refine (named_any _ _ _ (hT.below (hb.alloc (Nat.le_refl _) _) h0) (by first | (simp; done) | (simp; omega))).mono ?_; rintro e w' ⟨rfl, hb2⟩; obtain ⟨hc2, hf2⟩ := bcell hb2))
              have hsz := hb2.size
              simp at hsz
              exact bodyPost_ret (v := .tuple #[wv (nmK (s.extract p j)) p 0 (nmT (s.extract p j)), .int .i64 0, .int .i64 j]) (by simp [results, Tryz.results50, go_sem, hc2]) rfl ⟨by rw [HE.out, nmT_of]; rfl, (((((hb.alloc (Nat.le_refl _) _).trans (hb2.mono (by simp))).setCell (Nat.le_refl _) _).setCell (Nat.le_refl _) _).setCell (Nat.le_refl _) _).setCell (Nat.le_refl _) _⟩
    · have hl' : letB s[p] = false := by simpa using hl
      have HE : Hid (signV s p = WR.val p (wordR s p)) := signV_of s p hp ho' hl'
      clear hl
      obtain ⟨k', p', e', z', HV⟩ := signV_form s p
      have HV : Hid (signV s p = .tuple #[wv k' p' 0 ⟨#[]⟩, .int .i64 e', .int .i64 z']) := HV
      go_enter Tryz.func50, Tryz.ntmps50
      go_wp2_with (first | (go_at_call 88; refine (isLetter_any _ _).mono ?_; rintro e w' ⟨rfl, rfl⟩) | (go_at_call 90; refine (isDigit_any _ _).mono ?_; rintro e w' ⟨rfl, rfl⟩) | (go_at_call 87; refine (standsAt_any _ _ _ _ hm (by unfold maxLen; show p + 2 ≤ _; omega)).mono ?_; rintro e w' ⟨rfl, rfl⟩) | (go_at_call 89; refine (signAt_any s hs p (by omega) _ (hT.below (hb.alloc (Nat.le_refl _) _) h0) (by first | (simp; done) | (simp; omega))).mono ?_; rw [HV.out]; rintro e w' ⟨rfl, hb2⟩; obtain ⟨hc2, hf2⟩ := bcell hb2))
      have hsz := hb2.size
      simp at hsz
      exact bodyPost_ret (v := .tuple #[wv k' p' 0 ⟨#[]⟩, .int .i64 e', .int .i64 z']) (by simp [results, Tryz.results50, go_sem, hc2]) rfl ⟨by rw [← HE.out, HV.out], (((((hb.alloc (Nat.le_refl _) _).trans (hb2.mono (by simp))).setCell (Nat.le_refl _) _).setCell (Nat.le_refl _) _).setCell (Nat.le_refl _) _).setCell (Nat.le_refl _) _⟩
end Go.Proofs.YtdmedmmdioabgaaGreatDoor
/- WALKS: the code's Split. -/
set_option linter.unusedVariables false
set_option linter.unusedSimpArgs false
namespace Go.Proofs.YtdmedmmdioabgaaGreatDoor
namespace Sl
end Sl
open Go.RowKit Sl

/-- a word's cells, as the code lays it -/
def Tok.cells (x : Tok) : List Value := [.int .i64 x.k, .int .i64 x.p, .int .i64 x.n, .string (nmOf x.k x.t)]
theorem toks_len (l : List Tok) : (l.flatMap Tok.cells).length = l.length * 4 := by
  induction l with
  | nil => rfl
  | cons x r ih => simp only [List.flatMap_cons, List.length_append, ih, List.length_cons, Tok.cells, List.length_nil]; omega
theorem Tryz.info126 : (Tryz.prog.info? 126).map (fun i => (i.zero, i.size, i.bytes)) = some (some (.agg #[.int .i64 0, .int .i64 0, .int .i64 0, .string ⟨#[]⟩]), 4, 40) := by kernel_rfl
def endTok (s : ByteArray) : Tok := ⟨0, 0, s.size, ⟨#[]⟩⟩

theorem tok_one (x : Tok) : ∀ u ∈ Tok.cells x, u.oneCell' = true := by
  intro u hu
  simp only [Tok.cells, List.mem_cons, List.not_mem_nil, or_false] at hu
  rcases hu with rfl | rfl | rfl | rfl <;> rfl
theorem skip_zero (s : ByteArray) (hs : s.size ≤ 1000) (w : World) :
    Calls Tryz.prog 49 #[.string s, .int .i64 0] w fun e w' => e = .returned (.int .i64 (skp s 0)) ∧ w' = w := skip_any s hs 0 (Nat.zero_le _) w
def LR.e : LR → Nat
  | .bad e _ => e
  | .good _ => 0
def LR.p : LR → Nat
  | .bad _ p => p
  | .good _ => 0
/-- the slice that Split hands back -/
def SplitOwn (s : ByteArray) (B : Nat) (w : World) (v : Value) : LR → Prop
  | .good l => w.ownsRow B 126 4 v (l ++ [endTok s]).length ((l ++ [endTok s]).flatMap Tok.cells)
  | .bad _ _ => v = .slice none 0 0

set_option maxRecDepth 100000 in
set_option maxHeartbeats 1000000 in
theorem split_short (s : ByteArray) (hs : s.size ≤ 400) (w : World) (hT : TX w) (h0 : 1 < w.heap.size) :
    Calls Tryz.prog 31 #[.string s] w fun e w' => ∃ v, e = .returned (.tuple #[v, .int .i64 (LR.e (lex s (skp s 0))), .int .i64 (LR.p (lex s (skp s 0)))]) ∧ SplitOwn s w.heap.size w' v (lex s (skp s 0)) ∧ Below w.heap.size w w' := by
  have hb : Below w.heap.size w w := Below.refl _ _
  obtain ⟨i0, hi, hz0, hz1, hz2⟩ := info_parts Tryz.info126
  have hsk := (skp_le s s.size 0 (by omega) (by omega)).2
  obtain ⟨R, hR⟩ : ∃ R, R = lex s (skp s 0) := ⟨_, rfl⟩
  rw [← hR]
  have HR : Hid (R = lex s (skp s 0)) := hR
  clear hR
  go_enter Tryz.func31, Tryz.ntmps31
  go_wp2_with (go_at_call 49; refine (skip_zero s (by omega) _).mono ?_; rintro e w' ⟨rfl, rfl⟩)
  go_loopw [5, 6] (fun v u wr => ∃ (acc : List Tok) (k : Nat), acc.length ≤ k ∧ k ≤ s.size ∧ (lex s k).pre acc = R ∧ u = .int .i64 k ∧ wr.ownsRow w.heap.size 126 4 v acc.length (acc.flatMap Tok.cells) ∧ Below w.heap.size w wr) (fun _ u _ => s.size - (intOf u).toNat)
  case atStart => exact ⟨[], skp s 0, Nat.zero_le _, hsk, by rw [LR.pre_nil]; exact HR.out.symm, rfl, World.ownsRow_lit w #[] 0 (Nat.le_refl _) (by decide) rfl, hb.alloc (Nat.le_refl _) _⟩
  case round =>
    obtain ⟨acc, k, hak, hk, hlx, rfl, hown, hbw⟩ := hrel
    have HX : Hid ((lex s k).pre acc = R) := hlx
    clear hlx
    have hsz := hbw.size
    have hTw := hT.below hbw h0
    by_cases hlt : k < s.size
    · cases hw : wordR s k with
      | err e' =>
        have HW : Hid (wordR s k = .err e') := hw
        have HE : Hid (R = .bad e' k) := by
          show _ = _
          rw [← HX.out, lex_err hlt hw]; rfl
        have he : e' = 2 ∨ e' = 3 := wordR_err hw
        have he0 : ((e' : Int) != 0) = true := by rcases he with rfl | rfl <;> rfl
        clear hw he
        go_wp2_with (go_at_call 50; refine (wordAt_any s (by omega) k hlt _ hTw (by omega)).mono ?_; rw [HW.out]; rintro e w1 ⟨rfl, hb2⟩; simp only [WR.val])
        go_ret3
        exact ⟨.slice none 0 0, by rw [HE.out]; rfl, by rw [HE.out]; rfl, (hbw.trans (hb2.mono hsz)).alloc (by have := hb2.size; omega) _⟩
      | ok k' n' t' z' =>
        have hzz := wordR_le hw
        have hs2 := skp_le s s.size z' (by omega) (by omega)
        have HW : Hid (wordR s k = .ok k' n' t' z') := hw
        clear hw
        go_wp2_with (first | (go_at_call 50; refine (wordAt_any s (by omega) k hlt _ hTw (by omega)).mono ?_; rw [HW.out]; rintro e w1 ⟨rfl, hb2⟩; simp only [WR.val]; obtain ⟨hc2, hf2⟩ := bcell hb2) | (at_builtin; (refine wpList_append_own _ rfl (.tmp 31) (.tmp 33) 75 rfl w.heap.size 126 i0 _ 4 40 Tryz.underlying75 hi hz0 hz1 hz2 rfl (by decide) _ _ _ rfl (((own_below hown hb2).alloc _).alloc _) _ 1 1 (Tok.cells ⟨k', n', k, t'⟩) rfl rfl (cells_new _ _ _ _ (by simp)) ?_ ?_ ?_ ?_ ?_; exact tok_one _; (unfold maxLen; omega); omega; (have := hb2.size; simp; omega); intro v' w3 hown3 hg3 _; have hbw3 := below_app2 hbw hsz hb2 _ _ hg3 (own_ge hown))) | (go_at_call 49; refine (skip_any s (by omega) _ (by omega) _).mono ?_; rintro e w' ⟨rfl, rfl⟩))
        go_roundw
        case rel => exact ⟨acc ++ [⟨k', n', k, t'⟩], skp s z', by simp; omega, hs2.2, by rw [← HX.out, lex_ok hlt HW.out, LR.pre_pre], rfl, by simpa using hown3, hbw3⟩
        case measure => simp [intOf]; omega
    · have HE : Hid (R = .good acc) := by
        show _ = _
        rw [← HX.out, lex_end s k hlt]; simp [LR.pre]
      go_wp2_with (at_builtin; refine wpList_append_own _ rfl (.tmp 38) (.tmp 42) 75 rfl w.heap.size 126 i0 _ 4 40 Tryz.underlying75 hi hz0 hz1 hz2 rfl (by decide) _ _ _ rfl (hown.alloc _) _ 1 1 (Tok.cells (endTok s)) rfl rfl (cells_new _ _ _ _ rfl) ?_ ?_ ?_ ?_ ?_; exact tok_one _; (unfold maxLen; omega); omega; (simp; omega); intro v' w3 hown3 hg3 _; have hbw3 := below_app hbw hsz _ hg3 (own_ge hown))
      go_ret3
      refine ⟨v', ?_, ?_, hbw3⟩
      · rw [HE.out]; rfl
      · rw [HE.out]; simpa [SplitOwn] using hown3
theorem split_long (s : ByteArray) (hs : 400 < s.size) (hm : s.size ≤ maxLen) (w : World) :
    Calls Tryz.prog 31 #[.string s] w fun e w' => e = .returned (.tuple #[.slice none 0 0, .int .i64 1, .int .i64 0]) ∧ w' = w := by
  unfold maxLen at hm
  go_enter Tryz.func31, Tryz.ntmps31
  go_wp2_with fail
  go_ret3
  exact ⟨rfl, rfl⟩
end Go.Proofs.YtdmedmmdioabgaaGreatDoor
