/- WALKS: the document's decimal, name, text. -/
import Derived.Test.YtmkdoejpgkgpbaaDoorLiA
import Derived.Test.YtmkdoejpgkgpbaaDoorLiQ
set_option linter.unusedVariables false
set_option linter.unusedSimpArgs false
namespace Go.Proofs.YtmkdoejpgkgpbaaDoor
open Go.RowKit Li

theorem dig48 (m : Nat) (h : m < 10) : ((UInt8.ofNat (48 + m)).toNat : Int) = 48 + (m : Int) := by
  have : (UInt8.ofNat (48 + m)).toNat = (48 + m) % 256 := rfl
  omega
theorem dd_end (n : Nat) (h : n < 10) : Lib.decDigits n = [UInt8.ofNat (48 + n)] := Lib.decDigits_one h
theorem dd_step (n : Nat) (h : ¬ n < 10) : Lib.decDigits n = Lib.decDigits (n / 10) ++ [UInt8.ofNat (48 + n % 10)] := by rw [Lib.decDigits, dif_neg h]
theorem dd_len (n : Nat) (h : n ≤ 9223372036854775807) : (Lib.decDigits n).length ≤ 20 := by rw [Lib.decDigits_length]; exact Lib.nDigits_le20 n (by omega)
set_option maxRecDepth 100000 in
set_option maxHeartbeats 800000 in
theorem decimal_nat : ∀ (n : Nat) (e : List UInt8) (w : World), n ≤ 9223372036854775807 → e.length ≤ 100 →
    Calls Tryd.prog 29 #[.int .i64 n, .string ⟨e.toArray⟩] w fun r w' => r = .returned (.string ⟨(Lib.decDigits n ++ e).toArray⟩) ∧ Below w.heap.size w w' := by
  intro n
  induction n using Nat.strongRecOn with
  | ind n ih =>
    intro e w hn he
    have hneg : ¬ (n : Int) < 0 := by omega
    by_cases h9 : n < 10
    · obtain ⟨u, hu⟩ : ∃ u, u = UInt8.ofNat (48 + n) := ⟨_, rfl⟩
      have HU : Hid (Lib.decDigits n = [u]) := by show _ = _; rw [hu]; exact dd_end n h9
      have HX : Hid (48 + ((n % 10 : Nat) : Int) = (u.toNat : Int)) := by
        show _ = _
        rw [hu, dig48 n h9, Nat.mod_eq_of_lt h9]
      clear hu ih
      go_enter Tryd.func29, Tryd.ntmps29
      go_wp2_with (refine wpList_string_of _ rfl (.tmp 23) 65 9 5 rfl [u] _ _ _ rfl rfl Tryd.underlying65 Tryd.underlying5 Tryd.underlying9 ?_ ?_; (refine one_cell w _ _ _ _ rfl ?_; exact HX.out))
      go_ret
      refine ⟨?_, (Below.refl _ _).alloc (Nat.le_refl _) _⟩
      rw [HU.out]
      simp
      rfl
    · obtain ⟨u, hu⟩ : ∃ u, u = UInt8.ofNat (48 + n % 10) := ⟨_, rfl⟩
      obtain ⟨t, ht⟩ : ∃ t, Lib.decDigits (n / 10) = t := ⟨_, rfl⟩
      have htl : t.length ≤ 20 := by rw [← ht]; exact dd_len _ (by omega)
      have HU : Hid (Lib.decDigits n = t ++ [u]) := by show _ = _; rw [hu, ← ht]; exact dd_step n h9
      have HX : Hid (48 + ((n % 10 : Nat) : Int) = (u.toNat : Int)) := by
        show _ = _
        rw [hu, dig48 (n % 10) (by omega)]
      have HC : Hid (∀ w : World, Calls Tryd.prog 29 #[.int .i64 ((n / 10 : Nat) : Int), .string ⟨#[]⟩] w fun r w' => r = .returned (.string ⟨t.toArray⟩) ∧ Below w.heap.size w w') := by
        intro w
        have := ih (n / 10) (by omega) [] w (by omega) (by simp)
        rw [ht, List.append_nil] at this
        exact this
      clear hu ht ih
      go_enter Tryd.func29, Tryd.ntmps29
      go_wp2_with (first
        | (go_at_call 29; refine (HC.out _).mono ?_; rintro _ w1 ⟨rfl, hb1⟩)
        | (refine wpList_string_of _ rfl (.tmp 31) 65 9 5 rfl [u] _ _ _ rfl rfl Tryd.underlying65 Tryd.underlying5 Tryd.underlying9 ?_ ?_; (intro j hj; rw [World.cell?_of_block (hb1.block _ (by rw [World.size_alloc]; rw [addr_add]; exact Nat.lt_succ_self _))]; exact one_cell w _ _ _ _ rfl HX.out j hj)))
      go_ret
      refine ⟨?_, ((Below.refl _ _).alloc (Nat.le_refl _) _).trans (hb1.mono (by rw [World.size_alloc]; omega))⟩
      rw [HU.out, List.append_assoc, ← bs_app, ← bs_app]
      simp only [ByteArray.append_assoc]
      rfl
theorem decimal_any (n : Int) (w : World) (h0 : -9223372036854775807 ≤ n) (h1 : n ≤ 9223372036854775807) :
    Calls Tryd.prog 29 #[.int .i64 n, .string ⟨#[]⟩] w fun r w' => r = .returned (.string ⟨(Lib.itoa n).toArray⟩) ∧ Below w.heap.size w w' := by
  by_cases hn : n < 0
  · obtain ⟨t, ht⟩ : ∃ t, Lib.decDigits n.natAbs = t := ⟨_, rfl⟩
    have htl : t.length ≤ 20 := by rw [← ht]; exact dd_len _ (by omega)
    have HI : Hid (Lib.itoa n = 45 :: t) := by show _ = _; unfold Lib.itoa; rw [if_pos hn, ht]
    have HC : Hid (∀ (z : Int) (w : World), z = -n → Calls Tryd.prog 29 #[.int .i64 z, .string ⟨#[]⟩] w fun r w' => r = .returned (.string ⟨t.toArray⟩) ∧ Below w.heap.size w w') := by
      intro z w hz
      have := decimal_nat n.natAbs [] w (by omega) (by simp)
      rw [ht, List.append_nil, show ((n.natAbs : Nat) : Int) = z by omega] at this
      exact this
    clear ht
    go_enter Tryd.func29, Tryd.ntmps29
    go_wp2_with (go_at_call 29; refine (HC.out _ _ rfl).mono ?_; rintro _ w1 ⟨rfl, hb1⟩)
    go_ret
    refine ⟨?_, hb1⟩
    rw [HI.out]
    exact ret_str' (bs_app [45] t)
  · obtain ⟨u, rfl⟩ : ∃ u : Nat, n = u := ⟨n.toNat, by omega⟩
    have := decimal_nat u [] w (by omega) (by simp)
    rw [List.append_nil] at this
    rw [itoa_nat]
    exact this
set_option maxRecDepth 100000 in
set_option maxHeartbeats 1600000 in
theorem name_any (k : Nat) (w : World) (hk : k < 256) :
    Calls Tryd.prog 16 #[.int .i64 k] w fun r w' => r = .returned (.string ⟨(nmO k).toArray⟩) ∧ Below w.heap.size w w' := by
  by_cases h : k < 34
  · go_enter Tryd.func16, Tryd.ntmps16
    go_wp2
    have hl : k < (nms.map fun l => Value.string ⟨l.toArray⟩).length := by rw [List.length_map, nms_len]; exact h
    have e : (nms.map fun l => Value.string ⟨l.toArray⟩)[k]'hl = Value.string ⟨(nmO k).toArray⟩ := by
      rw [List.getElem_map]
      unfold nmO
      rw [List.getD_eq_getElem?_getD, List.getElem?_eq_getElem (by rw [nms_len]; exact h)]; rfl
    go_ret
    exact ⟨congrArg Ending.returned e, (Below.refl _ _).alloc (Nat.le_refl _) _⟩
  · have hd : decide ((34 : Int) ≤ (k : Int)) = true := by simp; omega
    go_enter Tryd.func16, Tryd.ntmps16
    go_wp2
    go_ret
    refine ⟨?_, (Below.refl _ _).alloc (Nat.le_refl _) _⟩
    have : nmO k = [63] := by
      unfold nmO
      rw [List.getD_eq_getElem?_getD, List.getElem?_eq_none (by rw [nms_len]; omega)]; rfl
    rw [this]
    rfl
theorem lnT_step (nm : List UInt8) (ns : List Int) (n : Int) : lnT nm (ns ++ [n]) = nm ++ (ns.flatMap fun n => 32 :: Lib.itoa n) ++ (32 :: Lib.itoa n) ++ [10] := by
  unfold lnT; simp
def lnI (nm : List UInt8) (ns : List Int) : List UInt8 := nm ++ ns.flatMap fun n => 32 :: Lib.itoa n
theorem lnI_len (nm : List UInt8) : ∀ (ns : List Int), (∀ n ∈ ns, -9223372036854775807 ≤ n ∧ n ≤ 9223372036854775807) → (lnI nm ns).length ≤ nm.length + 22 * ns.length
  | [], _ => by simp [lnI]
  | n :: ns, h => by
    have h1 := lnI_len nm ns (fun m hm => h m (List.mem_cons_of_mem _ hm))
    have h2 := itoa_len n (by have := h n (List.mem_cons_self); omega) (h n (List.mem_cons_self)).2
    simp only [lnI, List.flatMap_cons, List.length_append, List.length_cons] at h1 ⊢
    omega
set_option maxRecDepth 100000 in
set_option maxHeartbeats 1600000 in
theorem text_any {nm : List UInt8} {ns : List Int} {b cap : Nat} {w : World} (hnm : nm.length ≤ 4) (hns : ns.length ≤ 4) (hcap : ns.length ≤ cap) (hb : b < w.heap.size) (hbd : ∀ n ∈ ns, -9223372036854775807 ≤ n ∧ n ≤ 9223372036854775807) (hc : ∀ i (h : i < ns.length), w.cell? ⟨b, i, none⟩ = some (.int .i64 ns[i])) :
    Calls Tryd.prog 15 #[.string ⟨nm.toArray⟩, .slice (some ⟨b, 0, none⟩) ns.length cap] w fun r w' => r = .returned (.string ⟨(lnT nm ns).toArray⟩) ∧ Below w.heap.size w w' := by
  have HC : Hid (∀ i (h : i < ns.length), w.cell? ⟨b, i, none⟩ = some (.int .i64 ns[i])) := hc
  have HBD : Hid (∀ n ∈ ns, -9223372036854775807 ≤ n ∧ n ≤ 9223372036854775807) := hbd
  clear hc hbd
  go_enter Tryd.func15, Tryd.ntmps15
  go_wp2_with fail
  go_loopw [0, 5] (fun v i wr => ∃ k : Nat, k ≤ ns.length ∧ i = .int .i64 k ∧ v = .string ⟨(lnI nm (ns.take k)).toArray⟩ ∧ Below w.heap.size w wr) (fun _ i _ => ns.length - (intOf i).toNat)
  case atStart => exact ⟨0, by omega, rfl, by simp [lnI], Below.refl _ _⟩
  case round =>
    obtain ⟨k, hk, rfl, rfl, hbw⟩ := hrel
    have hsz := hbw.size
    obtain ⟨t, ht⟩ : ∃ t, lnI nm (ns.take k) = t := ⟨_, rfl⟩
    have htl : t.length ≤ 100 := by
      rw [← ht]
      have := lnI_len nm (ns.take k) (fun n hn => HBD.out n (List.mem_of_mem_take hn))
      rw [List.length_take] at this
      omega
    have HT : Hid (lnI nm (ns.take k) = t) := ht
    rw [ht]
    clear ht
    obtain ⟨N, hN⟩ : ∃ N, ns.length = N := ⟨_, rfl⟩
    have HN : Hid (ns.length = N) := hN
    rw [hN] at hk hcap ⊢
    by_cases hlt : k < N
    · have hkl : k < ns.length := by omega
      obtain ⟨x, hx⟩ : ∃ x, ns[k] = x := ⟨_, rfl⟩
      have hcell : wr.cell? ⟨b, k, none⟩ = some (.int .i64 x) := by rw [← hx]; exact (hbw.cell (p := ⟨b, k, none⟩) hb).trans (HC.out k hkl)
      have HX : Hid (-9223372036854775807 ≤ x ∧ x ≤ 9223372036854775807) := by show _ ∧ _; rw [← hx]; exact HBD.out _ (List.getElem_mem _)
      have HS : Hid (lnI nm (ns.take (k + 1)) = t ++ ([32] ++ Lib.itoa x)) := by
        show _ = _
        rw [List.take_succ_eq_append_getElem hkl, hx, ← HT.out]
        simp [lnI]
      obtain ⟨q, hq⟩ : ∃ q, Lib.itoa x = q := ⟨_, rfl⟩
      have hql : q.length ≤ 21 := by rw [← hq]; exact itoa_len x (by have := HX.out; omega) HX.out.2
      have HD : Hid (∀ w : World, Calls Tryd.prog 29 #[.int .i64 x, .string ⟨#[]⟩] w fun r w' => r = .returned (.string ⟨q.toArray⟩) ∧ Below w.heap.size w w') := by
        intro w
        rw [← hq]
        exact decimal_any x w HX.out.1 HX.out.2
      rw [hq] at HS
      clear hq hx hN
      go_wp2_with (go_at_call 29; refine (HD.out _).mono ?_; rintro _ w1 ⟨rfl, hb1⟩)
      go_roundw
      case rel => exact ⟨k + 1, by omega, by go_num, by rw [HS.out, ← bs_app, ← bs_app]; simp only [ByteArray.append_assoc], hbw.trans (hb1.mono hsz)⟩
      case measure => simp [intOf]; omega
    · have hkn : k = N := by omega
      clear hN
      go_wp2_with fail
      go_ret
      refine ⟨?_, hbw⟩
      have : lnT nm ns = t ++ [10] := by
        rw [← HT.out, List.take_of_length_le (by rw [HN.out]; omega)]; rfl
      rw [this]
      exact ret_str' (bs_app t [10])
end Go.Proofs.YtmkdoejpgkgpbaaDoor
