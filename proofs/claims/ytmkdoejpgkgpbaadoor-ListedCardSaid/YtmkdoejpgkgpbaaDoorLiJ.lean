/- WALKS: the code's nameOf, addLine. -/
import Derived.Test.YtmkdoejpgkgpbaaDoorLiC
import Derived.Test.YtmkdoejpgkgpbaaDoorLiS
import Derived.Lib.AppendStr
import Derived.Lib.AppendIntMem
import Derived.Lib.Hide
set_option linter.unusedVariables false
set_option linter.unusedSimpArgs false
namespace Go.Proofs.YtmkdoejpgkgpbaaDoor
open Go.RowKit Li

theorem Tryd.inf5 : (Tryd.prog.info? 5).map (fun i => (i.zero, i.size, i.bytes)) = some (some (.int .u8 0), 1, 1) := by kernel_rfl
theorem below_grow {w : World} (k : Nat) (os : Array Obj) : Below w.heap.size w (Sort.grow (w.drewN k) os) :=
  ⟨rfl, rfl, rfl, by show w.heap.size ≤ (w.heap ++ os).size; simp, fun b hb => by show (w.heap ++ os)[b]? = _; rw [Array.getElem?_append_left hb]⟩
/-- the names as the variable holds them -/
def nmV (k : Nat) : List UInt8 := if k = 0 then [] else nmO k
/-- what the variables hold, whatever is done from block B on -/
def Laid (B : Nat) (w : World) : Prop := ∀ w', Below B w w' → Lib.TabIs Tryd.prog w' "internal/strconv.uint64pow10" .u64 Lib.pow10Tab ∧ ∀ i, i < 34 → w'.cell? ⟨0, i, none⟩ = some (.string ⟨(nmV i).toArray⟩)
theorem Laid.on {B : Nat} {w w1 : World} (h : Laid B w) (hb : Below B w w1) : Laid B w1 := fun w' h' => h w' (hb.trans h')
theorem Laid.here {B : Nat} {w : World} (h : Laid B w) : Lib.TabIs Tryd.prog w "internal/strconv.uint64pow10" .u64 Lib.pow10Tab ∧ ∀ i, i < 34 → w.cell? ⟨0, i, none⟩ = some (.string ⟨(nmV i).toArray⟩) := h w (Below.refl _ _)
theorem Laid.less {B B' : Nat} {w : World} (h : Laid B w) (hb : B ≤ B') : Laid B' w := fun w' h' => h w' (h'.mono hb)
set_option maxRecDepth 100000 in
theorem nameOf_any {B k : Nat} {w : World} (hk : k < 256) (hl : Laid B w) :
    Calls Tryd.prog 26 #[.int .i64 k] w fun e w' => e = .returned (.string ⟨(nmO k).toArray⟩) ∧ w' = w := by
  by_cases h0 : k = 0
  · subst h0
    go_enter Tryd.func26, Tryd.ntmps26
    go_wp2
    go_ret
    exact ⟨rfl, rfl⟩
  · by_cases h : k < 34
    · have hc := hl.here.2 k h
      have hv : nmV k = nmO k := by unfold nmV; rw [if_neg h0]
      rw [hv] at hc
      have g0 : decide ((k : Int) ≤ 0) = false := by simp; omega
      have g1 : decide ((34 : Int) ≤ (k : Int)) = false := by simp; omega
      clear hl hv
      go_enter Tryd.func26, Tryd.ntmps26
      go_wp2
      go_ret
      exact ⟨rfl, rfl⟩
    · have hv : nmO k = [63] := by
        unfold nmO
        rw [List.getD_eq_getElem?_getD, List.getElem?_eq_none (by rw [nms_len]; omega)]; rfl
      rw [hv]
      have g0 : decide ((k : Int) ≤ 0) = false := by simp; omega
      have g1 : decide ((34 : Int) ≤ (k : Int)) = true := by simp; omega
      clear hl hv
      go_enter Tryd.func26, Tryd.ntmps26
      go_wp2
      go_ret
      exact ⟨rfl, rfl⟩
theorem bs_size (l : List UInt8) : (⟨l.toArray⟩ : ByteArray).size = l.length := by simp [ByteArray.size]
def bC (l : List UInt8) : List Value := l.map fun b => Value.int .u8 b.toNat
theorem bC_app (a b : List UInt8) : bC (a ++ b) = bC a ++ bC b := by simp [bC]
theorem strCells_bC (l : List UInt8) : Lib.strCells ⟨l.toArray⟩ = bC l := by
  unfold Lib.strCells bC
  simp
/-- two rows of other types lie apart -/
theorem tag_ne {w : World} {B n size b : Nat} {e e' : TypeId} {v : Value} {xs : List Value} {arr : Array Value} (h : w.ownsRow B e size v n xs) (hb : w.heap[b]? = some (.cells arr e' (0, 0))) (he : e ≠ e') : v.ownBlock ≠ some b := fun h2 => by
  rcases h.2 with ⟨h1, _⟩ | ⟨g, cap, cur, h1, _, h3, _⟩
  · rw [h1] at h2; cases h2
  · rw [h1] at h2
    injection h2 with h2
    have h2' : g = b := h2
    subst h2'
    rw [h3] at hb
    injection hb with hb
    injection hb with _ hb _
    exact he hb
set_option maxRecDepth 100000 in
set_option maxHeartbeats 1600000 in
theorem addLine_any {w : World} {B nb cap ob : Nat} {oo : Array Value} {oe : TypeId} {v : Value} {l nm : List UInt8} {ns : List Int} (hown : w.ownsRow B 5 1 v l.length (bC l)) (hB : B ≤ w.heap.size) (hnb : w.heap[nb]? = some (.cells (ns.map (Value.int .i64)).toArray 3 (0, 0))) (hcap : ns.length ≤ cap) (hob : w.heap[ob]? = some (.cells oo oe (0, 0))) (hoe : 5 ≠ oe) (hlaid : Laid B w) (hnm : nm.length ≤ 4) (hns : ns.length ≤ 4) (hbd : ∀ n ∈ ns, -9223372036854775807 ≤ n ∧ n ≤ 9223372036854775807) (hl : l.length ≤ 1000000000) :
    Calls Tryd.prog 25 #[v, .string ⟨nm.toArray⟩, .slice (some ⟨nb, 0, none⟩) ns.length cap] w fun e w' => ∃ v', e = .returned v' ∧ w'.ownsRow B 5 1 v' (l ++ lnT nm ns).length (bC (l ++ lnT nm ns)) ∧ Below B w w' ∧ w'.heap[ob]? = some (.cells oo oe (0, 0)) := by
  have HN : Hid (w.heap[nb]? = some (.cells (ns.map (Value.int .i64)).toArray 3 (0, 0))) := hnb
  have HQ : Hid (w.heap[ob]? = some (.cells oo oe (0, 0))) := hob
  have HOE : Hid (5 ≠ oe) := hoe
  have hol := lt_of_block hob
  have HO : Hid (w.ownsRow B 5 1 v l.length (bC l)) := hown
  have HLA : Hid (Laid B w) := hlaid
  have HBD : Hid (∀ n ∈ ns, -9223372036854775807 ≤ n ∧ n ≤ 9223372036854775807) := hbd
  have hnl := lt_of_block hnb
  obtain ⟨i0, hi0, hz1, hz2, hz3⟩ := info_parts Tryd.inf5
  clear hown hnb hlaid hbd hob hoe
  go_enter Tryd.func25, Tryd.ntmps25
  go_wp2_with (at_builtin; refine Lib.wpList_append_own_string _ rfl (.tmp 8) (.tmp 9) 65 9 rfl B 5 i0 Tryd.underlying65 Tryd.underlying9 hi0 hz1 hz2 hz3 _ _ _ rfl HO.out _ rfl ?_ ?_ ?_ ?_; (rw [bs_size]; unfold maxLen; omega); (rw [bs_size]; omega); exact hB; intro v1 w1 hown1 hg1 hrow1; clear hrow1; obtain ⟨hh1, hs1, hb1⟩ := app_keep HO.out (Below.refl _ _) hB hg1)
  have HO1 : Hid (w1.ownsRow B 5 1 v1 (l ++ nm).length (bC (l ++ nm))) := by
    show w1.ownsRow B 5 1 v1 (l ++ nm).length (bC (l ++ nm))
    rw [bC_app, ← strCells_bC nm, List.length_append]
    exact hown1
  have HN1 : Hid (w1.heap[nb]? = some (.cells (ns.map (Value.int .i64)).toArray 3 (0, 0))) := (hh1 nb hnl (tag_ne HO.out HN.out (by decide))).trans HN.out
  have HQ1 : Hid (w1.heap[ob]? = some (.cells oo oe (0, 0))) := (hh1 ob hol (tag_ne HO.out HQ.out HOE.out)).trans HQ.out
  have HB1 : Hid (Below B w w1) := hb1
  clear hown1 hg1 hh1 hb1
  go_loopw [0, 7] (fun u i wr => ∃ (k : Nat), k ≤ ns.length ∧ i = .int .i64 k ∧ wr.ownsRow B 5 1 u (l ++ lnI nm (ns.take k)).length (bC (l ++ lnI nm (ns.take k))) ∧ wr.heap[nb]? = some (.cells (ns.map (Value.int .i64)).toArray 3 (0, 0)) ∧ Below B w wr ∧ B ≤ wr.heap.size ∧ wr.heap[ob]? = some (.cells oo oe (0, 0))) (fun _ i _ => ns.length - (intOf i).toNat)
  case atStart => exact ⟨0, by omega, rfl, by simpa [lnI] using HO1.out, HN1.out, HB1.out, by omega, HQ1.out⟩
  case round =>
    obtain ⟨k, hk, rfl, hown, hnb, hbw, hsw, hob⟩ := hrel
    have hol2 := lt_of_block hob
    have HQB : Hid (wr.heap[ob]? = some (.cells oo oe (0, 0))) := hob
    have hnl2 := lt_of_block hnb
    obtain ⟨t, ht⟩ : ∃ t, lnI nm (ns.take k) = t := ⟨_, rfl⟩
    have htl : t.length ≤ 100 := by
      rw [← ht]
      have := lnI_len nm (ns.take k) (fun n hn => HBD.out n (List.mem_of_mem_take hn))
      rw [List.length_take] at this
      omega
    have HT : Hid (lnI nm (ns.take k) = t) := ht
    rw [ht] at hown
    have HOW : Hid (wr.ownsRow B 5 1 u0 (l ++ t).length (bC (l ++ t))) := hown
    have HNB : Hid (wr.heap[nb]? = some (.cells (ns.map (Value.int .i64)).toArray 3 (0, 0))) := hnb
    obtain ⟨N, hN⟩ : ∃ N, ns.length = N := ⟨_, rfl⟩
    have EN : Hid (ns.length = N) := hN
    rw [hN] at hk hcap ⊢
    have HQT : Hid (u0.ownBlock ≠ some ob) := tag_ne HOW.out HQB.out HOE.out
    clear hown ht hob
    by_cases hlt : k < N
    · have hkl : k < ns.length := by omega
      obtain ⟨x, hx⟩ : ∃ x, ns[k] = x := ⟨_, rfl⟩
      have hcell : wr.cell? ⟨nb, k, none⟩ = some (.int .i64 x) := by
        rw [(cells_of_block' hnb k).1]
        simp [hkl, hx]
      have HX : Hid (-9223372036854775807 ≤ x ∧ x ≤ 9223372036854775807) := by show _ ∧ _; rw [← hx]; exact HBD.out _ (List.getElem_mem _)
      obtain ⟨q, hq⟩ : ∃ q, Lib.itoa x = q := ⟨_, rfl⟩
      have hql : q.length ≤ 21 := by rw [← hq]; exact itoa_len x (by have := HX.out; omega) HX.out.2
      have HS : Hid (lnI nm (ns.take (k + 1)) = t ++ [32] ++ q) := by
        show _ = _
        rw [List.take_succ_eq_append_getElem hkl, hx, ← HT.out, ← hq]
        simp [lnI]
      have HI : Hid (∀ W, Below B w W → Calls Tryd.prog 40 #[.int .i64 x] W fun e w' => e = .returned (.string ⟨q.toArray⟩) ∧ Below W.heap.size W w') := fun W hW => by
        rw [← hq]
        refine (Tryd.strconv_Itoa x (by have := HX.out; omega) HX.out.2 W ((HLA.out W hW).1)).mono ?_
        rintro e w' ⟨rfl, k', os, rfl⟩
        exact ⟨rfl, below_grow k' os⟩
      have hlen : (l ++ t).length = l.length + t.length := List.length_append
      have HNT : Hid (u0.ownBlock ≠ some nb) := tag_ne HOW.out HNB.out (by decide)
      clear hq hx hN hnb
      obtain ⟨M, hM⟩ : ∃ M, (l ++ t).length = M := ⟨_, rfl⟩
      rw [hM] at hlen HOW
      have EM : Hid ((l ++ t).length = M) := hM
      clear hM
      go_wp2_with (first
        | (go_at_call 40; refine (HI.out _ hbw2).mono ?_; rintro _ w3 ⟨rfl, hb3⟩; have hs3 := hb3.size; have HO3 := Lib.hid (own_below hown2 hb3); have HN3 := Lib.hid (lb_below HN2.out hb3 (by omega)); have HQ3 := Lib.hid (lb_below HQ2.out hb3 (by omega)); have hbw3 := hbw2.trans (hb3.mono (by omega)))
        | (at_builtin; refine wpList_append_own2 _ rfl (.tmp 17) (.tmp 18) 65 rfl B 5 i0 _ 1 1 Tryd.underlying65 hi0 hz1 hz2 hz3 rfl (by decide) _ _ _ rfl (HOW.out.alloc _) _ 1 1 [.int .u8 32] rfl rfl (cells_new _ _ _ _ (by simp)) ?_ ?_ ?_ ?_ ?_; (intro u hu; simp at hu; subst hu; rfl); (unfold maxLen; omega); omega; (simp; omega); intro v2 w2 hown2 hg2 hrow2; clear hrow2; obtain ⟨hh2, hs2, hb2⟩ := app_keep HOW.out ((Below.refl _ _).alloc (Nat.le_refl _) _) hsw hg2; have HN2 := Lib.hid ((hh2 nb hnl2 HNT.out).trans HNB.out); have HQ2 := Lib.hid ((hh2 ob hol2 HQT.out).trans HQB.out); have hbw2 := hbw.trans hb2; have hcell2 : w2.cell? ⟨nb, k, none⟩ = some (.int .i64 x) := (World.cell?_of_block (hh2 nb hnl2 HNT.out)).trans hcell)
        | (at_builtin; refine Lib.wpList_append_own_string _ rfl (.tmp 20) (.tmp 25) 65 9 rfl B 5 i0 Tryd.underlying65 Tryd.underlying9 hi0 hz1 hz2 hz3 _ _ _ rfl HO3.out _ rfl ?_ ?_ ?_ ?_; (rw [bs_size]; unfold maxLen; omega); (rw [bs_size]; omega); omega; intro v4 w4 hown4 hg4 hrow4; clear hrow4; obtain ⟨hh4, hs4, hb4⟩ := app_keep HO3.out (Below.refl _ _) (by omega) hg4))
      go_roundw
      case rel =>
        refine ⟨k + 1, by omega, by go_num, ?_, (hh4 nb (by have := lt_of_block HN3.out; omega) (tag_ne HO3.out HN3.out (by decide))).trans HN3.out, hbw3.trans hb4, by omega, (hh4 ob (by have := lt_of_block HQ3.out; omega) (tag_ne HO3.out HQ3.out HOE.out)).trans HQ3.out⟩
        have e1 : (l ++ lnI nm (ns.take (k + 1))).length = M + 1 + q.length := by rw [HS.out, ← EM.out]; simp [List.length_append]; omega
        have e2 : bC (l ++ lnI nm (ns.take (k + 1))) = bC (l ++ t) ++ [.int .u8 32] ++ Lib.strCells ⟨q.toArray⟩ := by rw [HS.out, strCells_bC]; simp [bC]
        rw [e1, e2]
        rw [bs_size] at hown4
        exact hown4
      case measure => simp [intOf]; omega
    · have hkN : k = N := by omega
      have hlen : (l ++ t).length = l.length + t.length := List.length_append
      obtain ⟨M, hM⟩ : ∃ M, (l ++ t).length = M := ⟨_, rfl⟩
      rw [hM] at hlen HOW
      have EM : Hid ((l ++ t).length = M) := hM
      have HL : Hid (lnT nm ns = t ++ [10]) := by
        show _ = _
        rw [← HT.out, List.take_of_length_le (by omega)]; rfl
      clear hM hN hkN
      go_wp2_with (at_builtin; refine wpList_append_own2 _ rfl (.tmp 27) (.tmp 28) 65 rfl B 5 i0 _ 1 1 Tryd.underlying65 hi0 hz1 hz2 hz3 rfl (by decide) _ _ _ rfl (HOW.out.alloc _) _ 1 1 [.int .u8 10] rfl rfl (cells_new _ _ _ _ (by simp)) ?_ ?_ ?_ ?_ ?_; (intro u hu; simp at hu; subst hu; rfl); (unfold maxLen; omega); omega; (simp; omega); intro v2 w2 hown2 hg2 hrow2; clear hrow2; obtain ⟨hh2, hs2, hb2⟩ := app_keep HOW.out ((Below.refl _ _).alloc (Nat.le_refl _) _) hsw hg2)
      go_ret
      refine ⟨v2, rfl, ?_, hbw.trans hb2, (hh2 ob hol2 HQT.out).trans HQB.out⟩
      have e1 : (l ++ lnT nm ns).length = M + 1 := by rw [HL.out, ← EM.out]; simp [List.length_append]; omega
      have e2 : bC (l ++ lnT nm ns) = bC (l ++ t) ++ [.int .u8 10] := by rw [HL.out]; simp [bC]
      rw [e1, e2]
      exact hown2
end Go.Proofs.YtmkdoejpgkgpbaaDoor
