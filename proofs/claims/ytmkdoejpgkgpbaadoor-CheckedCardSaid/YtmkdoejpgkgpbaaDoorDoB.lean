/- WALKS: the document's strike. -/
import Derived.Test.YtmkdoejpgkgpbaaDoorDoA
import Derived.Test.YtmkdoejpgkgpbaaDoorRoK
set_option linter.unusedVariables false
set_option linter.unusedSimpArgs false
namespace Go.Proofs.YtmkdoejpgkgpbaaDoor
open Go.RowKit Li Ro

/-- a row of Booleans -/
def brow (n : Nat) (f : Nat → Bool) : Array Value := (Array.range n).map fun i => .bool (f i)
theorem brow_size (n : Nat) (f : Nat → Bool) : (brow n f).size = n := by simp [brow]
theorem brow_at {n i : Nat} {f : Nat → Bool} (h : i < n) : (brow n f)[i]? = some (.bool (f i)) := by simp [brow, h]
theorem brow_set {n i : Nat} {f : Nat → Bool} {v : Bool} : (brow n f).setIfInBounds i (.bool v) = brow n (fun j => if j = i then v else f j) := by
  apply Array.ext_getElem?
  intro j
  rw [Array.getElem?_setIfInBounds]
  by_cases e : i = j
  · subst e
    rw [if_pos rfl, brow_size]
    by_cases h : i < n
    · rw [if_pos h, brow_at h, if_pos rfl]
    · rw [if_neg h, Array.getElem?_eq_none (by rw [brow_size]; omega)]
  · rw [if_neg e]
    by_cases h : j < n
    · rw [brow_at h, brow_at h, if_neg (fun e' => e e'.symm)]
    · rw [Array.getElem?_eq_none (by rw [brow_size]; omega), Array.getElem?_eq_none (by rw [brow_size]; omega)]
theorem brow_congr {n : Nat} {f g : Nat → Bool} (h : ∀ i, i < n → f i = g i) : brow n f = brow n g := by
  apply Array.ext_getElem?
  intro j
  by_cases hj : j < n
  · rw [brow_at hj, brow_at hj, h j hj]
  · rw [Array.getElem?_eq_none (by rw [brow_size]; omega), Array.getElem?_eq_none (by rw [brow_size]; omega)]
theorem brow_made (n : Nat) : madeCells #[.bool false] n = brow n (fun _ => false) := by
  apply Array.ext_getElem?
  intro j
  by_cases hj : j < n
  · rw [brow_at hj]; simp [madeCells, hj, Nat.mod_one]
  · rw [Array.getElem?_eq_none (by rw [size_madeCells]; omega), Array.getElem?_eq_none (by rw [brow_size]; omega)]
def BR (w : World) (b n : Nat) (f : Nat → Bool) : Prop := w.heap[b]? = some (.cells (brow n f) 4 (0, 0))
theorem BR.at {w : World} {b n : Nat} {f : Nat → Bool} (h : BR w b n f) {i : Nat} (hi : i < n) : w.cell? ⟨b, i, none⟩ = some (.bool (f i)) := lb_at h i (brow_at hi)
theorem BR.set {w : World} {b n : Nat} {f : Nat → Bool} (h : BR w b n f) (i : Nat) (v : Bool) : BR (w.setCell ⟨b, i, none⟩ (.bool v)) b n (fun j => if j = i then v else f j) := by
  unfold BR at *
  rw [lb_set h i (.bool v), brow_set]
/-- was there something to strike in the first i places? -/
def strM (B L : Nat → Bool) (i : Nat) : Bool := (List.range i).any fun j => B j && !L j
theorem strM_succ (B L : Nat → Bool) (i : Nat) : strM B L (i + 1) = (strM B L i || (B i && !L i)) := by simp [strM, List.range_succ, List.any_append]
theorem strM_false {B L : Nat → Bool} {n : Nat} (h : strM B L n = false) : ∀ i, i < n → B i = true → L i = true := fun i hi hb => by
  unfold strM at h
  rw [List.any_eq_false] at h
  have := h i (List.mem_range.2 hi)
  rw [hb] at this
  cases hl : L i with
  | true => rfl
  | false => rw [hl] at this; exact absurd rfl this
theorem strM_true {B L : Nat → Bool} {n : Nat} (h : strM B L n = true) : ∃ i, i < n ∧ B i = true ∧ L i = false := by
  unfold strM at h
  rw [List.any_eq_true] at h
  obtain ⟨i, hi, h2⟩ := h
  rw [Bool.and_eq_true, Bool.not_eq_true'] at h2
  exact ⟨i, List.mem_range.1 hi, h2.1, h2.2⟩
set_option maxRecDepth 100000 in
set_option maxHeartbeats 3200000 in
theorem strike_any {w : World} {op r x y p ga gb n ca cb : Nat} {A B : Nat → Bool} (hop : op < 256) (hx : x < 65536) (hn : n ≤ 2000) (hab : ga ≠ gb) (hA : BR w ga n A) (hB : BR w gb n B) (hca : n ≤ ca) (hcb : n ≤ cb) :
    Calls Tryd.prog 36 #[.agg #[.int .i64 op, .int .i64 r, .int .i64 x, .int .i64 y, .int .i64 p], .slice (some ⟨ga, 0, none⟩) n ca, .slice (some ⟨gb, 0, none⟩) n cb] w fun e w' => e = .returned (.bool (strM B (afO op r x A) n)) ∧ BR w' gb n (fun i => B i && afO op r x A i) ∧ Lone gb w w' := by
  have hga := lt_of_block hA
  have hgb := lt_of_block hB
  have HA := Lib.hid hA
  have HB := Lib.hid hB
  have H0 : Hid (∀ o : Obj, Below w.heap.size w (w.alloc o)) := fun o => (Below.refl _ _).alloc (Nat.le_refl _) _
  have CY : Hid (∀ W, Calls Tryd.prog 46 #[.agg #[.int .i64 op, .int .i64 r, .int .i64 x, .int .i64 y, .int .i64 p]] W fun e w' => e = .returned (.int .i64 (lyI op r x)) ∧ Below W.heap.size W w') := fun W => lays_any hop hx
  have CO : Hid (∀ (i : Nat) W, i < 65536 → Calls Tryd.prog 47 #[.agg #[.int .i64 op, .int .i64 r, .int .i64 x, .int .i64 y, .int .i64 p], .int .i64 i] W fun e w' => e = .returned (.bool (loO op x i)) ∧ Below W.heap.size W w') := fun i W hi => loses_any hop hx hi
  have HAF : Hid (∀ i, afO op r x A i = (lyO op r x i || (A i && !loO op x i))) := fun _ => rfl
  have HLY : Hid (∀ i : Nat, ((i : Int) == lyI op r x) = lyO op r x i) := fun i => lyI_lyO
  generalize afO op r x A = L at *
  generalize lyI op r x = ti at *
  have HLO := Lib.hid (show ∀ i, loO op x i = loO op x i from fun _ => rfl)
  clear hA hB HLO
  go_enter Tryd.func36, Tryd.ntmps36
  go_wp2_with (go_at_call 46; refine (CY.out _).mono ?_; rintro _ w1 ⟨rfl, hb1⟩; have HBX1 := Lib.hid (lb_below (lb_new w _) hb1 (by rw [World.size_alloc]; omega)); have HB01 := Lib.hid ((H0.out _).trans (hb1.mono (by rw [World.size_alloc]; omega))); clear hb1)
  go_loopg [7, 9] n (fun gh s7 s9 (wr : World) => ∃ i : Nat, i ≤ n ∧ gh = n - i ∧ s9 = .int .i64 i ∧ s7 = .bool (strM B L i) ∧ BR wr gb n (fun j => if j < i then B j && L j else B j) ∧ BR wr ga n A ∧ wr.heap[w.heap.size]? = some (.cells #[.int .i64 op, .int .i64 r, .int .i64 x, .int .i64 y, .int .i64 p] 53 (0, 0)) ∧ Lone gb w wr)
  case atStart =>
    refine ⟨0, by omega, rfl, rfl, rfl, ?_, lb_below HA.out HB01.out hga, HBX1.out, Lone.of HB01.out (by omega)⟩
    have : BR w1 gb n B := lb_below HB.out HB01.out hgb
    unfold BR at *
    rw [this, brow_congr (g := fun j => if j < 0 then B j && L j else B j) (fun j _ => by rw [if_neg (by omega)])]
  case round =>
    obtain ⟨i, hi, hgi, rfl, rfl, hBi, hAi, hbx, hlo⟩ := hrel
    have hs1 := hlo.size
    have e0 := lb_at hbx 0 rfl
    have e1 := lb_at hbx 1 rfl
    have e2 := lb_at hbx 2 rfl
    have e3 := lb_at hbx 3 rfl
    have e4 := lb_at hbx 4 rfl
    simp only [List.getElem_toArray, List.getElem_cons_zero, List.getElem_cons_succ] at e0 e1 e2 e3 e4
    have HBI := Lib.hid hBi
    have HAI := Lib.hid hAi
    have HBX := Lib.hid hbx
    have HLO := Lib.hid hlo
    have hsx := lt_of_block hbx
    clear hBi hAi hbx hlo
    by_cases hlt : i < n
    · have g1 : (i : Int) < (n : Int) := by omega
      obtain ⟨lo, hlo⟩ : ∃ lo, loO op x i = lo := ⟨_, rfl⟩
      obtain ⟨ly, hly⟩ : ∃ ly, lyO op r x i = ly := ⟨_, rfl⟩
      obtain ⟨av, hav⟩ : ∃ av, A i = av := ⟨_, rfl⟩
      obtain ⟨bv, hbv⟩ : ∃ bv, B i = bv := ⟨_, rfl⟩
      have HLI : Hid (L i = (ly || (av && !lo))) := by show _ = _; rw [HAF.out, hly, hav, hlo]
      have CO2 : Hid (Calls Tryd.prog 47 #[.agg #[.int .i64 op, .int .i64 r, .int .i64 x, .int .i64 y, .int .i64 p], .int .i64 i] wr fun e w' => e = .returned (.bool lo) ∧ Below wr.heap.size wr w') := by rw [← hlo]; exact CO.out i wr (by omega)
      have hti : ((i : Int) == ti) = ly := by rw [HLY.out]; exact hly
      have HBV := Lib.hid hbv
      have HSU : Hid (strM B L (i + 1) = (strM B L i || (bv && !(ly || (av && !lo))))) := by show _ = _; rw [strM_succ, hbv, HLI.out]
      have HNB : Hid (∀ w', BR w' gb n (fun j => if j < i then B j && L j else B j) → bv = false ∨ (ly || (av && !lo)) = true → BR w' gb n (fun j => if j < i + 1 then B j && L j else B j)) := fun w' h hh => by
        unfold BR at *
        rw [h, brow_congr]
        intro j _
        by_cases e : j = i
        · subst e
          rw [if_neg (by omega), if_pos (by omega), hbv, HLI.out]
          rcases hh with hh | hh <;> rw [hh] <;> simp
        · by_cases e2 : j < i
          · rw [if_pos e2, if_pos (by omega)]
          · rw [if_neg e2, if_neg (by omega)]
      have HNS : Hid (∀ w', BR w' gb n (fun j => if j < i then B j && L j else B j) → (ly || (av && !lo)) = false → BR (w'.setCell ⟨gb, i, none⟩ (.bool false)) gb n (fun j => if j < i + 1 then B j && L j else B j)) := fun w' h hh => by
        have h2 := h.set i false
        unfold BR at *
        rw [h2, brow_congr]
        intro j _
        by_cases e : j = i
        · subst e
          rw [if_pos rfl, if_pos (by omega), HLI.out, hh]; simp
        · rw [if_neg e]
          by_cases e2 : j < i
          · rw [if_pos e2, if_pos (by omega)]
          · rw [if_neg e2, if_neg (by omega)]
      have cA : ∀ w', Below wr.heap.size wr w' → w'.cell? ⟨ga, i, none⟩ = some (.bool av) := fun w' h => by rw [← hav]; exact BR.at (lb_below HAI.out h (by omega)) hlt
      have cB : ∀ w', Below wr.heap.size wr w' → w'.cell? ⟨gb, i, none⟩ = some (.bool bv) := fun w' h => by
        have := BR.at (lb_below HBI.out h (by omega)) hlt
        rw [if_neg (by omega), hbv] at this; exact this
      have HCA := Lib.hid cA
      have HCB := Lib.hid cB
      clear hlo hly hav hbv cA cB
      cases bv <;> cases ly <;> cases av <;> cases lo
      all_goals
        go_wp2_with (go_at_call 47; refine CO2.out.mono ?_; rintro _ w2 ⟨rfl, hb2⟩; have k1 := HCA.out _ hb2; have k2 := HCB.out _ hb2; have f2 : w2.frozen? ⟨gb, i, none⟩ = false := (lb_f (lb_below HBI.out hb2 (by omega)) i); have HL2 := Lib.hid (HLO.out.trans (Lone.of hb2 (by omega))); have HX2 := Lib.hid (lb_below HBX.out hb2 hsx); have HI2 : Hid (BR w2 gb n (fun j => if j < i then B j && L j else B j)) := (lb_below HBI.out hb2 (by omega)); have HA2 : Hid (BR w2 ga n A) := (lb_below HAI.out hb2 (by omega)))
        go_roundg (n - (i + 1))
        case measure => omega
        case rel =>
          first
            | exact ⟨i + 1, by omega, rfl, by go_num, by rw [HSU.out]; simp, HNB.out _ HI2.out (by simp), HA2.out, HX2.out, HL2.out⟩
            | exact ⟨i + 1, by omega, rfl, by go_num, by rw [HSU.out]; simp, HNS.out _ HI2.out (by simp), (Below.heap_setCell _ _ _ _ (show ga ≠ gb from hab)).trans HA2.out, (Below.heap_setCell _ _ _ _ (show w.heap.size ≠ gb by omega)).trans HX2.out, HL2.out.set _ _⟩
    · have hin : i = n := by omega
      subst hin
      go_wp2_with fail
      go_ret
      refine ⟨rfl, ?_, HLO.out⟩
      have h := HBI.out
      unfold BR at *
      rw [h, brow_congr]
      intro j hj
      rw [if_pos hj]
end Go.Proofs.YtmkdoejpgkgpbaaDoor
