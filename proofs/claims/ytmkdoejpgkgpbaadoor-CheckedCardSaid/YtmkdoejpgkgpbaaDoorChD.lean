/- WALKS: the document's made. -/
import Derived.Test.YtmkdoejpgkgpbaaDoorChC
set_option linter.unusedVariables false
set_option linter.unusedSimpArgs false
namespace Go.Proofs.YtmkdoejpgkgpbaaDoor
open Go.RowKit Li

/-- is a line well made? -/
def fit4 (F N : Nat) (vs rs : Nat → Nat) (pc slots end' : Nat) : Nat → Bool
  | 0 => true
  | k + 1 => fit4 F N vs rs pc slots end' k && fitB F N (vs k) (rs k) pc slots end'
theorem fit4_le {F N : Nat} {vs rs : Nat → Nat} {pc slots end' : Nat} : ∀ (n k : Nat), k ≤ n → fit4 F N vs rs pc slots end' k = false → fit4 F N vs rs pc slots end' n = false
  | 0, k, h, hf => by
    have : k = 0 := by omega
    rw [this] at hf; exact hf
  | n + 1, k, h, hf => by
    by_cases hk : k = n + 1
    · rw [← hk]; exact hf
    · rw [fit4, fit4_le n k (by omega) hf]; rfl
def ruN (op k : Nat) : Nat := (rul.getD op []).getD k 0
def wlB (F N op : Nat) (vs : Nat → Nat) (pc slots end' : Nat) : Bool := decide (1 ≤ op) && (decide (op < 34) && (fit4 F N vs (ruN op) pc slots end' 4 && (overB op || decide (pc + 1 < end'))))
theorem ruN_lt (op k : Nat) : ruN op k < 8 := by
  unfold ruN
  have h : ∀ l ∈ rul, ∀ x ∈ l, x < 8 := by decide
  rw [List.getD_eq_getElem?_getD, List.getD_eq_getElem?_getD]
  cases hl : rul[op]? with
  | none => simp
  | some l =>
    simp only [Option.getD_some]
    cases hx : l[k]? with
    | none => simp
    | some x => exact h l (List.mem_of_getElem? hl) x (List.mem_of_getElem? hx)
theorem ruN_of {op a b c d : Nat} (h : rul[op]? = some [a, b, c, d]) : a = ruN op 0 ∧ b = ruN op 1 ∧ c = ruN op 2 ∧ d = ruN op 3 := by
  have e : rul.getD op [] = [a, b, c, d] := by rw [List.getD_eq_getElem?_getD, h]; rfl
  unfold ruN
  rw [e]
  exact ⟨rfl, rfl, rfl, rfl⟩
theorem rules_at {op : Nat} (h1 : 1 ≤ op) (h2 : op < 34) (W : World) : Calls Tryd.prog 32 #[.int .i64 op] W fun e w' => e = .returned (.tuple #[.slice (some ⟨W.heap.size, 0, none⟩) 4 4, .bool true]) ∧ w' = W.alloc (.cells #[.int .i64 (ruN op 0), .int .i64 (ruN op 1), .int .i64 (ruN op 2), .int .i64 (ruN op 3)] 3) := by
  obtain ⟨a, b, c, d, hr, h⟩ := rules_yes (w := W) h1 h2
  obtain ⟨rfl, rfl, rfl, rfl⟩ := ruN_of hr
  exact h
/-- the four fields of a line -/
def lv (s : ByteArray) (pc k : Nat) : Nat := [l1 s pc, l2 s pc, l3 s pc, l4 s pc].getD k 0
set_option maxRecDepth 100000 in
set_option maxHeartbeats 3200000 in
theorem made_any {s : ByteArray} {w : World} {p pc a0 a1 a2 slots end' : Nat} {vF vN vL : Value} {R : Bool} (hat : RdAt s w p vF vN vL) (hpc : pc < hL s) (he : end' < 65537) (hR : wlB (hF s) (hN s) (l0 s pc) (lv s pc) pc slots end' = R) :
    Calls Tryd.prog 18 #[.pointer (some ⟨p, 0, none⟩), .int .i64 pc, .agg #[.int .i64 a0, .int .i64 a1, .int .i64 a2, .int .i64 slots, .int .i64 end']] w fun e w' => e = .returned (.bool R) ∧ Below w.heap.size w w' := by
  have hLl : hL s < 65536 := n2_lt _ _
  have hlt := lt_of_block hat.blk
  obtain ⟨aF, cFc, rfl⟩ := or_slice hat.funs
  obtain ⟨aN, cNc, rfl⟩ := or_slice hat.nums
  obtain ⟨g, cap, rfl, hg1, hg2, hg3, hg4⟩ := or_shape hat.lines (by omega)
  have HBK := Lib.hid hat.blk
  have HBA : Hid (∀ o : Obj, Below w.heap.size w (w.alloc o)) := fun o => (Below.refl _ _).alloc (Nat.le_refl _) _
  have hcell : ∀ o v, o < 5 → (dL s pc)[o]? = some v → ∀ ob : Obj, (w.alloc ob).cell? ⟨g, pc * 5 + o, none⟩ = some v := fun o v ho hv ob => by
    rw [(HBA.out ob).cell (p := ⟨g, pc * 5 + o, none⟩) hg2, hat.lines.cellAt (pc * 5 + o) (by omega)]
    exact (rowC_at (dL_len s) ho (hL s) hpc).trans hv
  have e0 : ∀ ob : Obj, (w.alloc ob).cell? ⟨g, pc * 5, none⟩ = some (.int .i64 (l0 s pc)) := hcell 0 _ (by omega) rfl
  have e1 := hcell 1 _ (by omega) rfl
  have e2 := hcell 2 _ (by omega) rfl
  have e3 := hcell 3 _ (by omega) rfl
  have e4 := hcell 4 _ (by omega) rfl
  have c2 : ∀ ob : Obj, (w.alloc ob).cell? ⟨p, 2, none⟩ = some (.slice (some ⟨g, 0, none⟩) (hL s) cap) := lb_past HBK.out 2 rfl
  have HR := Lib.hid hR
  have hq : lv s pc 0 = l1 s pc ∧ lv s pc 1 = l2 s pc ∧ lv s pc 2 = l3 s pc ∧ lv s pc 3 = l4 s pc := ⟨rfl, rfl, rfl, rfl⟩
  obtain ⟨hq0, hq1, hq2, hq3⟩ := hq
  clear hcell hat hR
  by_cases hop : 1 ≤ l0 s pc ∧ l0 s pc < 34
  · have HRT : Hid (R = (fit4 (hF s) (hN s) (lv s pc) (ruN (l0 s pc)) pc slots end' 4 && (overB (l0 s pc) || decide (pc + 1 < end')))) := by
      show _ = _
      rw [← HR.out]
      unfold wlB
      rw [decide_eq_true hop.1, decide_eq_true hop.2]
      rfl
    have CR := Lib.hid (rules_at hop.1 hop.2)
    have CL : Hid (∀ W : World, Calls Tryd.prog 34 #[.int .i64 (l0 s pc)] W fun e w' => e = .returned (.bool (overB (l0 s pc))) ∧ w' = W) := fun W => last_any
    have HVS : Hid (∀ k, k < 4 → ([(l1 s pc : Int), (l2 s pc : Int), (l3 s pc : Int), (l4 s pc : Int)].map (Value.int .i64))[k]? = some (.int .i64 (lv s pc k))) := fun k hk => by
      have : k = 0 ∨ k = 1 ∨ k = 2 ∨ k = 3 := by omega
      rcases this with rfl | rfl | rfl | rfl <;> rfl
    have HRS : Hid (∀ k, k < 4 → ([(ruN (l0 s pc) 0 : Int), (ruN (l0 s pc) 1 : Int), (ruN (l0 s pc) 2 : Int), (ruN (l0 s pc) 3 : Int)].map (Value.int .i64))[k]? = some (.int .i64 (ruN (l0 s pc) k))) := fun k hk => by
      have : k = 0 ∨ k = 1 ∨ k = 2 ∨ k = 3 := by omega
      rcases this with rfl | rfl | rfl | rfl <;> rfl
    have HRL : Hid (∀ k, ruN (l0 s pc) k < 8) := fun k => ruN_lt _ _
    generalize ruN (l0 s pc) = ru at *
    generalize overB (l0 s pc) = ov at *
    generalize (l0 s pc : Int) = q0 at *
    generalize (l1 s pc : Int) = q1 at *
    generalize (l2 s pc : Int) = q2 at *
    generalize (l3 s pc : Int) = q3 at *
    generalize (l4 s pc : Int) = q4 at *
    generalize (ru 0 : Int) = t0 at *
    generalize (ru 1 : Int) = t1 at *
    generalize (ru 2 : Int) = t2 at *
    generalize (ru 3 : Int) = t3 at *
    generalize hL s = L at *
    generalize hF s = F at *
    generalize hN s = N at *
    generalize lv s pc = vs at *
    clear hop hq0 hq1 hq2 hq3 HR
    go_enter Tryd.func18, Tryd.ntmps18
    go_wp2_with (go_at_call 32; refine (CR.out _).mono ?_; rintro _ w1 ⟨rfl, hw1⟩; rw [hw1]; clear hw1)
    go_loopw [11] (fun i wr => ∃ k : Nat, k ≤ 4 ∧ i = .int .i64 k ∧ fit4 F N vs ru pc slots end' k = true ∧ wr.heap[w.heap.size]? = some (.cells #[.int .i64 a0, .int .i64 a1, .int .i64 a2, .int .i64 slots, .int .i64 end'] 50 (0, 0)) ∧ wr.heap[w.heap.size + 1]? = some (.cells #[.int .i64 q0, .int .i64 q1, .int .i64 q2, .int .i64 q3, .int .i64 q4] 53 (0, 0)) ∧ wr.heap[w.heap.size + 2]? = some (.cells #[.int .i64 t0, .int .i64 t1, .int .i64 t2, .int .i64 t3] 3 (0, 0)) ∧ wr.heap[w.heap.size + 3]? = some (.cells #[.int .i64 q1, .int .i64 q2, .int .i64 q3, .int .i64 q4] 3 (0, 0)) ∧ Below w.heap.size w wr ∧ w.heap.size + 4 ≤ wr.heap.size) (fun i _ => 4 - (intOf i).toNat)
    case atStart =>
      refine ⟨0, by omega, rfl, rfl, ?_, ?_, ?_, lb_new' (by simp), ?_, by simp⟩
      · exact (Below.heap_alloc _ _ _ (by simp <;> omega)).trans ((Below.heap_alloc _ _ _ (by simp <;> omega)).trans ((Below.heap_alloc _ _ _ (by simp)).trans (lb_new' rfl)))
      · exact (Below.heap_alloc _ _ _ (by simp <;> omega)).trans ((Below.heap_alloc _ _ _ (by simp)).trans (lb_new' (by simp)))
      · exact (Below.heap_alloc _ _ _ (by simp)).trans (lb_new' (by simp))
      · exact (((HBA.out _).alloc (by simp) _).alloc (by simp <;> omega) _).alloc (by simp <;> omega) _
    case round =>
      obtain ⟨k, hk, rfl, hfk, h0, h1, h2, h3, hbw, hsw⟩ := hrel
      have HBX : Hid (Below w.heap.size w wr) := hbw
      by_cases hk4 : k < 4
      · have HFK : Hid (fit4 F N vs ru pc slots end' k = true) := hfk
        have d3 : wr.cell? ⟨w.heap.size + 3, k, none⟩ = some (.int .i64 (vs k)) := (cells_of_block' h3 k).1.trans (by simpa using HVS.out k hk4)
        have d2 : wr.cell? ⟨w.heap.size + 2, k, none⟩ = some (.int .i64 (ru k)) := (cells_of_block' h2 k).1.trans (by simpa using HRS.out k hk4)
        have f0 := lb_at h0 0 rfl
        have f1 := lb_at h0 1 rfl
        have f2 := lb_at h0 2 rfl
        have f3 := lb_at h0 3 rfl
        have f4 := lb_at h0 4 rfl
        simp only [List.getElem_toArray, List.getElem_cons_zero, List.getElem_cons_succ] at f0 f1 f2 f3 f4
        have H0 := Lib.hid h0
        have H1 := Lib.hid h1
        have H2 := Lib.hid h2
        have H3 := Lib.hid h3
        obtain ⟨Q, hQ⟩ : ∃ Q, fitB F N (vs k) (ru k) pc slots end' = Q := ⟨_, rfl⟩
        have HQ : Hid (fitB F N (vs k) (ru k) pc slots end' = Q) := hQ
        have CP : Hid (∀ W : World, Below w.heap.size w W → Calls Tryd.prog 33 #[.pointer (some ⟨p, 0, none⟩), .int .i64 (vs k), .int .i64 (ru k), .int .i64 pc, .agg #[.int .i64 a0, .int .i64 a1, .int .i64 a2, .int .i64 slots, .int .i64 end']] W fun e w' => e = .returned (.bool Q) ∧ Below W.heap.size W w') := fun W hW => pfits_any (HRL.out k) (lb_below HBK.out hW hlt) hQ
        have b0 : (0 : Int) ≤ (k : Int) := by omega
        have b1 : (k : Int) < 4 := by omega
        clear h0 h1 h2 h3 hfk hQ
        generalize (vs k : Int) = vk at *
        generalize (ru k : Int) = rk at *
        cases Q with
        | true =>
          go_upto_region 9 with fail
          go_region_held3 (fun w' => w'.cell? ⟨w.heap.size + 3, k, none⟩ = some (.int .i64 vk) ∧ w'.cell? ⟨w.heap.size + 2, k, none⟩ = some (.int .i64 rk) ∧ w'.cell? ⟨w.heap.size, 0, none⟩ = some (.int .i64 a0) ∧ w'.cell? ⟨w.heap.size, 1, none⟩ = some (.int .i64 a1) ∧ w'.cell? ⟨w.heap.size, 2, none⟩ = some (.int .i64 a2) ∧ w'.cell? ⟨w.heap.size, 3, none⟩ = some (.int .i64 slots) ∧ w'.cell? ⟨w.heap.size, 4, none⟩ = some (.int .i64 end')) (first | go_keep | exact ⟨s3, s2, k0, k1, k2, k3, k4⟩) ((go_at_call 33; refine (CP.out _ (by exact HBX.out.drew)).mono ?_; rintro _ w2 ⟨rfl, hb2⟩; have s3 := (hb2.cell (p := ⟨w.heap.size + 3, k, none⟩) (show w.heap.size + 3 < wr.heap.size by omega)).trans d3; have s2 := (hb2.cell (p := ⟨w.heap.size + 2, k, none⟩) (show w.heap.size + 2 < wr.heap.size by omega)).trans d2; have g0 := lb_below (w := wr.drew) (by exact H0.out) hb2 (show w.heap.size < wr.heap.size by omega); have k0 : w2.cell? ⟨w.heap.size, 0, none⟩ = some (.int .i64 a0) := lb_at g0 0 rfl; have k1 : w2.cell? ⟨w.heap.size, 1, none⟩ = some (.int .i64 a1) := lb_at g0 1 rfl; have k2 : w2.cell? ⟨w.heap.size, 2, none⟩ = some (.int .i64 a2) := lb_at g0 2 rfl; have k3 : w2.cell? ⟨w.heap.size, 3, none⟩ = some (.int .i64 slots) := lb_at g0 3 rfl; have k4 : w2.cell? ⟨w.heap.size, 4, none⟩ = some (.int .i64 end') := lb_at g0 4 rfl))
          all_goals
            go_wp2_with fail
            go_roundw
            case rel =>
              have hs2 : wr.heap.size ≤ w2.heap.size := hb2.size
              refine ⟨k + 1, by omega, by go_num, by rw [fit4, HFK.out, HQ.out]; rfl, g0, lb_below (w := wr.drew) (by exact H1.out) hb2 (show w.heap.size + 1 < wr.heap.size by omega), lb_below (w := wr.drew) (by exact H2.out) hb2 (show w.heap.size + 2 < wr.heap.size by omega), lb_below (w := wr.drew) (by exact H3.out) hb2 (show w.heap.size + 3 < wr.heap.size by omega), (HBX.out.drew).trans (hb2.mono (show w.heap.size ≤ wr.heap.size by omega)), by omega⟩
            case measure => simp [intOf]; omega
        | false =>
          go_upto_region 9 with fail
          go_region_held3 (fun w' => w'.cell? ⟨w.heap.size + 3, k, none⟩ = some (.int .i64 vk) ∧ w'.cell? ⟨w.heap.size + 2, k, none⟩ = some (.int .i64 rk) ∧ w'.cell? ⟨w.heap.size, 0, none⟩ = some (.int .i64 a0) ∧ w'.cell? ⟨w.heap.size, 1, none⟩ = some (.int .i64 a1) ∧ w'.cell? ⟨w.heap.size, 2, none⟩ = some (.int .i64 a2) ∧ w'.cell? ⟨w.heap.size, 3, none⟩ = some (.int .i64 slots) ∧ w'.cell? ⟨w.heap.size, 4, none⟩ = some (.int .i64 end')) (first | go_keep | exact ⟨s3, s2, k0, k1, k2, k3, k4⟩) ((go_at_call 33; refine (CP.out _ (by exact HBX.out.drew)).mono ?_; rintro _ w2 ⟨rfl, hb2⟩; have s3 := (hb2.cell (p := ⟨w.heap.size + 3, k, none⟩) (show w.heap.size + 3 < wr.heap.size by omega)).trans d3; have s2 := (hb2.cell (p := ⟨w.heap.size + 2, k, none⟩) (show w.heap.size + 2 < wr.heap.size by omega)).trans d2; have g0 := lb_below (w := wr.drew) (by exact H0.out) hb2 (show w.heap.size < wr.heap.size by omega); have k0 : w2.cell? ⟨w.heap.size, 0, none⟩ = some (.int .i64 a0) := lb_at g0 0 rfl; have k1 : w2.cell? ⟨w.heap.size, 1, none⟩ = some (.int .i64 a1) := lb_at g0 1 rfl; have k2 : w2.cell? ⟨w.heap.size, 2, none⟩ = some (.int .i64 a2) := lb_at g0 2 rfl; have k3 : w2.cell? ⟨w.heap.size, 3, none⟩ = some (.int .i64 slots) := lb_at g0 3 rfl; have k4 : w2.cell? ⟨w.heap.size, 4, none⟩ = some (.int .i64 end') := lb_at g0 4 rfl))
          all_goals
            go_wp2_with fail
            go_ret
            refine ⟨ret_bool' ?_, (HBX.out.drew).trans (hb2.mono (show w.heap.size ≤ wr.heap.size by omega))⟩
            rw [HRT.out, fit4_le 4 (k + 1) (by omega) (by rw [fit4, HQ.out]; simp)]; rfl
      · have hke : k = 4 := by omega
        subst hke
        have f4 := lb_at h0 4 rfl
        have e0' := lb_at h1 0 rfl
        simp only [List.getElem_toArray, List.getElem_cons_zero, List.getElem_cons_succ] at f4 e0'
        have HRO : Hid (R = (ov || decide (pc + 1 < end'))) := by show _ = _; rw [HRT.out, hfk]; rfl
        clear h0 h1 h2 h3 hfk
        cases ov with
        | true =>
          go_wp2_with (go_at_call 34; refine (CL.out _).mono ?_; rintro _ w2 ⟨rfl, hw2⟩; have hw3 := hw2.symm; subst hw3)
          go_ret
          exact ⟨by rw [HRO.out]; rfl, HBX.out⟩
        | false =>
          go_wp2_with (go_at_call 34; refine (CL.out _).mono ?_; rintro _ w2 ⟨rfl, hw2⟩; have hw3 := hw2.symm; subst hw3)
          all_goals
            go_ret
            refine ⟨ret_bool' ?_, HBX.out⟩
            rw [HRO.out, Bool.eq_iff_iff]
            simp
            omega
  · have HRF : Hid (R = false) := by
      show _ = _
      rw [← HR.out]
      unfold wlB
      by_cases h1 : 1 ≤ l0 s pc
      · rw [decide_eq_false (show ¬ l0 s pc < 34 by omega)]; simp
      · rw [decide_eq_false h1]; rfl
    have CR : Hid (∀ W : World, Calls Tryd.prog 32 #[.int .i64 (l0 s pc)] W fun e w' => e = .returned (.tuple #[.slice none 0 0, .bool false]) ∧ w' = W) := fun W => rules_no (by omega)
    clear hop hq0 hq1 hq2 hq3
    generalize (l0 s pc : Int) = q0 at *
    generalize (l1 s pc : Int) = q1 at *
    generalize (l2 s pc : Int) = q2 at *
    generalize (l3 s pc : Int) = q3 at *
    generalize (l4 s pc : Int) = q4 at *
    generalize hL s = L at *
    go_enter Tryd.func18, Tryd.ntmps18
    go_wp2_with (go_at_call 32; refine (CR.out _).mono ?_; rintro _ w1 ⟨rfl, hw1⟩; have hw2 := hw1.symm; subst hw2)
    go_ret
    exact ⟨by rw [HRF.out]; rfl, (HBA.out _).alloc (by rw [World.size_alloc]; omega) _⟩
end Go.Proofs.YtmkdoejpgkgpbaaDoor
