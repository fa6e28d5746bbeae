import Derived.Test.YtgfhddhkillchaaGreatDoorEvN
set_option linter.unusedVariables false
set_option linter.unusedSimpArgs false
namespace Go.Proofs.YtgfhddhkillchaaGreatDoor
namespace Ev
/-! what has been written, when only some have written -/
section
variable {ι β : Type} (S : Nat → ι → β) (W : Nat → ι → Prop) [∀ j x, Decidable (W j x)]
def cont (D : Nat → Bool) (x : ι) : Nat → β
  | 0 => S 0 x
  | j + 1 => if D j = true ∧ W j x then S (j + 1) x else cont D x j
variable {S W}
theorem cont_all {D : Nat → Bool} {x : ι} {n : Nat} (hD : ∀ j, j < n → D j = true) (hs : ∀ j, j < n → ¬ W j x → S (j + 1) x = S j x) : cont S W D x n = S n x := by
  induction n with
  | zero => rfl
  | succ n ih =>
    unfold cont
    split
    · rfl
    · rename_i h
      rw [ih (fun j hj => hD j (by omega)) (fun j hj => hs j (by omega)), hs n (by omega) (fun hw => h ⟨hD n (by omega), hw⟩)]
theorem cont_before {D : Nat → Bool} {x : ι} {n k : Nat} (hk : k ≤ n) (h1 : ∀ j, k ≤ j → j < n → D j = true → ¬ W j x) (h2 : ∀ j, j < k → W j x → D j = true) (hs : ∀ j, j < n → ¬ W j x → S (j + 1) x = S j x) : cont S W D x n = S k x := by
  have lo : ∀ m, m ≤ k → cont S W D x m = S m x := by
    intro m
    induction m with
    | zero => intro _; rfl
    | succ m ih =>
      intro hm
      unfold cont
      split
      · rfl
      · rename_i h
        rw [ih (by omega), hs m (by omega) (fun hw => h ⟨h2 m (by omega) hw, hw⟩)]
  have hi : ∀ m, k + m ≤ n → cont S W D x (k + m) = S k x := by
    intro m
    induction m with
    | zero => intro _; exact lo k (Nat.le_refl _)
    | succ m ih =>
      intro hm
      show (if D (k + m) = true ∧ W (k + m) x then S (k + m + 1) x else cont S W D x (k + m)) = _
      rw [if_neg (fun h => h1 (k + m) (by omega) (by omega) h.1 h.2), ih (by omega)]
  have := hi (n - k) (by omega)
  rwa [show k + (n - k) = n by omega] at this
theorem cont_more {D D' : Nat → Bool} {x : ι} {n k : Nat} (hk : k < n) (hD : ∀ j, D' j = (D j || decide (j = k))) (h1 : W k x → ∀ j, k < j → j < n → D j = true → ¬ W j x) : cont S W D' x n = if W k x then S (k + 1) x else cont S W D x n := by
  have step : ∀ m, m ≤ n → cont S W D' x m = if W k x ∧ k < m then S (k + 1) x else cont S W D x m := by
    intro m
    induction m with
    | zero => intro _; rw [if_neg (by omega)]; rfl
    | succ m ih =>
      intro hm
      have ih := ih (by omega)
      show (if D' m = true ∧ W m x then S (m + 1) x else cont S W D' x m) = if W k x ∧ k < m + 1 then S (k + 1) x else (if D m = true ∧ W m x then S (m + 1) x else cont S W D x m)
      rw [ih, hD m]
      by_cases e : m = k
      · subst e
        by_cases hw : W m x
        · rw [if_pos ⟨by simp, hw⟩, if_pos ⟨hw, by omega⟩]
        · rw [if_neg (fun h => hw h.2), if_neg (fun h => hw h.1), if_neg (fun h => hw h.1), if_neg (fun h => hw h.2)]
      · rw [decide_eq_false e, Bool.or_false]
        by_cases hw : W k x ∧ k < m
        · rw [if_neg (fun h => h1 hw.1 m hw.2 (by omega) h.1 h.2), if_pos hw, if_pos ⟨hw.1, by omega⟩]
        · have hw' : ¬ (W k x ∧ k < m + 1) := fun h => hw ⟨h.1, by have := h.2; omega⟩
          rw [if_neg hw, if_neg hw']
  rw [step n (Nat.le_refl _)]
  by_cases hw : W k x
  · rw [if_pos hw, if_pos ⟨hw, hk⟩]
  · rw [if_neg hw, if_neg (fun h => hw h.1)]
end
/-! what stands ahead -/
theorem ahead1_bits (bs : List Nat) {D : Nat → Prop} : ∀ (es : List Edge) (m : Nat), (∀ i, m.testBit i = true → D i) → (∀ e ∈ es, Region.binds .any e = true → D e.on ∧ ∀ x, bs[e.on]? = some x → ∀ i, x.testBit i = true → D i) → ∀ i, (ahead1 bs es m).testBit i = true → D i
  | [], m, hm, _, i, hi => hm i hi
  | e :: es, m, hm, he, i, hi => by
    refine ahead1_bits bs es _ (fun j hj => ?_) (fun e' he' => he e' (List.mem_cons_of_mem _ he')) i hi
    cases hb : Region.binds .any e with
    | false => rw [hb] at hj; exact hm j hj
    | true =>
      rw [hb] at hj
      have hj : (m ||| bit e.on ||| @Option.rec _ (fun _ => Nat) 0 (fun x => x) (nth bs e.on)).testBit j = true := hj
      rw [Nat.testBit_or, Nat.testBit_or, Bool.or_eq_true, Bool.or_eq_true] at hj
      obtain ⟨h1, h2⟩ := he e (List.mem_cons_self ..) hb
      rcases hj with (hj | hj) | hj
      · exact hm j hj
      · rw [bit_test] at hj; rw [of_decide_eq_true hj]; exact h1
      · rw [nth_eq] at hj
        cases hx : bs[e.on]? with
        | none => rw [hx] at hj; exact absurd hj (zb j)
        | some x => rw [hx] at hj; exact h2 x hx j hj
theorem aheads_at : ∀ (l : List Oper) (bs : List Nat), (aheads l bs).length = bs.length + l.length ∧ (∀ j, j < bs.length → (aheads l bs)[j]? = bs[j]?) ∧ ∀ j o, l[j]? = some o → (aheads l bs)[bs.length + j]? = some (ahead1 ((aheads l bs).take (bs.length + j)) o.after.toList 0)
  | [], bs => ⟨rfl, fun j _ => rfl, fun j o h => by cases h⟩
  | o :: l, bs => by
    obtain ⟨h1, h2, h3⟩ := aheads_at l (bs ++ [ahead1 bs o.after.toList 0])
    rw [List.length_append, List.length_singleton] at h1 h2 h3
    have e : aheads (o :: l) bs = aheads l (bs ++ [ahead1 bs o.after.toList 0]) := rfl
    rw [e]
    refine ⟨by rw [h1, List.length_cons]; omega, fun j hj => by rw [h2 j (by omega), List.getElem?_append_left hj], fun j o' hj => ?_⟩
    cases j with
    | zero =>
      cases hj
      have hb : (aheads l (bs ++ [ahead1 bs o.after.toList 0])).take bs.length = bs := by
        apply List.ext_getElem?
        intro i
        rw [List.getElem?_take]
        by_cases hi : i < bs.length
        · rw [if_pos hi, h2 i (by omega), List.getElem?_append_left hi]
        · rw [if_neg hi, List.getElem?_eq_none (by omega)]
      rw [Nat.add_zero, hb, h2 bs.length (by omega), List.getElem?_append_right (Nat.le_refl _), Nat.sub_self]
      rfl
    | succ j =>
      have := h3 j o' hj
      rwa [show bs.length + 1 + j = bs.length + (j + 1) by omega] at this
/-- what stands ahead has been listed -/
theorem aheads_in {l : List Oper} {D : Nat → Prop} (hD : ∀ j o, D j → l[j]? = some o → ∀ e ∈ o.after.toList, Region.binds .any e = true → D e.on) : ∀ (n j : Nat) (o : Oper) (x : Nat), j < n → l[j]? = some o → (∀ e ∈ o.after.toList, Region.binds .any e = true → D e.on) → (aheads l [])[j]? = some x → ∀ i, x.testBit i = true → D i := by
  obtain ⟨h1, _, h3⟩ := aheads_at l []
  intro n
  induction n with
  | zero => intro j o x hj; omega
  | succ n ih =>
    intro j o x hj ho he hx i hi
    have h := h3 j o ho
    rw [List.length_nil, Nat.zero_add] at h
    rw [hx] at h
    cases h
    refine ahead1_bits _ o.after.toList 0 (fun i hi => absurd hi (zb i)) (fun e hee hb => ⟨he e hee hb, fun y hy k hk => ?_⟩) i hi
    rw [List.getElem?_take] at hy
    split at hy
    · rename_i hlt
      have hlen : e.on < l.length := by
        have := (List.getElem?_eq_some_iff.1 hy).1
        rw [h1, List.length_nil, Nat.zero_add] at this
        exact this
      obtain ⟨oe, hoe⟩ : ∃ oe, l[e.on]? = some oe := ⟨_, List.getElem?_eq_getElem hlen⟩
      exact ih e.on oe y (by omega) hoe (hD e.on oe (he e hee hb) hoe) hy k hk
    · cases hy
/-! static looks at a region whose order is drawn -/
noncomputable def drawOk (ops : Array Oper) : Bool := (List.range ops.size).all fun j => match ops[j]? with
  | some oj => oj.after.toList.all (fun e => !Region.binds .any e || decide (e.on < j)) && (List.range j).all fun i => ((aheads ops.toList []).getD j 0).testBit i || (match ops[i]? with
    | some oi => oi.apart ops oj
    | none => true)
  | none => true
theorem drawOk_at {ops : Array Oper} (h : drawOk ops = true) {j : Nat} {oj : Oper} (hj : ops[j]? = some oj) : (∀ e ∈ oj.after.toList, Region.binds .any e = true → e.on < j) ∧ ∀ i oi, i < j → ops[i]? = some oi → ((aheads ops.toList []).getD j 0).testBit i = false → oi.apart ops oj = true := by
  unfold drawOk at h
  rw [List.all_eq_true] at h
  have hlt : j < ops.size := (Array.getElem?_eq_some_iff.1 hj).1
  have h := h j (List.mem_range.2 hlt)
  rw [hj] at h
  simp only [Bool.and_eq_true] at h
  obtain ⟨h1, h2⟩ := h
  rw [List.all_eq_true] at h1 h2
  refine ⟨fun e he hb => ?_, fun i oi hi hoi hb => ?_⟩
  · have := h1 e he
    rw [hb] at this
    simpa using this
  · have := h2 i (List.mem_range.2 hi)
    rw [hb, hoi] at this
    simpa using this
/-! the run in the text's order, told -/
structure Tr1 where
  tm : Tm
  h : Hp
  nx : Nat
section
variable {T : Tab} {env : Nat → Value} {tm tm' : Tm} {call : Cal} {s s' : St} {kp : Nat}
/-- steps one behind the other -/
structure Told (T : Tab) (call : Cal) (kp : Nat) (ops : List Oper) (bf : List Nat) (f : Nat → Tr1) (rd wr : Nat → Nat) (j0 j1 : Nat) : Prop where
  step : ∀ j, j0 ≤ j → j < j1 → ∃ o, ops[j]? = some o ∧ stepO o T call kp ops (f j).tm ⟨(f j).h, (f j).nx, 0, 0⟩ = .ok (f (j + 1)).tm ⟨(f (j + 1)).h, (f (j + 1)).nx, rd j, wr j⟩
def lgs (f : Nat → Tr1) (rd wr : Nat → Nat) : Nat → List Lg
  | 0 => []
  | j + 1 => ⟨j, rd j, wr j ||| news (f j).nx (f (j + 1)).nx⟩ :: lgs f rd wr j
theorem lgs_congr {f f' : Nat → Tr1} {rd rd' wr wr' : Nat → Nat} : ∀ {n : Nat}, (∀ i, i < n → rd i = rd' i ∧ wr i = wr' i) → (∀ i, i ≤ n → f i = f' i) → lgs f rd wr n = lgs f' rd' wr' n
  | 0, _, _ => rfl
  | n + 1, h, hf => by
    unfold lgs
    rw [lgs_congr (fun i hi => h i (by omega)) (fun i hi => hf i (by omega)), (h n (by omega)).1, (h n (by omega)).2, hf n (by omega), hf (n + 1) (by omega)]
theorem told {ops : List Oper} {bf0 : List Nat} : ∀ (l : List Oper) (j : Nat) (f : Nat → Tr1) (rd wr : Nat → Nat) (s : St), ops.drop j = l → j ≤ ops.length → (f j).h = s.h → (f j).nx = s.nx → stepsD T call kp ops l (bf0.drop j) j (lgs f rd wr j) (f j).tm s = .ok tm' s' →
    ∃ (f' : Nat → Tr1) (rd' wr' : Nat → Nat), (∀ i, i ≤ j → f' i = f i) ∧ (∀ i, i < j → rd' i = rd i ∧ wr' i = wr i) ∧ Told T call kp ops bf0 f' rd' wr' j ops.length ∧ (∀ i, j ≤ i → i < ops.length → apart (bf0.getD i 0) (rd' i) (wr' i) (lgs f' rd' wr' i) = true) ∧ f' ops.length = ⟨tm', s'.h, s'.nx⟩
  | [], j, f, rd, wr, s, hd, hj, h1, h2, h => by
    have hl : ops.length = j := by
      have := congrArg List.length hd
      rw [List.length_drop, List.length_nil] at this
      omega
    cases h
    refine ⟨f, rd, wr, fun _ _ => rfl, fun _ _ => ⟨rfl, rfl⟩, ⟨fun i hi hi' => by omega⟩, fun i hi hi' => by omega, ?_⟩
    rw [hl, ← h1, ← h2]
  | o :: l, j, f, rd, wr, s, hd, hj, h1, h2, h => by
    have hlt : j < ops.length := by
      have := congrArg List.length hd
      rw [List.length_drop, List.length_cons] at this
      omega
    have hoj : ops[j]? = some o := by
      have := congrArg (fun l : List Oper => l[0]?) hd
      simp only [List.getElem?_drop, Nat.add_zero, List.getElem?_cons_zero] at this
      exact this
    obtain ⟨tm1, s1, e1, e2, e3⟩ := stepD_ok h
    have hbf : headOr (bf0.drop j) 0 = bf0.getD j 0 := by rw [← drp_eq]; exact at_drop bf0 0 j
    rw [hbf] at e2
    have htl : (bf0.drop j).tail = bf0.drop (j + 1) := by rw [List.tail_drop]
    rw [htl] at e3
    let f1 : Nat → Tr1 := fun i => if i = j + 1 then ⟨tm1, s1.h, s1.nx⟩ else f i
    let rd1 : Nat → Nat := fun i => if i = j then s1.rd else rd i
    let wr1 : Nat → Nat := fun i => if i = j then s1.wr else wr i
    have hf1 : ∀ i, i ≤ j → f1 i = f i := fun i hi => if_neg (by omega)
    have hf1' : f1 (j + 1) = ⟨tm1, s1.h, s1.nx⟩ := if_pos rfl
    have hr1 : ∀ i, i < j → rd1 i = rd i ∧ wr1 i = wr i := fun i hi => ⟨if_neg (by omega), if_neg (by omega)⟩
    have hr1' : rd1 j = s1.rd ∧ wr1 j = s1.wr := ⟨if_pos rfl, if_pos rfl⟩
    have hlg : lgs f1 rd1 wr1 (j + 1) = ⟨j, s1.rd, s1.wr ||| news s.nx s1.nx⟩ :: lgs f rd wr j := by
      show (⟨j, rd1 j, wr1 j ||| news (f1 j).nx (f1 (j + 1)).nx⟩ :: lgs f1 rd1 wr1 j : List Lg) = _
      rw [hr1'.1, hr1'.2, hf1', hf1 j (Nat.le_refl _), h2, lgs_congr hr1 hf1]
    obtain ⟨f', rd', wr', q1, q2, q3, q4, q5⟩ := told l (j + 1) f1 rd1 wr1 ⟨s1.h, s1.nx, s.rd ||| s1.rd, s.wr ||| s1.wr⟩ (by rw [← List.tail_drop, hd]; rfl) hlt (by rw [hf1']) (by rw [hf1']) (by rw [hlg, hf1']; exact e3)
    refine ⟨f', rd', wr', fun i hi => by rw [q1 i (by omega), hf1 i hi], fun i hi => ⟨((q2 i (by omega)).1).trans (hr1 i hi).1, ((q2 i (by omega)).2).trans (hr1 i hi).2⟩, ⟨fun i hi hi' => ?_⟩, fun i hi hi' => ?_, q5⟩
    · by_cases e : i = j
      · subst e
        refine ⟨o, hoj, ?_⟩
        rw [q1 i (by omega), q1 (i + 1) (by omega), hf1', hf1 i (Nat.le_refl _), (q2 i (by omega)).1, (q2 i (by omega)).2, hr1'.1, hr1'.2, h1, h2]
        exact e1
      · exact q3.step i (by omega) hi'
    · by_cases e : i = j
      · subst e
        rw [(q2 i (by omega)).1, (q2 i (by omega)).2, hr1'.1, hr1'.2, lgs_congr (fun k hk => ⟨((q2 k (by omega)).1).trans (hr1 k hk).1, ((q2 k (by omega)).2).trans (hr1 k hk).2⟩) (fun k hk => by rw [q1 k (by omega), hf1 k hk])]
        exact e2
      · exact q4 i (by omega) hi'
end
end Ev
end Go.Proofs.YtgfhddhkillchaaGreatDoor
