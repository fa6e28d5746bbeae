import Derived.Test.YtgfhddhkillchaaGreatDoorEvR
set_option linter.unusedVariables false
set_option linter.unusedSimpArgs false
namespace Go.Proofs.YtgfhddhkillchaaGreatDoor
namespace Ev
noncomputable def fnOk (N : Nat) (fn : Func) : Bool := match fn.body with
  | some c => codeOk N fn.ntmps c && (fn.results.toList.all (resOk fn.ntmps) && !(fn.name == "runtime.NumGoroutine"))
  | none => true
/-- the program's own look -/
structure PrOk (P : Program) (N : Nat) : Prop where
  fns : ∀ (f : Nat) (fn : Func), P.funcs[f]? = some fn → fnOk N fn = true
  mixed : P.follows .mixedOrders = true
section
variable {T : Tab} {env : Nat → Value} {ρ ρ' : Rh} {w w' : World} {tm tm' : Tm} {call : Cal} {s s' : St} {kp n : Nat} {N : Gs} {a : Act} {h h' : Hp}
def HkOk (T : Tab) (env : Nat → Value) (N : Gs) : Prop := ∀ f args v (ρ : Rh) w (us : List Value) h n, T.hk f args = some v → Gl N ρ h w → All2 (VA env ρ) args us → HR env ρ h w → FnOk T.P f ∧ Calls T.P f us.toArray w fun e w' => ∃ v', e = .returned v' ∧ VA env ρ v v' ∧ Post env ρ h n w ρ h n w'
theorem setAll_at : ∀ (l : List AV) (i : Nat) (t : Vs), i + l.length ≤ 512 → ∀ k, k < 512 → get3 k (setAll l i t id) = if i ≤ k ∧ k < i + l.length then l.getD (k - i) .u else get3 k t
  | [], i, t, _, k, _ => by rw [if_neg (by simp only [List.length_nil]; omega)]; rfl
  | v :: l, i, t, hi, k, hk => by
    rw [List.length_cons] at hi ⊢
    have e : setAll (v :: l) i t id = setAll l (i + 1) (set3 i v t id) id := by
      show (set3 i v t fun t => setAll l (i + 1) t id) = _
      rw [l3.1]
    rw [e, setAll_at l (i + 1) _ (by omega) k hk, l3.2 k i v t hk (by omega)]
    by_cases h1 : i + 1 ≤ k ∧ k < i + 1 + l.length
    · rw [if_pos h1, if_pos (by omega), show k - i = (k - (i + 1)) + 1 by omega, List.getD_cons_succ]
    · rw [if_neg h1]
      by_cases h2 : k = i
      · rw [if_pos h2, if_pos (by omega), h2, Nat.sub_self, List.getD_cons_zero]
      · rw [if_neg h2, if_neg (by omega)]
theorem keeps_at {kp m : Nat} (h : keeps kp m = true) {k : Nat} (hk : k < m) : kept kp k ≠ 0 := by
  have h : kp &&& (1 <<< m).pred = (1 <<< m).pred := Nat.eq_of_beq_eq_true h
  rw [Nat.one_shiftLeft, Nat.pred_eq_sub_one] at h
  intro e
  have hb := (kept_bit kp k).1 e
  have := congrArg (fun q => q.testBit k) h
  simp only [Nat.testBit_and, hb, Bool.false_and, Nat.testBit_two_pow_sub_one] at this
  rw [decide_eq_true hk] at this
  cases this
theorem ER.start {args : List AV} {us : List Value} (ha : All2 (VA env ρ) args us) (hk : keeps kp args.length = true) (h1 : args.length ≤ n) (h2 : n ≤ 512) : ER env ρ kp n ⟨.nl, setAll args 0 (full3 .u) id⟩ { tmps := us.toArray ++ Array.replicate (n - us.toArray.size) undef, defers := [] } := by
  have hl := ha.len
  have key : ∀ k, k < n → VA env ρ (get3 k (setAll args 0 (full3 .u) id)) ((us.toArray ++ Array.replicate (n - us.toArray.size) undef).getD k undef) := fun k hk' => by
    rw [setAll_at args 0 _ (by omega) k (by omega)]
    by_cases e : 0 ≤ k ∧ k < 0 + args.length
    · rw [if_pos e, Nat.sub_zero]
      have hka : k < args.length := by omega
      obtain ⟨u, e1, e2⟩ := ha.at (List.getElem?_eq_getElem hka)
      rw [List.getD_eq_getElem?_getD, List.getElem?_eq_getElem hka, Array.getD_eq_getD_getElem?, Array.getElem?_append_left (by simp; omega)]
      simp only [List.getElem?_toArray, e1]
      exact e2
    · rw [if_neg e, full3_get]; trivial
  refine ⟨by simp; omega, h2, key, key, fun k hk' hk0 => ?_, rfl⟩
  show get3 k (setAll args 0 (full3 .u) id) = .u
  rw [setAll_at args 0 _ (by omega) k hk', if_neg, full3_get]
  intro e
  exact keeps_at hk (k := k) (by omega) hk0
theorem fn_sim (hk : Ok T env) (hP : PrOk T.P N.n) (hH : HkOk T env N) : ∀ m, SimC T env N (evF T m)
  | 0 => fun f args s v s' ρ w us h => no_ok h
  | m + 1 => fun f args s v s' ρ w us h hsx hG ha hr hf => by
    have h : @Option.rec _ (fun _ => M AV) (optm (Nat.add 10000 f) (T.f f) (bodyF T (evF T m) args (T.kp f))) ret (T.hk f args) s = .ok v s' := h
    cases hh : T.hk f args with
    | some x =>
      rw [hh] at h
      cases h
      obtain ⟨h1, h2⟩ := hH f args _ ρ w us s.h s.nx hh hG ha hr
      exact ⟨h1, h2.mono fun e w' ⟨v', e1, e2, e3⟩ => ⟨v', ρ, e1, e2, e3⟩⟩
    | none =>
      rw [hh] at h
      obtain ⟨fn, hfn, h⟩ := optm_ok h
      have hfn : T.P.funcs[f]? = some fn := hfn
      rw [bodyF_eq] at h
      obtain ⟨c, hc, h⟩ := optm_ok h
      obtain ⟨hkp, h⟩ := iff_no h
      obtain ⟨hal, h⟩ := iff_no h
      obtain ⟨hnt, h⟩ := iff_no h
      obtain ⟨r, s1, h1, h2⟩ := bnd_ok h
      have hok := hP.fns f fn hfn
      unfold fnOk at hok
      rw [hc] at hok
      simp only [Bool.and_eq_true] at hok
      obtain ⟨hok1, hok2, hok3⟩ := hok
      rw [List.all_eq_true] at hok2
      refine ⟨⟨fn, hfn, by rw [hc]; rfl, by simpa using hok3⟩, ?_⟩
      have hloc := loc_fn (T := T) m
      obtain ⟨_, _, n1, m1, _⟩ := loc_code (T := T) hloc (T.kp f) c _ s r s1 h1 hsx
      have hes : s1.nx = s'.nx ∧ (exE r = .normal ∨ exE r = .ret) ∧ results fn.results.toList T (exT r) s1 = .ok v s' := by
        have hn : ∀ {tm : Tm}, results fn.results.toList T tm s1 = .ok v s' → s1.nx = s'.nx := fun {tm} hq => by
          obtain ⟨_, _, q1, q2, _⟩ := loc_results (T := T) fn.results.toList tm s1 v s' hq m1
          have : ∀ {r : ResultVar} {s s' : St} {v : AV}, resV r T tm s = .ok v s' → s'.nx = s.nx := by
            intro r s s' v hr'
            cases r with
            | tmp t => cases hr'; rfl
            | cell ad t =>
              have hr' : oLoad t (.tmp ad) T (fun _ _ => no 93) tm s = .ok v s' := hr'
              obtain ⟨_, hr'⟩ := brec_no hr'
              obtain ⟨b, off, _, hr'⟩ := atP_ok hr'
              cases hA : agT T t with
              | true =>
                rw [hA] at hr'
                have hr' : loadA (szT T t) off b s = .ok v s' := hr'
                unfold loadA at hr'
                rcases nrec_ok hr' with ⟨_, hr'⟩ | ⟨_, _, hr'⟩
                · cases hr'; rfl
                · obtain ⟨s1, e1, e2, hr'⟩ := look_same hr'
                  obtain ⟨_, hr'⟩ := iff_no hr'
                  cases hr'; exact e2
              | false =>
                rw [hA] at hr'
                have hr' : loadC off b s = .ok v s' := hr'
                obtain ⟨s1, e1, e2, hr'⟩ := look_same hr'
                obtain ⟨_, hr'⟩ := brec_on hr'
                cases hr'; exact e2
          have all : ∀ {rs : List ResultVar} {l : List TC} {s s' : St}, resVs T tm rs s = .ok l s' → s'.nx = s.nx := by
            intro rs
            induction rs with
            | nil => intro l s s' h; cases h; rfl
            | cons r rs ih =>
              intro l s s' h
              obtain ⟨v, s1, p1, p2⟩ := bnd_ok h
              obtain ⟨c, _, p2⟩ := optm_ok p2
              obtain ⟨l', s2, p3, p4⟩ := bnd_ok p2
              cases p4
              rw [ih p3, this p1]
          cases e : fn.results.toList with
          | nil =>
            rw [e] at hq
            obtain ⟨l, s2, p1, p2⟩ := bnd_ok (m := resVs T tm []) (f := fun l => ret (AV.tp l)) hq
            cases p2
            exact (all p1).symm
          | cons r l =>
            cases l with
            | nil => rw [e] at hq; exact (this hq).symm
            | cons r2 l =>
              rw [e] at hq
              obtain ⟨l, s2, p1, p2⟩ := bnd_ok (m := resVs T tm (r :: r2 :: l)) (f := fun l => ret (AV.tp l)) hq
              cases p2
              exact (all p1).symm
        cases r with
        | nm tm1 => exact ⟨hn h2, .inl rfl, h2⟩
        | ex i tm1 => exact no_ok h2
        | rt tm1 => exact ⟨hn h2, .inr rfl, h2⟩
      obtain ⟨hnx, hexit, hres⟩ := hes
      refine calls_of_wp hfn hc ?_
      refine code_sim (N := N) (n := fn.ntmps) (kp := T.kp f) hk hP.mixed (fn_sim hk hP hH m) hloc c hok1 _ s _ w ρ r s1 _ h1 hsx (ER.start ha hkp (ble_t hal) (ble_t hnt)) hG hr (by rw [hnx]; exact hf) fun a' ρ' w' hE hp => ?_
      obtain ⟨v', q1, q2, q3, q4⟩ := results_sim (w := w') hres hok2 hE hp.hr
      have hp' : Post env ρ s.h s.nx w ρ' s'.h s'.nx w' := by rw [q3, q4]; exact hp
      rcases hexit with e | e
      · rw [e]; exact ⟨hE.nod, v', q1, v', ρ', rfl, q2, hp'⟩
      · rw [e]; exact ⟨hE.nod, v', q1, v', ρ', rfl, q2, hp'⟩
end
end Ev
end Go.Proofs.YtgfhddhkillchaaGreatDoor
