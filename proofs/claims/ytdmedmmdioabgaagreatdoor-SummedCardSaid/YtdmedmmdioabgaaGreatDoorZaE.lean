import Derived.Test.YtdmedmmdioabgaaGreatDoorZaD
set_option linter.unusedVariables false
set_option linter.unusedSimpArgs false
namespace Go.Proofs.YtdmedmmdioabgaaGreatDoor
namespace Ev
noncomputable def fnOk (N : Nat) (fn : Func) : Bool := match fn.body with
  | some c => codeOk N fn.ntmps c && (fn.results.toList.all (resOk fn.ntmps) && !(fn.name == "runtime.NumGoroutine"))
  | none => true
/-- the program's own look -/
structure PrOk (P : Program) (N : Nat) : Prop where
  fns : ∀ (f : Nat) (fn : Func), P.funcs[f]? = some fn → fnOk N fn = true
  mixed : P.follows .mixedOrders = true
section
variable {T : Tab} {env : Nat → Value} {ρ ρ' : Rh} {w w' : World} {tm tm' : Tm} {call : Cal} {s s' : St} {kp n : Nat} {N : Gs} {a : Act} {h h' : Hp}
structure HkOk (T : Tab) (env : Nat → Value) (N : Gs) : Prop where
  loc : HkLoc T
  sim : ∀ f args m, T.hk f args = some m → ∀ s v s' (ρ : Rh) w (us : List Value), m s = .ok v s' → s.nx ≤ 32768 → Gl N ρ s.h w → All2 (VA env ρ) args us → HR env ρ s.h w → Free ρ s.nx s'.nx →
    FnOk T.P f ∧ Calls T.P f us.toArray w fun e w' => ∃ v' ρ', e = .returned v' ∧ VA env ρ' v v' ∧ Post env ρ s.h s.nx w ρ' s'.h s'.nx w'
theorem setAll_at : ∀ (l : List AV) (i : Nat) (t : Vs), i + l.length ≤ 512 → ∀ k, k < 512 → get3 k (setAll l i t id) = if i ≤ k ∧ k < i + l.length then l.getD (k - i) .u else get3 k t
  | [], i, t, _, k, _ => by rw [if_neg (by simp only [List.length_nil]; omega)]; rfl
  | v :: l, i, t, hi, k, hk => by
    rw [List.length_cons] at hi ⊢
    have e : setAll (v :: l) i t id = setAll l (i + 1) (set3 i v t id) id := by
      show (set3 i v t fun t => setAll l (i + 1) t id) = _
      rw [l3.1]
    rw [e, setAll_at l (i + 1) _ (by omega) k hk, l3.2 k i v t hk (by omega)]
    by_cases h1 : i + 1 ≤ k ∧ k < i + 1 + l.length
    · rw [if_pos h1, if_pos (by omega), show k - i = (k - (i + 1)) + 1 by omega, List.getD_cons_succ]
    · rw [if_neg h1]
      by_cases h2 : k = i
      · rw [if_pos h2, if_pos (by omega), h2, Nat.sub_self, List.getD_cons_zero]
      · rw [if_neg h2, if_neg (by omega)]
theorem keeps_at {kp m : Nat} (h : keeps kp m = true) {k : Nat} (hk : k < m) : kept kp k ≠ 0 := by
  have h : kp &&& (1 <<< m).pred = (1 <<< m).pred := Nat.eq_of_beq_eq_true h
  rw [Nat.one_shiftLeft, Nat.pred_eq_sub_one] at h
  intro e
  have hb := (kept_bit kp k).1 e
  have := congrArg (fun q => q.testBit k) h
  simp only [Nat.testBit_and, hb, Bool.false_and, Nat.testBit_two_pow_sub_one] at this
  rw [decide_eq_true hk] at this
  cases this
theorem ER.start {args : List AV} {us : List Value} (ha : All2 (VA env ρ) args us) (hk : keeps kp args.length = true) (h1 : args.length ≤ n) (h2 : n ≤ 512) : ER env ρ kp n ⟨.nl, setAll args 0 (full3 .u) id⟩ { tmps := us.toArray ++ Array.replicate (n - us.toArray.size) undef, defers := [] } := by
  have hl := ha.len
  have key : ∀ k, k < n → VA env ρ (get3 k (setAll args 0 (full3 .u) id)) ((us.toArray ++ Array.replicate (n - us.toArray.size) undef).getD k undef) := fun k hk' => by
    rw [setAll_at args 0 _ (by omega) k (by omega)]
    by_cases e : 0 ≤ k ∧ k < 0 + args.length
    · rw [if_pos e, Nat.sub_zero]
      have hka : k < args.length := by omega
      obtain ⟨u, e1, e2⟩ := ha.at (List.getElem?_eq_getElem hka)
      rw [List.getD_eq_getElem?_getD, List.getElem?_eq_getElem hka, Array.getD_eq_getD_getElem?, Array.getElem?_append_left (by simp; omega)]
      simp only [List.getElem?_toArray, e1]
      exact e2
    · rw [if_neg e, full3_get]; trivial
  refine ⟨by simp; omega, h2, key, key, fun k hk' hk0 => ?_, rfl⟩
  show get3 k (setAll args 0 (full3 .u) id) = .u
  rw [setAll_at args 0 _ (by omega) k hk', if_neg, full3_get]
  intro e
  exact keeps_at hk (k := k) (by omega) hk0
theorem body_sim (hk : Ok T env) (hP : PrOk T.P N.n) (hC : SimC T env N call) (hloc : ∀ f args, Loc (call f args)) {f : Nat} {fn : Func} (hfn : T.P.funcs[f]? = some fn) {args : List AV} {v : AV} {us : List Value} (h : bodyF T call args (T.kp f) fn s = .ok v s') (hsx : s.nx ≤ 32768) (hG : Gl N ρ s.h w) (ha : All2 (VA env ρ) args us) (hr : HR env ρ s.h w) (hf : Free ρ s.nx s'.nx) :
    FnOk T.P f ∧ Calls T.P f us.toArray w fun e w' => ∃ v' ρ', e = .returned v' ∧ VA env ρ' v v' ∧ Post env ρ s.h s.nx w ρ' s'.h s'.nx w' := by
  rw [bodyF_eq] at h
  obtain ⟨c, hc, h⟩ := optm_ok h
  obtain ⟨hkp, h⟩ := iff_no h
  obtain ⟨hal, h⟩ := iff_no h
  obtain ⟨hnt, h⟩ := iff_no h
  obtain ⟨r, s1, h1, h2⟩ := bnd_ok h
  have hok := hP.fns f fn hfn
  unfold fnOk at hok
  rw [hc] at hok
  simp only [Bool.and_eq_true] at hok
  obtain ⟨hok1, hok2, hok3⟩ := hok
  rw [List.all_eq_true] at hok2
  refine ⟨⟨fn, hfn, by rw [hc]; rfl, by simpa using hok3⟩, ?_⟩
  obtain ⟨_, _, n1, m1, _⟩ := loc_code (T := T) hloc (T.kp f) c _ s r s1 h1 hsx
  have hes : s1.nx = s'.nx ∧ (exE r = .normal ∨ exE r = .ret) ∧ results fn.results.toList T (exT r) s1 = .ok v s' := by
    have hn : ∀ {tm : Tm}, results fn.results.toList T tm s1 = .ok v s' → s1.nx = s'.nx := fun {tm} hq => by
      obtain ⟨_, _, q1, q2, _⟩ := loc_results (T := T) fn.results.toList tm s1 v s' hq m1
      have : ∀ {r : ResultVar} {s s' : St} {v : AV}, resV r T tm s = .ok v s' → s'.nx = s.nx := by
        intro r s s' v hr'
        cases r with
        | tmp t => cases hr'; rfl
        | cell ad t =>
          have hr' : oLoad t (.tmp ad) T (fun _ _ => no 93) tm s = .ok v s' := hr'
          obtain ⟨_, hr'⟩ := brec_no hr'
          obtain ⟨b, off, _, hr'⟩ := atP_ok hr'
          cases hA : agT T t with
          | true =>
            rw [hA] at hr'
            have hr' : loadA (szT T t) off b s = .ok v s' := hr'
            unfold loadA at hr'
            rcases nrec_ok hr' with ⟨_, hr'⟩ | ⟨_, _, hr'⟩
            · cases hr'; rfl
            · obtain ⟨s1, e1, e2, hr'⟩ := look_same hr'
              obtain ⟨_, hr'⟩ := iff_no hr'
              cases hr'; exact e2
          | false =>
            rw [hA] at hr'
            have hr' : loadC off b s = .ok v s' := hr'
            obtain ⟨s1, e1, e2, hr'⟩ := look_same hr'
            obtain ⟨_, hr'⟩ := brec_on hr'
            cases hr'; exact e2
      have all : ∀ {rs : List ResultVar} {l : List TC} {s s' : St}, resVs T tm rs s = .ok l s' → s'.nx = s.nx := by
        intro rs
        induction rs with
        | nil => intro l s s' h; cases h; rfl
        | cons r rs ih =>
          intro l s s' h
          obtain ⟨v, s1, p1, p2⟩ := bnd_ok h
          obtain ⟨c, _, p2⟩ := optm_ok p2
          obtain ⟨l', s2, p3, p4⟩ := bnd_ok p2
          cases p4
          rw [ih p3, this p1]
      cases e : fn.results.toList with
      | nil =>
        rw [e] at hq
        obtain ⟨l, s2, p1, p2⟩ := bnd_ok (m := resVs T tm []) (f := fun l => ret (AV.tp l)) hq
        cases p2
        exact (all p1).symm
      | cons r l =>
        cases l with
        | nil => rw [e] at hq; exact (this hq).symm
        | cons r2 l =>
          rw [e] at hq
          obtain ⟨l, s2, p1, p2⟩ := bnd_ok (m := resVs T tm (r :: r2 :: l)) (f := fun l => ret (AV.tp l)) hq
          cases p2
          exact (all p1).symm
    cases r with
    | nm tm1 => exact ⟨hn h2, .inl rfl, h2⟩
    | ex i tm1 => exact no_ok h2
    | rt tm1 => exact ⟨hn h2, .inr rfl, h2⟩
  obtain ⟨hnx, hexit, hres⟩ := hes
  refine calls_of_wp hfn hc ?_
  refine code_sim (N := N) (n := fn.ntmps) (kp := T.kp f) hk hP.mixed hC hloc c hok1 _ s _ w ρ r s1 _ h1 hsx (ER.start ha hkp (ble_t hal) (ble_t hnt)) hG hr (by rw [hnx]; exact hf) fun a' ρ' w' hE hp => ?_
  obtain ⟨v', q1, q2, q3, q4⟩ := results_sim (w := w') hres hok2 hE hp.hr
  have hp' : Post env ρ s.h s.nx w ρ' s'.h s'.nx w' := by rw [q3, q4]; exact hp
  rcases hexit with e | e
  · rw [e]; exact ⟨hE.nod, v', q1, v', ρ', rfl, q2, hp'⟩
  · rw [e]; exact ⟨hE.nod, v', q1, v', ρ', rfl, q2, hp'⟩
theorem fn_sim (hk : Ok T env) (hP : PrOk T.P N.n) (hH : HkOk T env N) : ∀ m, SimC T env N (evF T m)
  | 0 => fun f args s v s' ρ w us h => no_ok h
  | m + 1 => fun f args s v s' ρ w us h hsx hG ha hr hf => by
    have h : @Option.rec _ (fun _ => M AV) (optm (Nat.add 10000 f) (T.f f) (bodyF T (evF T m) args (T.kp f))) (fun m => m) (T.hk f args) s = .ok v s' := h
    cases hh : T.hk f args with
    | some x =>
      rw [hh] at h
      exact hH.sim f args x hh s v s' ρ w us h hsx hG ha hr hf
    | none =>
      rw [hh] at h
      obtain ⟨fn, hfn, h⟩ := optm_ok h
      have hfn : T.P.funcs[f]? = some fn := hfn
      exact body_sim hk hP (fn_sim hk hP hH m) (loc_fn (T := T) hH.loc m) hfn h hsx hG ha hr hf
end
end Ev
end Go.Proofs.YtdmedmmdioabgaaGreatDoor
set_option linter.unusedVariables false
set_option linter.unusedSimpArgs false
namespace Go.Proofs.YtdmedmmdioabgaaGreatDoor
namespace Ev
open Go.RowKit
/-! pools: how they grow -/
section
variable {T : Tab} {env : Nat → Value} {ρ : Rh} {w : World} {h : Hp} {i : Nat} {c : Sc} {vc : Value}
theorem dd_len : ∀ i, (ddI env i).length ≤ i
  | 0 => Nat.le_refl _
  | i + 1 => by
    have := dd_len i
    unfold ddI
    split
    · omega
    · rw [List.length_append]; simp; omega
theorem dd_new (hn : pI env i ∉ ddI env i) : ddI env (i + 1) = ddI env i ++ [pI env i] := by rw [ddI, if_neg hn]
theorem dd_old (hn : pI env i ∈ ddI env i) : ddI env (i + 1) = ddI env i := by rw [ddI, if_pos hn]
def iVs (l : List Int) : List Value := l.map fun z => .int .i64 z
theorem iVs_at {l : List Int} {j : Nat} {u : Value} (hu : (iVs l)[j]? = some u) : ∃ z, l[j]? = some z ∧ u = .int .i64 z := by
  unfold iVs at hu
  rw [List.getElem?_map] at hu
  cases hz : l[j]? with
  | none => rw [hz] at hu; cases hu
  | some z => rw [hz] at hu; cases hu; exact ⟨z, rfl, rfl⟩
theorem iVs_of {l : List Int} {j : Nat} {z : Int} (hz : l[j]? = some z) : (iVs l)[j]? = some (.int .i64 z) := by unfold iVs; rw [List.getElem?_map, hz]; rfl
/-- a pool's header -/
def PoolH (h : Hp) (c : Sc) (i : Nat) : Prop := (c = .sn ∧ i = 0) ∨ ∃ b, c = .ps b i ∧ 8 ≤ b ∧ 0 < (get5 b h).t.room ∧ plI (get5 b h).t = some i
noncomputable def killC (h : Hp) : Sc → Hp
  | .ps b _ => hset h b dead
  | _ => h
theorem pool_at (hr : HR env ρ h w) (hc : PoolH h c i) (hv : VS env ρ c vc) : ∃ base cap, vc = .slice base (ddI env i).length cap ∧ ∀ (j : Nat) (z : Int), (ddI env i)[j]? = some z → ∃ kc, base = some ⟨kc, 0, none⟩ ∧ kc < w.heap.size ∧ w.cell? ⟨kc, j, none⟩ = some (.int .i64 z) := by
  rcases hc with ⟨rfl, rfl⟩ | ⟨b, rfl, h8, hl, hp⟩
  · exact ⟨none, 0, hv, fun j z hz => by cases hz⟩
  · obtain ⟨k, z, cap, e, hvc, h1, h2⟩ := hv
    refine ⟨_, cap, hvc, fun j z hz => ?_⟩
    obtain ⟨k', arr, ty, lo, hi, e', g1, _, _, _, _, g6⟩ := (hr.blk b ⟨hr.dom b _ e, hl⟩).ex
    rw [e] at e'
    cases e'
    exact ⟨k, rfl, hr.lt ⟨hr.dom b _ e, hl⟩ e, by rw [cell_of g1]; exact g6 i hp j z hz⟩
theorem pool_old (hr : HR env ρ h w) {n0 : Nat} (hx : n0 < 32768) (hf : ρ n0 = none) (hc : PoolH h c i) (hv : VS env ρ c vc) (hm : pI env i ∈ ddI env i) :
    ∃ ρ', VS env ρ' (.ps n0 (i + 1)) vc ∧ Post env ρ h n0 w ρ' (hset (killC h c) n0 ⟨0, .pl (i + 1)⟩) (n0 + 1) w := by
  rcases hc with ⟨rfl, rfl⟩ | ⟨b, rfl, h8, hl, hp⟩
  · cases hm
  · obtain ⟨k, z, cap, e, hvc, h1, h2⟩ := hv
    have hlv : Live h b := ⟨hr.dom b _ e, hl⟩
    obtain ⟨k', arr, ty, lo, hi, e', g1, g2, _, _, _, g6⟩ := (hr.blk b hlv).ex
    have e'' := e'
    rw [e] at e'
    cases e'
    refine ⟨_, ⟨k, arr.size, cap, upR_new _ _ _, by rw [dd_old hm]; exact hvc, by rw [dd_old hm]; exact h1, h2⟩, Post.move hr hx hf h8 hlv (B := ⟨0, .pl (i + 1)⟩) (Nat.zero_lt_succ 7) e'' g1 (g2.resolve_left (by omega)) (fun _ _ => rfl) (Below.refl _ _) (Nat.zero_le _) (Nat.zero_le _) (fun j hj => absurd hj (Nat.not_lt_zero _)) ?_⟩
    intro i' hi' j n hn
    cases hi'
    rw [dd_old hm] at hn
    exact g6 i hp j n hn
theorem pool_new (hn : EnvOk env) (hr : HR env ρ h w) {n0 : Nat} (hx : n0 < 32768) (hf : ρ n0 = none) {ts tx ty : TypeId} (hk : isK T ts 1 = true) (hez : ezB T ts = true) (h1 : ezT T ts = 1) (hlim : (ddI env i).length + 1 ≤ limT T (elT T ts)) (hc : PoolH h c i) (hv : VS env ρ c vc) (hm : pI env i ∉ ddI env i) {vx : Value} (hs : Src T.P 1 tx vx 1 [.int .i64 (pI env i)] w) :
    ∃ b1 n1 c1 ρ' w1, (Builtin.append_ #[ts, tx] ty #[vc, vx]).run T.P w = .ok (.slice b1 n1 c1) w1 ∧ VS env ρ' (.ps n0 (i + 1)) (.slice b1 n1 c1) ∧ Post env ρ h n0 w ρ' (hset (killC h c) n0 ⟨0, .pl (i + 1)⟩) (n0 + 1) w1 := by
  have hl0 : All2 (VS env ρ) [.i .i64 (pI env i)] [Value.int .i64 (pI env i)] := .cons rfl .nil
  have key : ∀ {ρ' : Rh} {v' : Value}, VS env ρ' (.sl n0 0 ((ddI env i).length + 1) 1) v' → ∃ b1 n1 c1, v' = .slice b1 n1 c1 ∧ VS env ρ' (.ps n0 (i + 1)) (.slice b1 n1 c1) := fun ⟨k, z, cap, e, hv', q1, q2⟩ => by
    have hlen : (ddI env (i + 1)).length = (ddI env i).length + 1 := by rw [dd_new hm, List.length_append]; rfl
    exact ⟨_, _, _, hv', k, z, cap, e, by rw [hlen], by rw [hlen]; exact q1, by omega⟩
  have hpl : ∀ arr : Array Value, (∀ (j : Nat) (u : Value), (iVs (ddI env i) ++ [Value.int .i64 (pI env i)])[j]? = some u → arr[j]? = some u) → PlOk env (Cl.pl (i + 1)) arr := fun arr ha i' hi' j n hjn => by
    cases hi'
    rw [dd_new hm] at hjn
    refine ha j _ ?_
    have : iVs (ddI env i) ++ [Value.int .i64 (pI env i)] = iVs (ddI env i ++ [pI env i]) := by unfold iVs; rw [List.map_append]; rfl
    rw [this]
    exact iVs_of hjn
  have hil : (iVs (ddI env i)).length = (ddI env i).length := by unfold iVs; rw [List.length_map]
  have hol : ∀ {ρ : Rh}, All2 (VS env ρ) ((ddI env i).map fun z => Sc.i .i64 z) (iVs (ddI env i)) := fun {ρ} => by
    unfold iVs
    generalize ddI env i = l
    induction l with
    | nil => exact .nil
    | cons z l ih => exact .cons rfl ih
  rcases hc with ⟨rfl, rfl⟩ | ⟨b, rfl, h8, hl, hp⟩
  · have hv : vc = .slice none 0 0 := hv
    subst hv
    obtain ⟨v', ρ', w', q1, q2, q3⟩ := grow_new (T := T) (ty := ty) (base := none) (len := 0) (cap := 0) (n := 1) (sz := 1) (olds := []) (lo := []) (B := ⟨0, .pl 1⟩) hn hr hx hf hk h1.symm (fun w' _ => by simp [Builtin.firstCells]) (by simp) .nil hs hl0 (by omega) hlim (Nat.zero_lt_succ 7) (Nat.zero_le _) (Nat.zero_le _) (fun j x hj => absurd hj (Nat.not_lt_zero _)) (hpl)
    obtain ⟨b1, n1, c1, rfl, q4⟩ := key q2
    exact ⟨b1, n1, c1, ρ', w', q1, q4, q3⟩
  · obtain ⟨k, z, cap, e, hvc, p1, p2⟩ := hv
    subst hvc
    have hlv : Live h b := ⟨hr.dom b _ e, hl⟩
    by_cases hg : (ddI env i).length + 1 ≤ cap
    · obtain ⟨v', ρ', w', q1, q2, q3⟩ := grow_here (T := T) (ty := ty) (n := 1) (B := ⟨0, .pl (i + 1)⟩) hn hr hx hf hk hez h1.symm e h8 hlv (by omega) hs hl0 (by omega) hg (Nat.zero_lt_succ 7) (Nat.zero_le _) (fun j hj => absurd hj (Nat.not_lt_zero _)) (Nat.zero_le _) (fun j x hj => absurd hj (Nat.not_lt_zero _)) (fun arr ha hle => by
        refine hpl _ fun j u hu => ?_
        rw [Nat.mul_one] at hle ⊢
        rw [ovr_at _ _ _ _ hle]
        by_cases hin : (ddI env i).length ≤ j ∧ j < (ddI env i).length + [Value.int .i64 (pI env i)].length
        · rw [if_pos hin]
          rw [List.getElem?_append_right (by omega), hil] at hu
          exact hu
        · rw [if_neg hin]
          have hju := (List.getElem?_eq_some_iff.1 hu).1
          rw [List.length_append, hil] at hju
          rw [List.getElem?_append_left (by omega)] at hu
          obtain ⟨z, hz, rfl⟩ := iVs_at hu
          exact ha i hp j z hz)
      obtain ⟨b1, n1, c1, rfl, q4⟩ := key q2
      exact ⟨b1, n1, c1, ρ', w', q1, q4, q3⟩
    · have hkl := Post.kill hr n0 h8 hlv.1
      obtain ⟨k', arr, ty', lo, hi, e', g1, g2, _, _, _, g6⟩ := (hr.blk b hlv).ex
      rw [e] at e'
      cases e'
      have hcl : ∀ w' : World, w'.heap = w.heap → (Builtin.firstCells 1 (ddI env i).length (.slice (some ⟨k, 0, none⟩) (ddI env i).length cap)).run T.P w' = .ok (iVs (ddI env i)).toArray w' := fun w' hw => by
        refine run_firstCells_some w' _ _ _ _ _ _ (by rw [hil, Nat.mul_one]) fun j u hu => ?_
        obtain ⟨z, hz, rfl⟩ := iVs_at hu
        have ha : (⟨k, 0, none⟩ : Addr).add j = ⟨k, j, none⟩ := by
          unfold Addr.add
          split
          · rename_i h; rw [h]
          · simp
        rw [ha, cell_of (w := w') (by rw [hw]; exact g1)]
        exact g6 i hp j z hz
      obtain ⟨v', ρ', w', q1, q2, q3⟩ := grow_new (T := T) (ty := ty) (base := some ⟨k, 0, none⟩) (len := (ddI env i).length) (cap := cap) (n := 1) (sz := 1) (olds := iVs (ddI env i)) (B := ⟨0, .pl (i + 1)⟩) hn hkl.hr hx hf hk h1.symm hcl (by rw [hil, Nat.mul_one]) hol hs hl0 (by omega) hlim (Nat.zero_lt_succ 7) (Nat.zero_le _) (Nat.zero_le _) (fun j x hj => absurd hj (Nat.not_lt_zero _)) hpl
      obtain ⟨b1, n1, c1, rfl, q4⟩ := key q2
      exact ⟨b1, n1, c1, ρ', w', q1, q4, hkl.trans q3 (Nat.le_refl _) (Nat.le_succ _)⟩
end
end Ev
end Go.Proofs.YtdmedmmdioabgaaGreatDoor
set_option linter.unusedVariables false
set_option linter.unusedSimpArgs false
namespace Go.Proofs.YtdmedmmdioabgaaGreatDoor
namespace Ev
open Go.RowKit
section
variable {T : Tab} {env : Nat → Value} {ρ : Rh} {w w' : World} {h : Hp} {n : Nat}
/-- a block that nobody knows -/
theorem Post.idle (hr : HR env ρ h w) (n : Nat) (hw : ∀ j, j < w.heap.size → w'.heap[j]? = w.heap[j]?) (hsz : Below 0 w w') : Post env ρ h n w ρ h n w' :=
  ⟨Ext.refl _, fun i x e => .inl e, ⟨fun i hl => (hr.blk i hl).ext (Ext.refl _) fun k z e => hw k (hr.lt hl e), hr.ded, hr.inj, hr.dom⟩, fun k hk _ => hw k hk, fun i k z hl e _ => ⟨i, z, hl, e⟩, hsz, fun g k z _ hl e => ⟨hl, hw k (hr.lt hl e)⟩⟩
/-- a new block, wherever it lies -/
theorem Post.made (hr : HR env ρ h w) (hn : n < 32768) (hf : ρ n = none) {B : Bk} (hro : 0 < B.t.room) {arr : Array Value} {ty : TypeId} {lo hi kk : Nat} (hk : w'.heap[kk]? = some (.cells arr ty (lo, hi))) (hkz : lo = hi ∨ arr.size ≤ lo) (hkn : w.heap.size ≤ kk) (hw : ∀ j, j < w.heap.size → w'.heap[j]? = w.heap[j]?) (hsz : Below 0 w w')
    (h1 : B.n ≤ arr.size) (h2 : B.n ≤ B.t.room) (h3 : ∀ j, j < B.n → ∃ v, arr[j]? = some v ∧ VS env ρ (B.t.get j) v) (hpl : PlOk env B.t arr) :
    Post env ρ h n w (upR ρ n (kk, arr.size)) (hset h n B) (n + 1) w' := by
  have he := upR_ext hf (kk, arr.size)
  have hlv : ∀ j, Live (hset h n B) j → j ≠ n → Live h j := fun j hj e => ⟨hj.1, by have := hj.2; rw [get_hset hj.1 hn, if_neg e] at this; exact this⟩
  have hnl : ¬ Live h n := fun hl => by
    obtain ⟨k, arr, ty, lo, hi, e, _⟩ := (hr.blk n hl).ex
    rw [hf] at e; cases e
  refine ⟨he, fun i x e => ?_, ⟨fun j hj => ?_, fun j hj hd => ?_, fun j j' k z z' hj hj' e e' => ?_, fun i x e => ?_⟩, fun j hj _ => hw j hj, fun j k z hj e hk => ?_, hsz, fun g k z hg hlg e => ⟨⟨hlg.1, by rw [get_hset hlg.1 hn, if_neg (fun e' => hnl (by rw [← e']; exact hlg))]; exact hlg.2⟩, hw k (hr.lt hlg e)⟩⟩
  · rcases upR_inv e with ⟨e, _⟩ | ⟨_, e⟩
    · exact .inr ⟨by omega, by omega⟩
    · exact .inl e
  · rw [get_hset hj.1 hn]
    by_cases e : j = n
    · rw [if_pos e, e]
      exact ⟨kk, arr, ty, lo, hi, upR_new _ _ _, hk, .inr hkz, h1, h2, fun j hj => by obtain ⟨v, e1, e2⟩ := h3 j hj; exact ⟨v, e1, e2.ext he⟩, hpl⟩
    · rw [if_neg e]
      exact (hr.blk j (hlv j hj e)).ext he fun k z e' => hw k (hr.lt (hlv j hj e) e')
  · rw [get_hset hj hn] at hd ⊢
    by_cases e : j = n
    · rw [if_pos e] at hd; omega
    · rw [if_neg e] at hd ⊢; exact hr.ded j hj hd
  · rcases upR_inv e with ⟨e1, e2⟩ | ⟨e1, e2⟩ <;> rcases upR_inv e' with ⟨e3, e4⟩ | ⟨e3, e4⟩
    · rw [e1, e3]
    · cases e2
      have := hr.lt (hlv j' hj' e3) e4
      omega
    · cases e4
      have := hr.lt (hlv j hj e1) e2
      omega
    · exact hr.inj j j' k z z' (hlv j hj e1) (hlv j' hj' e3) e2 e4
  · rcases upR_inv e with ⟨e1, e2⟩ | ⟨e1, e2⟩
    · rw [e1]; exact hn
    · exact hr.dom i x e2
  · rcases upR_inv e with ⟨e1, e2⟩ | ⟨e1, e2⟩
    · cases e2; omega
    · exact ⟨j, z, hlv j hj e1, e2⟩
/-- one cell of a block is another -/
theorem Post.cell (hr : HR env ρ h w) (n : Nat) {i k z : Nat} (h8 : 8 ≤ i) (hl : Live h i) (hk : ρ i = some (k, z)) {j : Nat} (hj : j < (get5 i h).n) {x : Sc} {v : Value} (hv : VS env ρ x v) (hw : (w' = w ∧ w.cell? ⟨k, j, none⟩ = some v) ∨ w' = w.setCell ⟨k, j, none⟩ v) :
    Post env ρ h n w ρ (hset h i ⟨(get5 i h).n, (get5 i h).t.set j x id⟩) n w' := by
  obtain ⟨k', arr, ty, lo, hi, e, g1, g2, g3, g4, g5, g6⟩ := (hr.blk i hl).ex
  have hz := hk
  rw [e] at hz
  cases hz
  have hb : w'.heap[k]? = some (.cells (arr.setIfInBounds j v) ty (lo, hi)) ∧ (∀ j', j' ≠ k → w'.heap[j']? = w.heap[j']?) ∧ Below 0 w w' := by
    rcases hw with ⟨rfl, hc⟩ | rfl
    · refine ⟨?_, fun _ _ => rfl, Below.refl _ _⟩
      rw [cell_of g1] at hc
      rw [g1]
      congr 2
      apply Array.ext_getElem?
      intro q
      by_cases hq : j = q
      · rw [← hq, Array.getElem?_setIfInBounds_self_of_lt (by omega), hc]
      · rw [Array.getElem?_setIfInBounds_ne hq]
    · refine ⟨?_, fun j' hj' => ?_, (Below.refl 0 w).setCell (Nat.zero_le _) _⟩
      · unfold World.setCell
        rw [Array.getElem?_modify, if_pos rfl, g1]
        rfl
      · unfold World.setCell
        rw [Array.getElem?_modify, if_neg (fun e => hj' e.symm)]
  obtain ⟨b1, b2, b3⟩ := hb
  refine Post.write hr n (k := k) h8 hl (Cl.set_room j x _) ⟨_, e⟩ ⟨k, _, ty, lo, hi, by rw [Array.size_setIfInBounds]; exact e, b1, by rw [Array.size_setIfInBounds]; exact g2, by rw [Array.size_setIfInBounds]; exact g3, by show (get5 i h).n ≤ ((get5 i h).t.set j x id).room; rw [Cl.set_room]; exact g4, fun q hq => ?_, PlOk.no (plI_set _ _ _)⟩ b2 b3
  have hq : q < (get5 i h).n := hq
  show ∃ u, _ ∧ VS env ρ (((get5 i h).t.set j x id).get q) u
  rw [Cl.get_set x _ (by omega) (by omega)]
  by_cases e' : q = j
  · rw [if_pos e', e', Array.getElem?_setIfInBounds_self_of_lt (by omega)]
    exact ⟨v, rfl, hv⟩
  · rw [if_neg e', Array.getElem?_setIfInBounds_ne (fun e => e' e.symm)]
    exact g5 q hq
end
end Ev
end Go.Proofs.YtdmedmmdioabgaaGreatDoor
