import Derived.Test.YtgfhddhkillchaaGreatDoorEvM
set_option linter.unusedVariables false
set_option linter.unusedSimpArgs false
namespace Go.Proofs.YtgfhddhkillchaaGreatDoor
namespace Ev
/-! temps -/
section
variable {kp : Nat} {tm tm' : Tm} {dst : Option Tmp} {v : AV}
theorem tget_put {d k : Nat} (hd : d < 512) (hk : k < 512) (v : AV) (tm : Tm) (kp : Nat) : tget k (tputP kp (some d) v tm) = if k = d then v else tget k tm := by
  cases tm with
  | mk l vs =>
    have key : ∀ vs' : Vs, (k ≠ d → get3 k vs' = get3 k vs) → lget (.cs d v l) k vs' = if k = d then v else lget l k vs := by
      intro vs' hv
      show @Bool.rec (fun _ => AV) (lget l k vs') v (Nat.beq d k) = _
      by_cases e : k = d
      · rw [if_pos e, e, Nat.beq_refl]
      · rw [if_neg e]
        have : Nat.beq d k = false := by rw [nbeq]; exact decide_eq_false fun e' => e e'.symm
        rw [this]
        show lget l k vs' = lget l k vs
        have hh := hv e
        clear this
        induction l with
        | nl => exact hh
        | cs t x r ih => show @Bool.rec (fun _ => AV) (lget r k vs') x (Nat.beq t k) = @Bool.rec (fun _ => AV) (lget r k vs) x (Nat.beq t k); rw [ih]
    show tget k (@Nat.rec (fun _ => Tm) ⟨.cs d v l, vs⟩ (fun _ _ => set3 d v vs fun vs => ⟨.cs d v l, vs⟩) (kept kp d)) = if k = d then v else lget l k vs
    cases kept kp d with
    | zero => exact key vs fun _ => rfl
    | succ n =>
      show tget k (set3 d v vs fun vs => ⟨.cs d v l, vs⟩) = _
      rw [l3.1]
      refine key _ fun e => ?_
      rw [l3.2 k d v vs hk hd, if_neg e]
theorem v_put {d k : Nat} (hd : d < 512) (hk : k < 512) (v : AV) (tm : Tm) (kp : Nat) : get3 k (tputP kp (some d) v tm).v = if k = d ∧ kept kp d ≠ 0 then v else get3 k tm.v := by
  cases tm with
  | mk l vs =>
    show get3 k (@Nat.rec (fun _ => Tm) ⟨.cs d v l, vs⟩ (fun _ _ => set3 d v vs fun vs => ⟨.cs d v l, vs⟩) (kept kp d)).v = _
    cases kept kp d with
    | zero => rw [if_neg (fun h => h.2 rfl)]; rfl
    | succ n =>
      show get3 k (set3 d v vs fun vs => (⟨.cs d v l, vs⟩ : Tm)).v = _
      rw [l3.1]
      show get3 k (set3 d v vs id) = _
      rw [l3.2 k d v vs hk hd]
      by_cases e : k = d
      · rw [if_pos e, if_pos ⟨e, Nat.succ_ne_zero _⟩]
      · rw [if_neg e, if_neg (fun h => e h.1)]
end
/-! static looks -/
def tmpLt (N n : Nat) : Operand → Bool
  | .tmp t => Nat.blt t n
  | .global g => Nat.blt g N
  | _ => true
def operOk (N n : Nat) (o : Oper) : Bool := (match o.dst with | some d => Nat.blt d n | none => true) && o.op.operands.toList.all (tmpLt N n)
/-- the variables: how many, and the world that they are as in -/
structure Gs where
  n : Nat
  w0 : World
  h8 : n ≤ 8
/-- where the variables lie -/
structure Gl (N : Gs) (ρ : Rh) (h : Hp) (w : World) : Prop where
  at' : ∀ g, g < N.n → ∃ z, ρ g = some (g, z)
  live : ∀ g, g < N.n → Live h g
  as' : ∀ g, g < N.n → w.heap[g]? = N.w0.heap[g]?
theorem Gl.step {env : Nat → Value} {N : Gs} {ρ ρ' : Rh} {h h' : Hp} {n n' : Nat} {w w' : World} (hG : Gl N ρ h w) (hp : Post env ρ h n w ρ' h' n' w') : Gl N ρ' h' w' := by
  refine ⟨fun g hg => ?_, fun g hg => ?_, fun g hg => ?_⟩
  · obtain ⟨z, e⟩ := hG.at' g hg; exact ⟨z, hp.ext _ _ e⟩
  · obtain ⟨z, e⟩ := hG.at' g hg; exact (hp.ro g g z (Nat.lt_of_lt_of_le hg N.h8) (hG.live g hg) e).1
  · obtain ⟨z, e⟩ := hG.at' g hg; exact (hp.ro g g z (Nat.lt_of_lt_of_le hg N.h8) (hG.live g hg) e).2.trans (hG.as' g hg)
theorem Gl.same {N : Gs} {ρ : Rh} {h : Hp} {w w' : World} (hG : Gl N ρ h w) (hw : w'.heap = w.heap) : Gl N ρ h w' := ⟨hG.at', hG.live, fun g hg => by rw [hw]; exact hG.as' g hg⟩
section
variable {T : Tab} {env : Nat → Value} {ρ ρ' : Rh} {w w' : World} {tm tm' : Tm} {call : Cal} {s s' : St} {kp n : Nat} {a : Act}
structure ER (env : Nat → Value) (ρ : Rh) (kp n : Nat) (tm : Tm) (a : Act) : Prop where
  size : a.tmps.size = n
  le : n ≤ 512
  at' : ∀ k, k < n → VA env ρ (tget k tm) (a.tmps.getD k undef)
  vs : ∀ k, k < n → VA env ρ (get3 k tm.v) (a.tmps.getD k undef)
  un : ∀ k, k < 512 → kept kp k = 0 → get3 k tm.v = .u
  nod : a.defers = []
theorem ER.ext (h : ER env ρ kp n tm a) (he : Ext ρ ρ') : ER env ρ' kp n tm a := ⟨h.size, h.le, fun k hk => (h.at' k hk).ext he, fun k hk => (h.vs k hk).ext he, h.un, h.nod⟩
theorem ER.clr (h : ER env ρ kp n tm a) : ER env ρ kp n (Ev.clr tm) a := by
  cases tm with
  | mk l vs => exact ⟨h.size, h.le, h.vs, h.vs, h.un, h.nod⟩
theorem ER.op (h : ER env ρ kp n tm a) {N : Gs} {h' : Hp} {w' : World} (hG : Gl N ρ h' w') {x : Operand} (hx : tmpLt N.n n x = true) : VA env ρ (evo x tm) (a.eval x) := by
  cases x with
  | tmp t => exact h.at' t (blt_t hx)
  | const v => exact ofV_V v
  | global g => obtain ⟨z, e⟩ := hG.at' g (blt_t hx); exact ⟨g, z, e, rfl⟩
  | func f => trivial
theorem put_at (a : Act) (d : Nat) (v : Value) (hd : d < a.tmps.size) (k : Nat) : (a.put (some d) v).tmps.getD k undef = if k = d then v else a.tmps.getD k undef := by
  show (a.tmps.setIfInBounds d v).getD k undef = _
  rw [Array.getD_eq_getD_getElem?, Array.getD_eq_getD_getElem?]
  by_cases e : k = d
  · rw [if_pos e, e, Array.getElem?_setIfInBounds_self_of_lt hd]; rfl
  · rw [if_neg e, Array.getElem?_setIfInBounds_ne (fun e' => e e'.symm)]
/-- a step's new temps -/
def TmS (kp : Nat) (dst : Option Tmp) (tm tm' : Tm) : Prop := ∃ v, tm' = tputP kp dst v tm
theorem ER.put (h : ER env ρ kp n tm a) {dst : Option Tmp} (hd : ∀ d, dst = some d → d < n) (ht : TmS kp dst tm tm') {v' : Value} (hv : ∀ d, dst = some d → VA env ρ (tget d tm') v') : ER env ρ kp n tm' (a.put dst v') := by
  obtain ⟨v, rfl⟩ := ht
  cases dst with
  | none => exact h
  | some d =>
    have hd : @LT.lt Nat _ d n := hd d rfl
    have hle := h.le
    have hsz := h.size
    have hv := hv d rfl
    rw [tget_put (by omega) (by omega), if_pos rfl] at hv
    refine ⟨by show (a.tmps.setIfInBounds d v').size = n; rw [Array.size_setIfInBounds, hsz], hle, fun k hk => ?_, fun k hk => ?_, fun k hk hk0 => ?_, h.nod⟩
    · rw [put_at a d v' (by omega), tget_put (by omega) (by omega)]
      by_cases e : k = d
      · rw [if_pos e, if_pos e]; exact hv
      · rw [if_neg e, if_neg e]; exact h.at' k hk
    · rw [put_at a d v' (by omega), v_put (by omega) (by omega)]
      by_cases e : k = d
      · rw [if_pos e]
        by_cases hkd : kept kp d = 0
        · rw [if_neg (fun h => h.2 hkd), e, h.un d (by omega) hkd]; trivial
        · rw [if_pos ⟨e, hkd⟩]; exact hv
      · rw [if_neg e, if_neg (fun h => e h.1)]; exact h.vs k hk
    · rw [v_put (by omega) hk, if_neg (fun h => h.2 (by rw [← h.1]; exact hk0))]
      exact h.un k hk hk0
/-! calls -/
structure FnOk (P : Program) (f : Nat) : Prop where
  ex : ∃ fn, P.funcs[f]? = some fn ∧ fn.body.isSome = true ∧ (fn.name == "runtime.NumGoroutine") = false
def SimC (T : Tab) (env : Nat → Value) (N : Gs) (call : Cal) : Prop := ∀ f args s v s' (ρ : Rh) w (us : List Value), call f args s = .ok v s' → s.nx ≤ 32768 → Gl N ρ s.h w → All2 (VA env ρ) args us → HR env ρ s.h w → Free ρ s.nx s'.nx →
  FnOk T.P f ∧ Calls T.P f us.toArray w fun e w' => ∃ v' ρ', e = .returned v' ∧ VA env ρ' v v' ∧ Post env ρ s.h s.nx w ρ' s'.h s'.nx w'
theorem evos_V {xs : List Operand} {rc : Operand → Value} (h : ∀ x ∈ xs, VA env ρ (evo x tm) (rc x)) : All2 (VA env ρ) (evos xs tm) (xs.map rc) := by
  induction xs with
  | nil => exact .nil
  | cons x xs ih => exact .cons (h x (List.mem_cons_self ..)) (ih fun y hy => h y (List.mem_cons_of_mem _ hy))
/-- what a step looks at -/
structure LookR (env : Nat → Value) (ρ : Rh) (ops : List Oper) (o : Oper) (tm : Tm) (a : Act) : Prop where
  op : ∀ x ∈ o.op.operands.toList, VA env ρ (evo x tm) (a.eval x)
  gd : ∀ j want d, o.guard = some (j, want) → yldD ops j = some d → VA env ρ (tget d tm) (a.tmps.getD d undef) ∧ d < a.tmps.size
theorem yld_V {v : AV} {u : Value} (h : VA env ρ v u) (hu : isU v = false) : (match some u with | some (.bool b) => some b | _ => none) = yldV v := by
  cases v with
  | c x =>
    cases x with
    | b c => have h : u = .bool c := h; rw [h]; rfl
    | i k n => have h : u = .int k n := h; rw [h]; rfl
    | s l => obtain ⟨s, h, _⟩ := h; rw [h]; rfl
    | p b o => obtain ⟨k, z, _, h⟩ := h; rw [h]; rfl
    | pn => have h : u = .pointer none := h; rw [h]; rfl
    | sl b o l z => obtain ⟨k, z', c, _, h, _⟩ := h; rw [h]; rfl
    | sn => have h : u = .slice none 0 0 := h; rw [h]; rfl
    | se => obtain ⟨ad, c, h⟩ := h; rw [h]; rfl
    | y j => cases hu
  | ag l => obtain ⟨arr, h, _⟩ := h; rw [h]; rfl
  | tp l => obtain ⟨arr, h, _⟩ := h; rw [h]; rfl
  | u => cases hu
theorem run_sim (hk : Ok T env) {N : Gs} (hC : SimC T env N call) {o : Oper} {v : AV} (h : evOp o.op T call tm s = .ok v s') (hsx : s.nx ≤ 32768) (hG : Gl N ρ s.h w) (hx : ∀ x ∈ o.op.operands.toList, VA env ρ (evo x tm) (a.eval x)) (hr : HR env ρ s.h w) (hf : Free ρ s.nx s'.nx) {K : Act → World → Prop} {Q : Exit → Act → World → Prop} (hK : ∀ v' ρ' w', VA env ρ' v v' → Post env ρ s.h s.nx w ρ' s'.h s'.nx w' → K (a.put o.dst v') w') : o.wp T.P a w K Q := by
  cases hfn : isFn o.op with
  | false =>
    obtain ⟨v', ρ', w', nx, h1, h2, h3, h4⟩ := op_sim hk hfn h hx hr hf
    unfold Oper.wp
    rw [h1]
    rcases h2 with rfl | ⟨rfl, rfl⟩
    · exact hK _ _ _ h3 h4
    · exact hK _ _ _ h3 h4
  | true =>
    obtain ⟨dst, op, type, pos, after, guard⟩ := o
    simp only at h hx hfn hK
    cases op with
    | call c =>
      obtain ⟨callee, args, tys⟩ := c
      cases callee with
      | value g =>
        cases g with
        | func f =>
          have h : call f (evos args.toList tm) s = .ok v s' := h
          obtain ⟨⟨fn, q1, q2, q3⟩, hcall⟩ := hC f _ _ _ _ ρ w (args.toList.map a.eval) h hsx hG (evos_V fun x hx' => hx x (by simp [Op.operands, Call.operands]; exact .inr (by simpa using hx'))) hr hf
          unfold Oper.wp
          have hargs : (args.toList.map a.eval).toArray = #[] ++ args.map a.eval ++ #[] := by apply Array.ext'; simp
          rw [Ev.execOp_call, run_callFunc q1 q3 q2, ← hargs]
          refine hcall.mono fun e w' he => ?_
          obtain ⟨v', ρ', rfl, hv, hp⟩ := he
          exact hK v' ρ' w' hv hp
        | _ => cases hfn
      | _ => cases hfn
    | _ => cases hfn
where
  Ev.execOp_call {a : Act} {dst : Option Tmp} {f : FuncId} {xs : Array Operand} {ats : Array TypeId} {ty : TypeId} {pos : String} {after : Array Edge} {guard : Option (Nat × Bool)} : execOp a.eval { dst, op := .call { callee := .value (.func f), args := xs, argTypes := ats }, type := ty, pos, after, guard } = callFunc f (#[] ++ xs.map a.eval ++ #[]) := rfl
  run_callFunc {P : Program} {f : FuncId} {fn : Func} {args : Array Value} {w : World} (hf : P.funcs[f]? = some fn) (hname : (fn.name == "runtime.NumGoroutine") = false) (hb : fn.body.isSome = true) : (callFunc f args).run P w = .ok (.enter f args) w := by
    have : fn.body.isNone = false := by cases hfb : fn.body <;> simp_all
    unfold callFunc
    simp only [Sem.run_bind, run_program, Result.andThen_ok, hf]
    rw [if_neg (by rw [hname]; decide), if_neg (by rw [this]; decide)]
    rfl
theorem step_sim (hk : Ok T env) {N : Gs} (hC : SimC T env N call) {ops : Array Oper} {i : Nat} {o : Oper} (ho : ops[i]? = some o) (h : stepO o T call kp ops.toList tm s = .ok tm' s') : TmS kp o.dst tm tm' ∧ ∀ {a : Act} {w : World} {ρ : Rh}, (∀ d, o.dst = some d → d < 512) → s.nx ≤ 32768 → Gl N ρ s.h w → LookR env ρ ops.toList o tm a → HR env ρ s.h w → Free ρ s.nx s'.nx → ∀ {K : Act → World → Prop} {Q : Exit → Act → World → Prop}, (∀ v' ρ' w', (∀ d, o.dst = some d → VA env ρ' (tget d tm') v') → Post env ρ s.h s.nx w ρ' s'.h s'.nx w' → K (a.put o.dst v') w') → wpOp T.P ops Q i K a w := by
  have run : ∀ {s' : St} {tm' : Tm}, runO o.dst o.op T call kp ops.toList tm s = .ok tm' s' → ∃ v, tm' = tputP kp o.dst v tm ∧ evOp o.op T call tm s = .ok v s' := fun h => by
    rw [runO_eq] at h
    obtain ⟨v, s1, h1, h2⟩ := bnd_ok h
    cases h2
    exact ⟨v, rfl, h1⟩
  have tg : ∀ {v : AV} {d : Nat} {ρ : Rh} {v' : Value}, d < 512 → VA env ρ v v' → VA env ρ (tget d (tputP kp (some d) v tm)) v' := fun hd hv => by rw [tget_put hd hd, if_pos rfl]; exact hv
  have skip : ∀ {s' : St} {tm' : Tm}, skipO o.dst T call kp ops.toList tm s = .ok tm' s' → s' = s ∧ tm' = tputP kp o.dst und tm := fun h => by
    rw [skipO_eq] at h
    cases h
    exact ⟨rfl, rfl⟩
  cases hg : o.guard with
  | none =>
    have h : runO o.dst o.op T call kp ops.toList tm s = .ok tm' s' := by
      cases o
      simp only at hg
      subst hg
      exact h
    obtain ⟨v, rfl, he⟩ := run h
    refine ⟨⟨v, rfl⟩, fun {a w ρ} hd hsx hG hl hr hf K Q hK => ?_⟩
    unfold wpOp
    rw [ho]
    simp only
    rw [if_pos (by unfold Region.wanted; rw [hg])]
    refine .inl (run_sim hk hC he hsx hG hl.op hr hf fun v' ρ' w' hv hp => hK v' ρ' w' (fun d e => ?_) hp)
    rw [e]
    exact tg (hd d e) hv
  | some q =>
    obtain ⟨j, want⟩ := q
    have h : guarded j want o.dst o.op T call kp ops.toList tm s = .ok tm' s' := by
      cases o
      simp only at hg
      subst hg
      exact h
    unfold guarded at h
    cases hy : yldD ops.toList j with
    | none => rw [hy] at h; exact no_ok h
    | some d =>
      rw [hy] at h
      obtain ⟨hu, h⟩ := iff_on h
      have hwant : ∀ {a : Act} {ρ : Rh}, LookR env ρ ops.toList o tm a → Region.wanted o (yielded ops a.tmps) = (yldV (tget d tm) == some want) := fun {a ρ} hl => by
        obtain ⟨h1, h2⟩ := hl.gd j want d hg hy
        unfold Region.wanted
        rw [hg]
        show (yielded ops a.tmps j == some want) = _
        have : yielded ops a.tmps j = yldV (tget d tm) := by
          unfold yielded
          have e1 : (ops[j]?).bind (·.dst) = some d := by
            unfold yldD at hy
            rw [nth_eq, Array.getElem?_toList] at hy
            cases hj : ops[j]? with
            | none => rw [hj] at hy; cases hy
            | some oj => rw [hj] at hy; exact hy
          have e2 : a.tmps[d]? = some (a.tmps.getD d undef) := by
            rw [Array.getD_eq_getD_getElem?, Array.getElem?_eq_getElem h2]; rfl
          rw [e1, Option.bind_some, e2]
          exact yld_V h1 hu
        rw [this]
      cases hyv : yldV (tget d tm) with
      | none =>
        rw [hyv] at h
        obtain ⟨rfl, rfl⟩ := skip h
        refine ⟨⟨und, rfl⟩, fun {a w ρ} hd hsx hG hl hr hf K Q hK => ?_⟩
        unfold wpOp
        rw [ho]
        simp only
        rw [if_neg (by rw [hwant hl, hyv]; simp)]
        refine hK undef ρ w (fun d e => ?_) (Post.refl hr _)
        rw [e]
        exact tg (hd d e) ⟨#[], rfl, .nil⟩
      | some b =>
        rw [hyv] at h
        have h : iff (beq2 b want) (runO o.dst o.op T call kp ops.toList tm) (skipO o.dst T call kp ops.toList tm) s = .ok tm' s' := h
        rcases iff_ok h with ⟨hb, h⟩ | ⟨hb, h⟩
        · obtain ⟨v, rfl, he⟩ := run h
          refine ⟨⟨v, rfl⟩, fun {a w ρ} hd hsx hG hl hr hf K Q hK => ?_⟩
          unfold wpOp
          rw [ho]
          simp only
          rw [beq2_eq] at hb
          rw [if_pos (by rw [hwant hl, hyv]; simpa using hb)]
          refine .inl (run_sim hk hC he hsx hG hl.op hr hf fun v' ρ' w' hv hp => hK v' ρ' w' (fun d e => ?_) hp)
          rw [e]
          exact tg (hd d e) hv
        · obtain ⟨rfl, rfl⟩ := skip h
          refine ⟨⟨und, rfl⟩, fun {a w ρ} hd hsx hG hl hr hf K Q hK => ?_⟩
          unfold wpOp
          rw [ho]
          simp only
          rw [beq2_eq] at hb
          rw [if_neg (by rw [hwant hl, hyv]; simpa using hb)]
          refine hK undef ρ w (fun d e => ?_) (Post.refl hr _)
          rw [e]
          exact tg (hd d e) ⟨#[], rfl, .nil⟩
end
end Ev
end Go.Proofs.YtgfhddhkillchaaGreatDoor
