import Derived.Test.YtjmifcnfnihhnaaGreatDoorZeC
import Derived.Deep.LoopGhost
set_option linter.unusedVariables false
set_option linter.unusedSimpArgs false
namespace Go.Proofs.YtjmifcnfnihhnaaGreatDoor
namespace Ev
/-! temps -/
section
variable {kp : Nat} {tm tm' : Tm} {dst : Option Tmp} {v : AV}
theorem tget_put {d k : Nat} (hd : d < 512) (hk : k < 512) (v : AV) (tm : Tm) (kp : Nat) : tget k (tputP kp (some d) v tm) = if k = d then v else tget k tm := by
  cases tm with
  | mk l vs =>
    have key : ∀ vs' : Vs, (k ≠ d → get3 k vs' = get3 k vs) → lget (.cs d v l) k vs' = if k = d then v else lget l k vs := by
      intro vs' hv
      show @Bool.rec (fun _ => AV) (lget l k vs') v (Nat.beq d k) = _
      by_cases e : k = d
      · rw [if_pos e, e, Nat.beq_refl]
      · rw [if_neg e]
        have : Nat.beq d k = false := by rw [nbeq]; exact decide_eq_false fun e' => e e'.symm
        rw [this]
        show lget l k vs' = lget l k vs
        have hh := hv e
        clear this
        induction l with
        | nl => exact hh
        | cs t x r ih => show @Bool.rec (fun _ => AV) (lget r k vs') x (Nat.beq t k) = @Bool.rec (fun _ => AV) (lget r k vs) x (Nat.beq t k); rw [ih]
    show tget k (@Nat.rec (fun _ => Tm) ⟨.cs d v l, vs⟩ (fun _ _ => set3 d v vs fun vs => ⟨.cs d v l, vs⟩) (kept kp d)) = if k = d then v else lget l k vs
    cases kept kp d with
    | zero => exact key vs fun _ => rfl
    | succ n =>
      show tget k (set3 d v vs fun vs => ⟨.cs d v l, vs⟩) = _
      rw [l3.1]
      refine key _ fun e => ?_
      rw [l3.2 k d v vs hk hd, if_neg e]
theorem v_put {d k : Nat} (hd : d < 512) (hk : k < 512) (v : AV) (tm : Tm) (kp : Nat) : get3 k (tputP kp (some d) v tm).v = if k = d ∧ kept kp d ≠ 0 then v else get3 k tm.v := by
  cases tm with
  | mk l vs =>
    show get3 k (@Nat.rec (fun _ => Tm) ⟨.cs d v l, vs⟩ (fun _ _ => set3 d v vs fun vs => ⟨.cs d v l, vs⟩) (kept kp d)).v = _
    cases kept kp d with
    | zero => rw [if_neg (fun h => h.2 rfl)]; rfl
    | succ n =>
      show get3 k (set3 d v vs fun vs => (⟨.cs d v l, vs⟩ : Tm)).v = _
      rw [l3.1]
      show get3 k (set3 d v vs id) = _
      rw [l3.2 k d v vs hk hd]
      by_cases e : k = d
      · rw [if_pos e, if_pos ⟨e, Nat.succ_ne_zero _⟩]
      · rw [if_neg e, if_neg (fun h => e h.1)]
end
/-! static looks -/
def tmpLt (N n : Nat) : Operand → Bool
  | .tmp t => Nat.blt t n
  | .global g => Nat.blt g N
  | _ => true
def operOk (N n : Nat) (o : Oper) : Bool := (match o.dst with | some d => Nat.blt d n | none => true) && o.op.operands.toList.all (tmpLt N n)
/-- the variables: how many, and the world that they are as in -/
structure Gs where
  n : Nat
  w0 : World
  h8 : n ≤ 8
/-- where the variables lie -/
structure Gl (N : Gs) (ρ : Rh) (h : Hp) (w : World) : Prop where
  at' : ∀ g, g < N.n → ∃ z, ρ g = some (g, z)
  live : ∀ g, g < N.n → Live h g
  as' : ∀ g, g < N.n → w.heap[g]? = N.w0.heap[g]?
theorem Gl.step {env : Nat → Value} {N : Gs} {ρ ρ' : Rh} {h h' : Hp} {n n' : Nat} {w w' : World} (hG : Gl N ρ h w) (hp : Post env ρ h n w ρ' h' n' w') : Gl N ρ' h' w' := by
  refine ⟨fun g hg => ?_, fun g hg => ?_, fun g hg => ?_⟩
  · obtain ⟨z, e⟩ := hG.at' g hg; exact ⟨z, hp.ext _ _ e⟩
  · obtain ⟨z, e⟩ := hG.at' g hg; exact (hp.ro g g z (Nat.lt_of_lt_of_le hg N.h8) (hG.live g hg) e).1
  · obtain ⟨z, e⟩ := hG.at' g hg; exact (hp.ro g g z (Nat.lt_of_lt_of_le hg N.h8) (hG.live g hg) e).2.trans (hG.as' g hg)
theorem Gl.same {N : Gs} {ρ : Rh} {h : Hp} {w w' : World} (hG : Gl N ρ h w) (hw : w'.heap = w.heap) : Gl N ρ h w' := ⟨hG.at', hG.live, fun g hg => by rw [hw]; exact hG.as' g hg⟩
section
variable {T : Tab} {env : Nat → Value} {ρ ρ' : Rh} {w w' : World} {tm tm' : Tm} {call : Cal} {s s' : St} {kp n : Nat} {a : Act}
structure ER (env : Nat → Value) (ρ : Rh) (kp n : Nat) (tm : Tm) (a : Act) : Prop where
  size : a.tmps.size = n
  le : n ≤ 512
  at' : ∀ k, k < n → VA env ρ (tget k tm) (a.tmps.getD k undef)
  vs : ∀ k, k < n → VA env ρ (get3 k tm.v) (a.tmps.getD k undef)
  un : ∀ k, k < 512 → kept kp k = 0 → get3 k tm.v = .u
  nod : a.defers = []
theorem ER.ext (h : ER env ρ kp n tm a) (he : Ext ρ ρ') : ER env ρ' kp n tm a := ⟨h.size, h.le, fun k hk => (h.at' k hk).ext he, fun k hk => (h.vs k hk).ext he, h.un, h.nod⟩
theorem ER.clr (h : ER env ρ kp n tm a) : ER env ρ kp n (Ev.clr tm) a := by
  cases tm with
  | mk l vs => exact ⟨h.size, h.le, h.vs, h.vs, h.un, h.nod⟩
theorem ER.op (h : ER env ρ kp n tm a) {N : Gs} {h' : Hp} {w' : World} (hG : Gl N ρ h' w') {x : Operand} (hx : tmpLt N.n n x = true) : VA env ρ (evo x tm) (a.eval x) := by
  cases x with
  | tmp t => exact h.at' t (blt_t hx)
  | const v => exact ofV_V v
  | global g => obtain ⟨z, e⟩ := hG.at' g (blt_t hx); exact ⟨g, z, e, rfl⟩
  | func f => trivial
theorem put_at (a : Act) (d : Nat) (v : Value) (hd : d < a.tmps.size) (k : Nat) : (a.put (some d) v).tmps.getD k undef = if k = d then v else a.tmps.getD k undef := by
  show (a.tmps.setIfInBounds d v).getD k undef = _
  rw [Array.getD_eq_getD_getElem?, Array.getD_eq_getD_getElem?]
  by_cases e : k = d
  · rw [if_pos e, e, Array.getElem?_setIfInBounds_self_of_lt hd]; rfl
  · rw [if_neg e, Array.getElem?_setIfInBounds_ne (fun e' => e e'.symm)]
/-- a step's new temps -/
def TmS (kp : Nat) (dst : Option Tmp) (tm tm' : Tm) : Prop := ∃ v, tm' = tputP kp dst v tm
theorem ER.put (h : ER env ρ kp n tm a) {dst : Option Tmp} (hd : ∀ d, dst = some d → d < n) (ht : TmS kp dst tm tm') {v' : Value} (hv : ∀ d, dst = some d → VA env ρ (tget d tm') v') : ER env ρ kp n tm' (a.put dst v') := by
  obtain ⟨v, rfl⟩ := ht
  cases dst with
  | none => exact h
  | some d =>
    have hd : @LT.lt Nat _ d n := hd d rfl
    have hle := h.le
    have hsz := h.size
    have hv := hv d rfl
    rw [tget_put (by omega) (by omega), if_pos rfl] at hv
    refine ⟨by show (a.tmps.setIfInBounds d v').size = n; rw [Array.size_setIfInBounds, hsz], hle, fun k hk => ?_, fun k hk => ?_, fun k hk hk0 => ?_, h.nod⟩
    · rw [put_at a d v' (by omega), tget_put (by omega) (by omega)]
      by_cases e : k = d
      · rw [if_pos e, if_pos e]; exact hv
      · rw [if_neg e, if_neg e]; exact h.at' k hk
    · rw [put_at a d v' (by omega), v_put (by omega) (by omega)]
      by_cases e : k = d
      · rw [if_pos e]
        by_cases hkd : kept kp d = 0
        · rw [if_neg (fun h => h.2 hkd), e, h.un d (by omega) hkd]; trivial
        · rw [if_pos ⟨e, hkd⟩]; exact hv
      · rw [if_neg e, if_neg (fun h => e h.1)]; exact h.vs k hk
    · rw [v_put (by omega) hk, if_neg (fun h => h.2 (by rw [← h.1]; exact hk0))]
      exact h.un k hk hk0
/-! calls -/
structure FnOk (P : Program) (f : Nat) : Prop where
  ex : ∃ fn, P.funcs[f]? = some fn ∧ fn.body.isSome = true ∧ (fn.name == "runtime.NumGoroutine") = false
def SimC (T : Tab) (env : Nat → Value) (N : Gs) (call : Cal) : Prop := ∀ f args s v s' (ρ : Rh) w (us : List Value), call f args s = .ok v s' → s.nx ≤ 32768 → Gl N ρ s.h w → All2 (VA env ρ) args us → HR env ρ s.h w → Free ρ s.nx s'.nx →
  FnOk T.P f ∧ Calls T.P f us.toArray w fun e w' => ∃ v' ρ', e = .returned v' ∧ VA env ρ' v v' ∧ Post env ρ s.h s.nx w ρ' s'.h s'.nx w'
theorem evos_V {xs : List Operand} {rc : Operand → Value} (h : ∀ x ∈ xs, VA env ρ (evo x tm) (rc x)) : All2 (VA env ρ) (evos xs tm) (xs.map rc) := by
  induction xs with
  | nil => exact .nil
  | cons x xs ih => exact .cons (h x (List.mem_cons_self ..)) (ih fun y hy => h y (List.mem_cons_of_mem _ hy))
/-- what a step looks at -/
structure LookR (env : Nat → Value) (ρ : Rh) (ops : List Oper) (o : Oper) (tm : Tm) (a : Act) : Prop where
  op : ∀ x ∈ o.op.operands.toList, VA env ρ (evo x tm) (a.eval x)
  gd : ∀ j want d, o.guard = some (j, want) → yldD ops j = some d → VA env ρ (tget d tm) (a.tmps.getD d undef) ∧ d < a.tmps.size
theorem yld_V {v : AV} {u : Value} (h : VA env ρ v u) (hu : isU v = false) : (match some u with | some (.bool b) => some b | _ => none) = yldV v := by
  cases v with
  | c x =>
    cases x with
    | b c => have h : u = .bool c := h; rw [h]; rfl
    | i k n => have h : u = .int k n := h; rw [h]; rfl
    | s l => obtain ⟨s, h, _⟩ := h; rw [h]; rfl
    | p b o => obtain ⟨k, z, _, h⟩ := h; rw [h]; rfl
    | pn => have h : u = .pointer none := h; rw [h]; rfl
    | sl b o l z => obtain ⟨k, z', c, _, h, _⟩ := h; rw [h]; rfl
    | sn => have h : u = .slice none 0 0 := h; rw [h]; rfl
    | se => obtain ⟨ad, c, h⟩ := h; rw [h]; rfl
    | y j => cases hu
    | ps b i => obtain ⟨k, z', c, _, h, _⟩ := h; rw [h]; rfl
  | ag l => obtain ⟨arr, h, _⟩ := h; rw [h]; rfl
  | tp l => obtain ⟨arr, h, _⟩ := h; rw [h]; rfl
  | u => cases hu
theorem run_sim (hk : Ok T env) {N : Gs} (hC : SimC T env N call) {o : Oper} {v : AV} (h : evOp o.op T call tm s = .ok v s') (hsx : s.nx ≤ 32768) (hG : Gl N ρ s.h w) (hx : ∀ x ∈ o.op.operands.toList, VA env ρ (evo x tm) (a.eval x)) (hr : HR env ρ s.h w) (hf : Free ρ s.nx s'.nx) {K : Act → World → Prop} {Q : Exit → Act → World → Prop} (hK : ∀ v' ρ' w', VA env ρ' v v' → Post env ρ s.h s.nx w ρ' s'.h s'.nx w' → K (a.put o.dst v') w') : o.wp T.P a w K Q := by
  cases hfn : isFn o.op with
  | false =>
    obtain ⟨v', ρ', w', nx, h1, h2, h3, h4⟩ := op_sim hk hfn h hx hr hf
    unfold Oper.wp
    rw [h1]
    rcases h2 with rfl | ⟨rfl, rfl⟩
    · exact hK _ _ _ h3 h4
    · exact hK _ _ _ h3 h4
  | true =>
    obtain ⟨dst, op, type, pos, after, guard⟩ := o
    simp only at h hx hfn hK
    cases op with
    | call c =>
      obtain ⟨callee, args, tys⟩ := c
      cases callee with
      | value g =>
        cases g with
        | func f =>
          have h : call f (evos args.toList tm) s = .ok v s' := h
          obtain ⟨⟨fn, q1, q2, q3⟩, hcall⟩ := hC f _ _ _ _ ρ w (args.toList.map a.eval) h hsx hG (evos_V fun x hx' => hx x (by simp [Op.operands, Call.operands]; exact .inr (by simpa using hx'))) hr hf
          unfold Oper.wp
          have hargs : (args.toList.map a.eval).toArray = #[] ++ args.map a.eval ++ #[] := by apply Array.ext'; simp
          rw [Ev.execOp_call, run_callFunc q1 q3 q2, ← hargs]
          refine hcall.mono fun e w' he => ?_
          obtain ⟨v', ρ', rfl, hv, hp⟩ := he
          exact hK v' ρ' w' hv hp
        | _ => cases hfn
      | _ => cases hfn
    | _ => cases hfn
where
  Ev.execOp_call {a : Act} {dst : Option Tmp} {f : FuncId} {xs : Array Operand} {ats : Array TypeId} {ty : TypeId} {pos : String} {after : Array Edge} {guard : Option (Nat × Bool)} : execOp a.eval { dst, op := .call { callee := .value (.func f), args := xs, argTypes := ats }, type := ty, pos, after, guard } = callFunc f (#[] ++ xs.map a.eval ++ #[]) := rfl
  run_callFunc {P : Program} {f : FuncId} {fn : Func} {args : Array Value} {w : World} (hf : P.funcs[f]? = some fn) (hname : (fn.name == "runtime.NumGoroutine") = false) (hb : fn.body.isSome = true) : (callFunc f args).run P w = .ok (.enter f args) w := by
    have : fn.body.isNone = false := by cases hfb : fn.body <;> simp_all
    unfold callFunc
    simp only [Sem.run_bind, run_program, Result.andThen_ok, hf]
    rw [if_neg (by rw [hname]; decide), if_neg (by rw [this]; decide)]
    rfl
theorem step_sim (hk : Ok T env) {N : Gs} (hC : SimC T env N call) {ops : Array Oper} {i : Nat} {o : Oper} (ho : ops[i]? = some o) (h : stepO o T call kp ops.toList tm s = .ok tm' s') : TmS kp o.dst tm tm' ∧ ∀ {a : Act} {w : World} {ρ : Rh}, (∀ d, o.dst = some d → d < 512) → s.nx ≤ 32768 → Gl N ρ s.h w → LookR env ρ ops.toList o tm a → HR env ρ s.h w → Free ρ s.nx s'.nx → ∀ {K : Act → World → Prop} {Q : Exit → Act → World → Prop}, (∀ v' ρ' w', (∀ d, o.dst = some d → VA env ρ' (tget d tm') v') → Post env ρ s.h s.nx w ρ' s'.h s'.nx w' → K (a.put o.dst v') w') → wpOp T.P ops Q i K a w := by
  have run : ∀ {s' : St} {tm' : Tm}, runO o.dst o.op T call kp ops.toList tm s = .ok tm' s' → ∃ v, tm' = tputP kp o.dst v tm ∧ evOp o.op T call tm s = .ok v s' := fun h => by
    rw [runO_eq] at h
    obtain ⟨v, s1, h1, h2⟩ := bnd_ok h
    cases h2
    exact ⟨v, rfl, h1⟩
  have tg : ∀ {v : AV} {d : Nat} {ρ : Rh} {v' : Value}, d < 512 → VA env ρ v v' → VA env ρ (tget d (tputP kp (some d) v tm)) v' := fun hd hv => by rw [tget_put hd hd, if_pos rfl]; exact hv
  have skip : ∀ {s' : St} {tm' : Tm}, skipO o.dst T call kp ops.toList tm s = .ok tm' s' → s' = s ∧ tm' = tputP kp o.dst und tm := fun h => by
    rw [skipO_eq] at h
    cases h
    exact ⟨rfl, rfl⟩
  cases hg : o.guard with
  | none =>
    have h : runO o.dst o.op T call kp ops.toList tm s = .ok tm' s' := by
      cases o
      simp only at hg
      subst hg
      exact h
    obtain ⟨v, rfl, he⟩ := run h
    refine ⟨⟨v, rfl⟩, fun {a w ρ} hd hsx hG hl hr hf K Q hK => ?_⟩
    unfold wpOp
    rw [ho]
    simp only
    rw [if_pos (by unfold Region.wanted; rw [hg])]
    refine .inl (run_sim hk hC he hsx hG hl.op hr hf fun v' ρ' w' hv hp => hK v' ρ' w' (fun d e => ?_) hp)
    rw [e]
    exact tg (hd d e) hv
  | some q =>
    obtain ⟨j, want⟩ := q
    have h : guarded j want o.dst o.op T call kp ops.toList tm s = .ok tm' s' := by
      cases o
      simp only at hg
      subst hg
      exact h
    unfold guarded at h
    cases hy : yldD ops.toList j with
    | none => rw [hy] at h; exact no_ok h
    | some d =>
      rw [hy] at h
      obtain ⟨hu, h⟩ := iff_on h
      have hwant : ∀ {a : Act} {ρ : Rh}, LookR env ρ ops.toList o tm a → Region.wanted o (yielded ops a.tmps) = (yldV (tget d tm) == some want) := fun {a ρ} hl => by
        obtain ⟨h1, h2⟩ := hl.gd j want d hg hy
        unfold Region.wanted
        rw [hg]
        show (yielded ops a.tmps j == some want) = _
        have : yielded ops a.tmps j = yldV (tget d tm) := by
          unfold yielded
          have e1 : (ops[j]?).bind (·.dst) = some d := by
            unfold yldD at hy
            rw [nth_eq, Array.getElem?_toList] at hy
            cases hj : ops[j]? with
            | none => rw [hj] at hy; cases hy
            | some oj => rw [hj] at hy; exact hy
          have e2 : a.tmps[d]? = some (a.tmps.getD d undef) := by
            rw [Array.getD_eq_getD_getElem?, Array.getElem?_eq_getElem h2]; rfl
          rw [e1, Option.bind_some, e2]
          exact yld_V h1 hu
        rw [this]
      cases hyv : yldV (tget d tm) with
      | none =>
        rw [hyv] at h
        obtain ⟨rfl, rfl⟩ := skip h
        refine ⟨⟨und, rfl⟩, fun {a w ρ} hd hsx hG hl hr hf K Q hK => ?_⟩
        unfold wpOp
        rw [ho]
        simp only
        rw [if_neg (by rw [hwant hl, hyv]; simp)]
        refine hK undef ρ w (fun d e => ?_) (Post.refl hr _)
        rw [e]
        exact tg (hd d e) ⟨#[], rfl, .nil⟩
      | some b =>
        rw [hyv] at h
        have h : iff (beq2 b want) (runO o.dst o.op T call kp ops.toList tm) (skipO o.dst T call kp ops.toList tm) s = .ok tm' s' := h
        rcases iff_ok h with ⟨hb, h⟩ | ⟨hb, h⟩
        · obtain ⟨v, rfl, he⟩ := run h
          refine ⟨⟨v, rfl⟩, fun {a w ρ} hd hsx hG hl hr hf K Q hK => ?_⟩
          unfold wpOp
          rw [ho]
          simp only
          rw [beq2_eq] at hb
          rw [if_pos (by rw [hwant hl, hyv]; simpa using hb)]
          refine .inl (run_sim hk hC he hsx hG hl.op hr hf fun v' ρ' w' hv hp => hK v' ρ' w' (fun d e => ?_) hp)
          rw [e]
          exact tg (hd d e) hv
        · obtain ⟨rfl, rfl⟩ := skip h
          refine ⟨⟨und, rfl⟩, fun {a w ρ} hd hsx hG hl hr hf K Q hK => ?_⟩
          unfold wpOp
          rw [ho]
          simp only
          rw [beq2_eq] at hb
          rw [if_neg (by rw [hwant hl, hyv]; simpa using hb)]
          refine hK undef ρ w (fun d e => ?_) (Post.refl hr _)
          rw [e]
          exact tg (hd d e) ⟨#[], rfl, .nil⟩
end
end Ev
end Go.Proofs.YtjmifcnfnihhnaaGreatDoor
set_option linter.unusedVariables false
set_option linter.unusedSimpArgs false
namespace Go.Proofs.YtjmifcnfnihhnaaGreatDoor
namespace Ev
/-! what has been written, when only some have written -/
section
variable {ι β : Type} (S : Nat → ι → β) (W : Nat → ι → Prop) [∀ j x, Decidable (W j x)]
def cont (D : Nat → Bool) (x : ι) : Nat → β
  | 0 => S 0 x
  | j + 1 => if D j = true ∧ W j x then S (j + 1) x else cont D x j
variable {S W}
theorem cont_all {D : Nat → Bool} {x : ι} {n : Nat} (hD : ∀ j, j < n → D j = true) (hs : ∀ j, j < n → ¬ W j x → S (j + 1) x = S j x) : cont S W D x n = S n x := by
  induction n with
  | zero => rfl
  | succ n ih =>
    unfold cont
    split
    · rfl
    · rename_i h
      rw [ih (fun j hj => hD j (by omega)) (fun j hj => hs j (by omega)), hs n (by omega) (fun hw => h ⟨hD n (by omega), hw⟩)]
theorem cont_before {D : Nat → Bool} {x : ι} {n k : Nat} (hk : k ≤ n) (h1 : ∀ j, k ≤ j → j < n → D j = true → ¬ W j x) (h2 : ∀ j, j < k → W j x → D j = true) (hs : ∀ j, j < n → ¬ W j x → S (j + 1) x = S j x) : cont S W D x n = S k x := by
  have lo : ∀ m, m ≤ k → cont S W D x m = S m x := by
    intro m
    induction m with
    | zero => intro _; rfl
    | succ m ih =>
      intro hm
      unfold cont
      split
      · rfl
      · rename_i h
        rw [ih (by omega), hs m (by omega) (fun hw => h ⟨h2 m (by omega) hw, hw⟩)]
  have hi : ∀ m, k + m ≤ n → cont S W D x (k + m) = S k x := by
    intro m
    induction m with
    | zero => intro _; exact lo k (Nat.le_refl _)
    | succ m ih =>
      intro hm
      show (if D (k + m) = true ∧ W (k + m) x then S (k + m + 1) x else cont S W D x (k + m)) = _
      rw [if_neg (fun h => h1 (k + m) (by omega) (by omega) h.1 h.2), ih (by omega)]
  have := hi (n - k) (by omega)
  rwa [show k + (n - k) = n by omega] at this
theorem cont_more {D D' : Nat → Bool} {x : ι} {n k : Nat} (hk : k < n) (hD : ∀ j, D' j = (D j || decide (j = k))) (h1 : W k x → ∀ j, k < j → j < n → D j = true → ¬ W j x) : cont S W D' x n = if W k x then S (k + 1) x else cont S W D x n := by
  have step : ∀ m, m ≤ n → cont S W D' x m = if W k x ∧ k < m then S (k + 1) x else cont S W D x m := by
    intro m
    induction m with
    | zero => intro _; rw [if_neg (by omega)]; rfl
    | succ m ih =>
      intro hm
      have ih := ih (by omega)
      show (if D' m = true ∧ W m x then S (m + 1) x else cont S W D' x m) = if W k x ∧ k < m + 1 then S (k + 1) x else (if D m = true ∧ W m x then S (m + 1) x else cont S W D x m)
      rw [ih, hD m]
      by_cases e : m = k
      · subst e
        by_cases hw : W m x
        · rw [if_pos ⟨by simp, hw⟩, if_pos ⟨hw, by omega⟩]
        · rw [if_neg (fun h => hw h.2), if_neg (fun h => hw h.1), if_neg (fun h => hw h.1), if_neg (fun h => hw h.2)]
      · rw [decide_eq_false e, Bool.or_false]
        by_cases hw : W k x ∧ k < m
        · rw [if_neg (fun h => h1 hw.1 m hw.2 (by omega) h.1 h.2), if_pos hw, if_pos ⟨hw.1, by omega⟩]
        · have hw' : ¬ (W k x ∧ k < m + 1) := fun h => hw ⟨h.1, by have := h.2; omega⟩
          rw [if_neg hw, if_neg hw']
  rw [step n (Nat.le_refl _)]
  by_cases hw : W k x
  · rw [if_pos hw, if_pos ⟨hw, hk⟩]
  · rw [if_neg hw, if_neg (fun h => hw h.1)]
end
/-! what stands ahead -/
theorem ahead1_bits (bs : List Nat) {D : Nat → Prop} : ∀ (es : List Edge) (m : Nat), (∀ i, m.testBit i = true → D i) → (∀ e ∈ es, Region.binds .any e = true → D e.on ∧ ∀ x, bs[e.on]? = some x → ∀ i, x.testBit i = true → D i) → ∀ i, (ahead1 bs es m).testBit i = true → D i
  | [], m, hm, _, i, hi => hm i hi
  | e :: es, m, hm, he, i, hi => by
    refine ahead1_bits bs es _ (fun j hj => ?_) (fun e' he' => he e' (List.mem_cons_of_mem _ he')) i hi
    cases hb : Region.binds .any e with
    | false => rw [hb] at hj; exact hm j hj
    | true =>
      rw [hb] at hj
      have hj : (m ||| bit e.on ||| @Option.rec _ (fun _ => Nat) 0 (fun x => x) (nth bs e.on)).testBit j = true := hj
      rw [Nat.testBit_or, Nat.testBit_or, Bool.or_eq_true, Bool.or_eq_true] at hj
      obtain ⟨h1, h2⟩ := he e (List.mem_cons_self ..) hb
      rcases hj with (hj | hj) | hj
      · exact hm j hj
      · rw [bit_test] at hj; rw [of_decide_eq_true hj]; exact h1
      · rw [nth_eq] at hj
        cases hx : bs[e.on]? with
        | none => rw [hx] at hj; exact absurd hj (zb j)
        | some x => rw [hx] at hj; exact h2 x hx j hj
theorem aheads_at : ∀ (l : List Oper) (bs : List Nat), (aheads l bs).length = bs.length + l.length ∧ (∀ j, j < bs.length → (aheads l bs)[j]? = bs[j]?) ∧ ∀ j o, l[j]? = some o → (aheads l bs)[bs.length + j]? = some (ahead1 ((aheads l bs).take (bs.length + j)) o.after.toList 0)
  | [], bs => ⟨rfl, fun j _ => rfl, fun j o h => by cases h⟩
  | o :: l, bs => by
    obtain ⟨h1, h2, h3⟩ := aheads_at l (bs ++ [ahead1 bs o.after.toList 0])
    rw [List.length_append, List.length_singleton] at h1 h2 h3
    have e : aheads (o :: l) bs = aheads l (bs ++ [ahead1 bs o.after.toList 0]) := rfl
    rw [e]
    refine ⟨by rw [h1, List.length_cons]; omega, fun j hj => by rw [h2 j (by omega), List.getElem?_append_left hj], fun j o' hj => ?_⟩
    cases j with
    | zero =>
      cases hj
      have hb : (aheads l (bs ++ [ahead1 bs o.after.toList 0])).take bs.length = bs := by
        apply List.ext_getElem?
        intro i
        rw [List.getElem?_take]
        by_cases hi : i < bs.length
        · rw [if_pos hi, h2 i (by omega), List.getElem?_append_left hi]
        · rw [if_neg hi, List.getElem?_eq_none (by omega)]
      rw [Nat.add_zero, hb, h2 bs.length (by omega), List.getElem?_append_right (Nat.le_refl _), Nat.sub_self]
      rfl
    | succ j =>
      have := h3 j o' hj
      rwa [show bs.length + 1 + j = bs.length + (j + 1) by omega] at this
/-- what stands ahead has been listed -/
theorem aheads_in {l : List Oper} {D : Nat → Prop} (hD : ∀ j o, D j → l[j]? = some o → ∀ e ∈ o.after.toList, Region.binds .any e = true → D e.on) : ∀ (n j : Nat) (o : Oper) (x : Nat), j < n → l[j]? = some o → (∀ e ∈ o.after.toList, Region.binds .any e = true → D e.on) → (aheads l [])[j]? = some x → ∀ i, x.testBit i = true → D i := by
  obtain ⟨h1, _, h3⟩ := aheads_at l []
  intro n
  induction n with
  | zero => intro j o x hj; omega
  | succ n ih =>
    intro j o x hj ho he hx i hi
    have h := h3 j o ho
    rw [List.length_nil, Nat.zero_add] at h
    rw [hx] at h
    cases h
    refine ahead1_bits _ o.after.toList 0 (fun i hi => absurd hi (zb i)) (fun e hee hb => ⟨he e hee hb, fun y hy k hk => ?_⟩) i hi
    rw [List.getElem?_take] at hy
    split at hy
    · rename_i hlt
      have hlen : e.on < l.length := by
        have := (List.getElem?_eq_some_iff.1 hy).1
        rw [h1, List.length_nil, Nat.zero_add] at this
        exact this
      obtain ⟨oe, hoe⟩ : ∃ oe, l[e.on]? = some oe := ⟨_, List.getElem?_eq_getElem hlen⟩
      exact ih e.on oe y (by omega) hoe (hD e.on oe (he e hee hb) hoe) hy k hk
    · cases hy
/-! static looks at a region whose order is drawn -/
noncomputable def drawOk (ops : Array Oper) : Bool := (List.range ops.size).all fun j => match ops[j]? with
  | some oj => oj.after.toList.all (fun e => !Region.binds .any e || decide (e.on < j)) && (List.range j).all fun i => ((aheads ops.toList []).getD j 0).testBit i || (match ops[i]? with
    | some oi => oi.apart ops oj
    | none => true)
  | none => true
theorem drawOk_at {ops : Array Oper} (h : drawOk ops = true) {j : Nat} {oj : Oper} (hj : ops[j]? = some oj) : (∀ e ∈ oj.after.toList, Region.binds .any e = true → e.on < j) ∧ ∀ i oi, i < j → ops[i]? = some oi → ((aheads ops.toList []).getD j 0).testBit i = false → oi.apart ops oj = true := by
  unfold drawOk at h
  rw [List.all_eq_true] at h
  have hlt : j < ops.size := (Array.getElem?_eq_some_iff.1 hj).1
  have h := h j (List.mem_range.2 hlt)
  rw [hj] at h
  simp only [Bool.and_eq_true] at h
  obtain ⟨h1, h2⟩ := h
  rw [List.all_eq_true] at h1 h2
  refine ⟨fun e he hb => ?_, fun i oi hi hoi hb => ?_⟩
  · have := h1 e he
    rw [hb] at this
    simpa using this
  · have := h2 i (List.mem_range.2 hi)
    rw [hb, hoi] at this
    simpa using this
/-! the run in the text's order, told -/
structure Tr1 where
  tm : Tm
  h : Hp
  nx : Nat
section
variable {T : Tab} {env : Nat → Value} {tm tm' : Tm} {call : Cal} {s s' : St} {kp : Nat}
/-- steps one behind the other -/
structure Told (T : Tab) (call : Cal) (kp : Nat) (ops : List Oper) (bf : List Nat) (f : Nat → Tr1) (rd wr : Nat → Nat) (j0 j1 : Nat) : Prop where
  step : ∀ j, j0 ≤ j → j < j1 → ∃ o, ops[j]? = some o ∧ stepO o T call kp ops (f j).tm ⟨(f j).h, (f j).nx, 0, 0⟩ = .ok (f (j + 1)).tm ⟨(f (j + 1)).h, (f (j + 1)).nx, rd j, wr j⟩
def lgs (f : Nat → Tr1) (rd wr : Nat → Nat) : Nat → List Lg
  | 0 => []
  | j + 1 => ⟨j, rd j, wr j ||| news (f j).nx (f (j + 1)).nx⟩ :: lgs f rd wr j
theorem lgs_congr {f f' : Nat → Tr1} {rd rd' wr wr' : Nat → Nat} : ∀ {n : Nat}, (∀ i, i < n → rd i = rd' i ∧ wr i = wr' i) → (∀ i, i ≤ n → f i = f' i) → lgs f rd wr n = lgs f' rd' wr' n
  | 0, _, _ => rfl
  | n + 1, h, hf => by
    unfold lgs
    rw [lgs_congr (fun i hi => h i (by omega)) (fun i hi => hf i (by omega)), (h n (by omega)).1, (h n (by omega)).2, hf n (by omega), hf (n + 1) (by omega)]
theorem told {ops : List Oper} {bf0 : List Nat} : ∀ (l : List Oper) (j : Nat) (f : Nat → Tr1) (rd wr : Nat → Nat) (s : St), ops.drop j = l → j ≤ ops.length → (f j).h = s.h → (f j).nx = s.nx → stepsD T call kp ops l (bf0.drop j) j (lgs f rd wr j) (f j).tm s = .ok tm' s' →
    ∃ (f' : Nat → Tr1) (rd' wr' : Nat → Nat), (∀ i, i ≤ j → f' i = f i) ∧ (∀ i, i < j → rd' i = rd i ∧ wr' i = wr i) ∧ Told T call kp ops bf0 f' rd' wr' j ops.length ∧ (∀ i, j ≤ i → i < ops.length → apart (bf0.getD i 0) (rd' i) (wr' i) (lgs f' rd' wr' i) = true) ∧ f' ops.length = ⟨tm', s'.h, s'.nx⟩
  | [], j, f, rd, wr, s, hd, hj, h1, h2, h => by
    have hl : ops.length = j := by
      have := congrArg List.length hd
      rw [List.length_drop, List.length_nil] at this
      omega
    cases h
    refine ⟨f, rd, wr, fun _ _ => rfl, fun _ _ => ⟨rfl, rfl⟩, ⟨fun i hi hi' => by omega⟩, fun i hi hi' => by omega, ?_⟩
    rw [hl, ← h1, ← h2]
  | o :: l, j, f, rd, wr, s, hd, hj, h1, h2, h => by
    have hlt : j < ops.length := by
      have := congrArg List.length hd
      rw [List.length_drop, List.length_cons] at this
      omega
    have hoj : ops[j]? = some o := by
      have := congrArg (fun l : List Oper => l[0]?) hd
      simp only [List.getElem?_drop, Nat.add_zero, List.getElem?_cons_zero] at this
      exact this
    obtain ⟨tm1, s1, e1, e2, e3⟩ := stepD_ok h
    have hbf : headOr (bf0.drop j) 0 = bf0.getD j 0 := by rw [← drp_eq]; exact at_drop bf0 0 j
    rw [hbf] at e2
    have htl : (bf0.drop j).tail = bf0.drop (j + 1) := by rw [List.tail_drop]
    rw [htl] at e3
    let f1 : Nat → Tr1 := fun i => if i = j + 1 then ⟨tm1, s1.h, s1.nx⟩ else f i
    let rd1 : Nat → Nat := fun i => if i = j then s1.rd else rd i
    let wr1 : Nat → Nat := fun i => if i = j then s1.wr else wr i
    have hf1 : ∀ i, i ≤ j → f1 i = f i := fun i hi => if_neg (by omega)
    have hf1' : f1 (j + 1) = ⟨tm1, s1.h, s1.nx⟩ := if_pos rfl
    have hr1 : ∀ i, i < j → rd1 i = rd i ∧ wr1 i = wr i := fun i hi => ⟨if_neg (by omega), if_neg (by omega)⟩
    have hr1' : rd1 j = s1.rd ∧ wr1 j = s1.wr := ⟨if_pos rfl, if_pos rfl⟩
    have hlg : lgs f1 rd1 wr1 (j + 1) = ⟨j, s1.rd, s1.wr ||| news s.nx s1.nx⟩ :: lgs f rd wr j := by
      show (⟨j, rd1 j, wr1 j ||| news (f1 j).nx (f1 (j + 1)).nx⟩ :: lgs f1 rd1 wr1 j : List Lg) = _
      rw [hr1'.1, hr1'.2, hf1', hf1 j (Nat.le_refl _), h2, lgs_congr hr1 hf1]
    obtain ⟨f', rd', wr', q1, q2, q3, q4, q5⟩ := told l (j + 1) f1 rd1 wr1 ⟨s1.h, s1.nx, s.rd ||| s1.rd, s.wr ||| s1.wr⟩ (by rw [← List.tail_drop, hd]; rfl) hlt (by rw [hf1']) (by rw [hf1']) (by rw [hlg, hf1']; exact e3)
    refine ⟨f', rd', wr', fun i hi => by rw [q1 i (by omega), hf1 i hi], fun i hi => ⟨((q2 i (by omega)).1).trans (hr1 i hi).1, ((q2 i (by omega)).2).trans (hr1 i hi).2⟩, ⟨fun i hi hi' => ?_⟩, fun i hi hi' => ?_, q5⟩
    · by_cases e : i = j
      · subst e
        refine ⟨o, hoj, ?_⟩
        rw [q1 i (by omega), q1 (i + 1) (by omega), hf1', hf1 i (Nat.le_refl _), (q2 i (by omega)).1, (q2 i (by omega)).2, hr1'.1, hr1'.2, h1, h2]
        exact e1
      · exact q3.step i (by omega) hi'
    · by_cases e : i = j
      · subst e
        rw [(q2 i (by omega)).1, (q2 i (by omega)).2, hr1'.1, hr1'.2, lgs_congr (fun k hk => ⟨((q2 k (by omega)).1).trans (hr1 k hk).1, ((q2 k (by omega)).2).trans (hr1 k hk).2⟩) (fun k hk => by rw [q1 k (by omega), hf1 k hk])]
        exact e2
      · exact q4 i (by omega) hi'
end
end Ev
end Go.Proofs.YtjmifcnfnihhnaaGreatDoor
set_option linter.unusedVariables false
set_option linter.unusedSimpArgs false
namespace Go.Proofs.YtjmifcnfnihhnaaGreatDoor
namespace Ev
/-! bits -/
theorem kept_bit (m k : Nat) : kept m k = 0 ↔ m.testBit k = false := by
  show (m >>> k) &&& 1 = 0 ↔ _
  unfold Nat.testBit
  rw [Nat.and_comm]
  cases h : (1 &&& (m >>> k)) with
  | zero => simp
  | succ q => simp
theorem news_bit {a b x : Nat} (h : a ≤ b) : (news a b).testBit x = true ↔ a ≤ x ∧ x < b := by
  have e : news a b = (2 ^ (b - a) - 1) <<< a := by
    show 1 <<< b - 1 <<< a = _
    rw [Nat.one_shiftLeft, Nat.one_shiftLeft, Nat.shiftLeft_eq, Nat.sub_mul, Nat.one_mul, ← Nat.pow_add, show b - a + a = b by omega]
  rw [e, Nat.testBit_shiftLeft, Nat.testBit_two_pow_sub_one, Bool.and_eq_true, decide_eq_true_eq, decide_eq_true_eq]
  omega
theorem and_zero {a b x : Nat} (h : a &&& b = 0) (ha : a.testBit x = true) : b.testBit x = false := by
  have := congrArg (fun q => q.testBit x) h
  simp only [Nat.testBit_and, ha, Bool.true_and, Nat.zero_testBit] at this
  exact this
theorem or_zero' {a b : Nat} (h : a ||| b = 0) : a = 0 ∧ b = 0 := by
  constructor
  · apply Nat.eq_of_testBit_eq
    intro i
    have := congrArg (fun q => q.testBit i) h
    simp only [Nat.testBit_or, Nat.zero_testBit, Bool.or_eq_false_iff] at this
    rw [Nat.zero_testBit]; exact this.1
  · apply Nat.eq_of_testBit_eq
    intro i
    have := congrArg (fun q => q.testBit i) h
    simp only [Nat.testBit_or, Nat.zero_testBit, Bool.or_eq_false_iff] at this
    rw [Nat.zero_testBit]; exact this.2
theorem apart_at {f : Nat → Tr1} {rd wr : Nat → Nat} {bf r w : Nat} : ∀ {n : Nat}, apart bf r w (lgs f rd wr n) = true → ∀ i, i < n → bf.testBit i = false → clash r w (rd i) (wr i ||| news (f i).nx (f (i + 1)).nx) = 0
  | 0, _, i, hi, _ => by omega
  | n + 1, h, i, hi, hb => by
    have h : @Nat.rec (fun _ => Bool) (@Nat.rec (fun _ => Bool) (apart bf r w (lgs f rd wr n)) (fun _ _ => false) (clash r w (rd n) (wr n ||| news (f n).nx (f (n + 1)).nx))) (fun _ _ => apart bf r w (lgs f rd wr n)) (kept bf n) = true := h
    by_cases e : i = n
    · subst e
      rw [(kept_bit bf i).2 hb] at h
      cases hc : clash r w (rd i) (wr i ||| news (f i).nx (f (i + 1)).nx) with
      | zero => rfl
      | succ q => rw [hc] at h; cases h
    · refine apart_at (n := n) ?_ i (by omega) hb
      cases hk : kept bf n with
      | succ q => rw [hk] at h; exact h
      | zero =>
        rw [hk] at h
        cases hc : clash r w (rd n) (wr n ||| news (f n).nx (f (n + 1)).nx) with
        | zero => rw [hc] at h; exact h
        | succ q => rw [hc] at h; cases h
theorem clash_zero {r w gr gw x : Nat} (h : clash r w gr gw = 0) : (gw.testBit x = true → r.testBit x = false ∧ w.testBit x = false) ∧ (w.testBit x = true → gr.testBit x = false ∧ gw.testBit x = false) := by
  have h : (gw &&& r) ||| ((gw &&& w) ||| (gr &&& w)) = 0 := h
  obtain ⟨h1, h2⟩ := or_zero' h
  obtain ⟨h2, h3⟩ := or_zero' h2
  refine ⟨fun hx => ⟨and_zero h1 hx, and_zero h2 hx⟩, fun hx => ⟨?_, ?_⟩⟩
  · rw [Nat.and_comm] at h3; exact and_zero h3 hx
  · rw [Nat.and_comm] at h2; exact and_zero h2 hx
/-! what is kept -/
structure KI (kp : Nat) (tm : Tm) : Prop where
  kt : ∀ k, k < 512 → kept kp k ≠ 0 → tget k tm = get3 k tm.v
  un : ∀ k, k < 512 → kept kp k = 0 → get3 k tm.v = .u
theorem KI.put {kp : Nat} {tm tm' : Tm} {dst : Option Tmp} (h : KI kp tm) (hd : ∀ d, dst = some d → d < 512) (ht : TmS kp dst tm tm') : KI kp tm' := by
  obtain ⟨v, rfl⟩ := ht
  cases dst with
  | none => exact h
  | some d =>
    have hd : @LT.lt Nat _ d 512 := hd d rfl
    refine ⟨fun k hk hk0 => ?_, fun k hk hk0 => ?_⟩
    · rw [tget_put hd hk, v_put hd hk]
      by_cases e : k = d
      · rw [if_pos e, if_pos ⟨e, by rw [← e]; exact hk0⟩]
      · rw [if_neg e, if_neg (fun h => e h.1)]; exact h.kt k hk hk0
    · rw [v_put hd hk, if_neg (fun h => h.2 (by rw [← h.1]; exact hk0))]
      exact h.un k hk hk0
section
variable {T : Tab} {env : Nat → Value} {ρ ρ' : Rh} {w w' : World} {tm tm' : Tm} {call : Cal} {s s' : St} {kp n N : Nat} {a : Act} {h h' : Hp}
theorem ER.ki (hE : ER env ρ kp n tm a) : KI kp (Ev.clr tm) := by
  cases tm
  exact ⟨fun k _ _ => rfl, hE.un⟩
theorem ER.of (hs : a.tmps.size = n) (hn : n ≤ 512) (hd : a.defers = []) (hk : KI kp tm) (h : ∀ k, k < n → VA env ρ (tget k tm) (a.tmps.getD k undef)) : ER env ρ kp n tm a :=
  ⟨hs, hn, h, fun k hk' => by
    by_cases e : kept kp k = 0
    · rw [hk.un k (by omega) e]; trivial
    · rw [← hk.kt k (by omega) e]; exact h k hk', hk.un, hd⟩
theorem Live.congr (he : ∀ x, x < 32768 → get5 x h = get5 x h') (i : Nat) : Live h i ↔ Live h' i := by
  unfold Live
  exact and_congr_right fun hi => by rw [he i hi]
theorem Post.congr {n' : Nat} {t : Hp} (hp : Post env ρ h n w ρ' t n' w') (he : ∀ x, x < 32768 → get5 x t = get5 x h') : Post env ρ h n w ρ' h' n' w' :=
  ⟨hp.ext, hp.new, ⟨fun i hl => by rw [← he i hl.1]; exact hp.hr.blk i ((Live.congr he i).2 hl), fun i hi hd => by rw [← he i hi] at hd ⊢; exact hp.hr.ded i hi hd, fun i j k z z' h1 h2 => hp.hr.inj i j k z z' ((Live.congr he i).2 h1) ((Live.congr he j).2 h2), hp.hr.dom⟩, hp.keep, fun i k z hl => hp.orig i k z ((Live.congr he i).2 hl), hp.low, fun g k z hg hl e => by obtain ⟨q1, q2⟩ := hp.ro g k z hg hl e; exact ⟨(Live.congr he g).1 q1, q2⟩⟩
theorem Post.wide {n' m m' : Nat} (hp : Post env ρ h n w ρ' h' n' w') (h1 : m ≤ n) (h2 : n' ≤ m') : Post env ρ h m w ρ' h' m' w' :=
  ⟨hp.ext, fun i x e => (hp.new i x e).imp id fun q => ⟨by omega, by omega⟩, hp.hr, hp.keep, hp.orig, hp.low, hp.ro⟩
theorem Post.trans' {ρ'' : Rh} {h'' : Hp} {w'' : World} {n' : Nat} (h1 : Post env ρ h n w ρ' h' n' w') (h2 : Post env ρ' h' n w' ρ'' h'' n' w'') : Post env ρ h n w ρ'' h'' n' w'' := by
  refine ⟨h1.ext.trans h2.ext, fun i x e => ?_, h2.hr, fun k hk hl => ?_, fun i k z hl e hk => ?_, h1.low.trans h2.low, fun g k z hg hl e => ?_⟩
  · rcases h2.new i x e with e | e
    · exact h1.new i x e
    · exact .inr e
  · rw [h2.keep k (Nat.lt_of_lt_of_le hk h1.size) (fun i z hi e => ?_), h1.keep k hk hl]
    obtain ⟨j, z', hj, e'⟩ := h1.orig i k z hi e hk
    exact hl j z' hj e'
  · obtain ⟨j, z', hj, e'⟩ := h2.orig i k z hl e (Nat.lt_of_lt_of_le hk h1.size)
    exact h1.orig j k z' hj e' hk
  · obtain ⟨q1, q2⟩ := h1.ro g k z hg hl e
    obtain ⟨q3, q4⟩ := h2.ro g k z hg q1 (h1.ext _ _ e)
    exact ⟨q3, q4.trans q2⟩
theorem operOk_at {o : Oper} (h : operOk N n o = true) : (∀ d, o.dst = some d → d < n) ∧ ∀ x ∈ o.op.operands.toList, tmpLt N n x = true := by
  unfold operOk at h
  rw [Bool.and_eq_true, List.all_eq_true] at h
  refine ⟨fun d hd => ?_, h.2⟩
  rw [hd] at h
  exact blt_t h.1
theorem yldD_at {ops : Array Oper} {j d : Nat} (h : yldD ops.toList j = some d) : ∃ o, ops[j]? = some o ∧ o.dst = some d := by
  unfold yldD at h
  rw [nth_eq, Array.getElem?_toList] at h
  cases hj : ops[j]? with
  | none => rw [hj] at h; cases h
  | some o => rw [hj] at h; exact ⟨o, rfl, h⟩
theorem looks_op {ops : Array Oper} {o : Oper} {t : Nat} (h : Operand.tmp t ∈ o.op.operands.toList) : t ∈ o.looksAt ops := List.mem_append_left _ (List.mem_filterMap.2 ⟨.tmp t, h, rfl⟩)
theorem looks_gd {ops : Array Oper} {o o' : Oper} {j d : Nat} {want : Bool} (hg : o.guard = some (j, want)) (hj : ops[j]? = some o') (hd : o'.dst = some d) : d ∈ o.looksAt ops := by
  unfold Oper.looksAt
  rw [hg]
  exact List.mem_append_right _ (by simp [hj, hd])
/-- how many are not listed -/
def left (listed : Array Bool) : Nat := listed.toList.count false
theorem left_set {listed : Array Bool} {i : Nat} (h : listed.getD i true = false) : left (listed.setIfInBounds i true) + 1 = left listed := by
  have hlt : i < listed.size := by
    rcases Nat.lt_or_ge i listed.size with h' | h'
    · exact h'
    · rw [Array.getD_eq_getD_getElem?, Array.getElem?_eq_none h'] at h; cases h
  have hi : listed.toList[i]'(by rw [Array.length_toList]; exact hlt) = false := by
    rw [Array.getD_eq_getD_getElem?, Array.getElem?_eq_getElem hlt] at h
    simpa using h
  unfold left
  rw [Array.toList_setIfInBounds, List.count_set (by rw [Array.length_toList]; exact hlt), hi]
  have : 0 < listed.toList.count false := List.count_pos_iff.2 (by rw [← hi]; exact List.getElem_mem _)
  have e1 : ((false : Bool) == false) = true := rfl
  have e2 : ((true : Bool) == false) = false := rfl
  rw [e1, e2, if_pos rfl]
  simp only [Bool.false_eq_true, if_false]
  omega
theorem left_zero {listed : Array Bool} (h : left listed = 0) {j : Nat} (hj : j < listed.size) : listed.getD j false = true := by
  have := List.count_eq_zero.1 h
  rw [Array.getD_eq_getD_getElem?, Array.getElem?_eq_getElem hj]
  cases hb : listed[j] with
  | true => rfl
  | false => exact absurd (by rw [← hb]; exact Array.getElem_mem_toList hj) this
end
end Ev
end Go.Proofs.YtjmifcnfnihhnaaGreatDoor
set_option linter.unusedVariables false
set_option linter.unusedSimpArgs false
namespace Go.Proofs.YtjmifcnfnihhnaaGreatDoor
namespace Ev
section
variable {T : Tab} {env : Nat → Value} {ρ ρ' : Rh} {w w' : World} {tm tm' : Tm} {call : Cal} {s s' : St} {kp n : Nat} {N : Gs} {a : Act} {h h' : Hp}
theorem LookR.of (hE : ER env ρ kp n tm a) (hG : Gl N ρ h w) {ops : Array Oper} (hall : ∀ o ∈ ops.toList, operOk N.n n o = true) {o : Oper} (ho : o ∈ ops.toList) : LookR env ρ ops.toList o tm a := by
  refine ⟨fun x hx => hE.op hG ((operOk_at (hall o ho)).2 x hx), fun j want d hg hd => ?_⟩
  obtain ⟨o', h1, h2⟩ := yldD_at hd
  have hlt := (operOk_at (hall o' (by rw [← Array.getElem?_toList] at h1; exact List.mem_of_getElem? h1))).1 d h2
  exact ⟨hE.at' d hlt, by rw [hE.size]; exact hlt⟩
/-- a region in the text's order -/
theorem steps_sim (hk : Ok T env) (hC : SimC T env N call) (hloc : ∀ f args, Loc (call f args)) {ops : Array Oper} (hall : ∀ o ∈ ops.toList, operOk N.n n o = true) {Q : Exit → Act → World → Prop} : ∀ (l : List Oper) (j : Nat) (tm : Tm) (s : St) (a : Act) (w : World) (ρ : Rh), ops.toList.drop j = l → stepsL T call kp ops.toList l tm s = .ok tm' s' → s.nx ≤ 32768 → ER env ρ kp n tm a → Gl N ρ s.h w → HR env ρ s.h w → Free ρ s.nx s'.nx → (∀ a' ρ' w', ER env ρ' kp n tm' a' → Post env ρ s.h s.nx w ρ' s'.h s'.nx w' → Q .normal a' w') → wpOps T.P ops Q (List.range' j l.length) a w
  | [], j, tm, s, a, w, ρ, hd, h, hsx, hE, hG, hr, hf, hQ => by
    cases h
    exact hQ a ρ w hE (Post.refl hr _)
  | o :: l, j, tm, s, a, w, ρ, hd, h, hsx, hE, hG, hr, hf, hQ => by
    obtain ⟨tm1, s1, h1, h2⟩ := bnd_ok (f := stepsL T call kp ops.toList l) h
    have hoj : ops[j]? = some o := by
      have := congrArg (fun l : List Oper => l[0]?) hd
      simp only [List.getElem?_drop, Nat.add_zero, List.getElem?_cons_zero, Array.getElem?_toList] at this
      exact this
    have hom : o ∈ ops.toList := by rw [← Array.getElem?_toList] at hoj; exact List.mem_of_getElem? hoj
    have hdl := (operOk_at (hall o hom)).1
    obtain ⟨_, _, n1, m1, _⟩ := loc_stepO (T := T) (tm := tm) hloc o kp ops.toList s tm1 s1 h1 hsx
    obtain ⟨_, _, n2, m2, _⟩ := loc_stepsL (T := T) hloc kp ops.toList l tm1 s1 tm' s' h2 m1
    obtain ⟨ht, hs⟩ := step_sim hk hC hoj h1
    rw [List.length_cons, List.range'_succ, wpOps_cons]
    refine hs (fun d e => Nat.lt_of_lt_of_le (hdl d e) hE.le) hsx hG (LookR.of hE hG hall hom) hr (hf.sub n2) fun v' ρ1 w1 hv hp => ?_
    refine steps_sim hk hC hloc hall l (j + 1) tm1 s1 _ w1 ρ1 (by rw [← List.tail_drop, hd]; rfl) h2 m1 ((hE.ext hp.ext).put hdl ht hv) (hG.step hp) hp.hr (hf.step hp n1 n2) fun a' ρ' w' hE' hp' => hQ a' ρ' w' hE' (hp.trans hp' n1 n2)
/-- a region whose order is drawn -/
theorem draw_sim (hk : Ok T env) (hC : SimC T env N call) (hloc : ∀ f args, Loc (call f args)) {ops : Array Oper} (hall : ∀ o ∈ ops.toList, operOk N.n n o = true) (hdr : drawOk ops = true) (h : stepsD T call kp ops.toList ops.toList (aheads ops.toList []) 0 [] tm s = .ok tm' s') (hsx : s.nx ≤ 32768) (hE : ER env ρ kp n tm a) (hKI : KI kp tm) (hG : Gl N ρ s.h w) (hr : HR env ρ s.h w) (hf : Free ρ s.nx s'.nx) {Q : Exit → Act → World → Prop} (hQ : ∀ a' ρ' w', ER env ρ' kp n tm' a' → Post env ρ s.h s.nx w ρ' s'.h s'.nx w' → Q .normal a' w') :
    wpAny T.P .any ops Q ops.size (Array.replicate ops.size false) a w := by
  obtain ⟨f, rd, wr, hf0, _, ⟨hstep⟩, hap, hfN⟩ := told (T := T) (call := call) (kp := kp) (ops := ops.toList) (bf0 := aheads ops.toList []) (tm' := tm') (s' := s') ops.toList 0 (fun _ => ⟨tm, s.h, s.nx⟩) (fun _ => 0) (fun _ => 0) s rfl (Nat.zero_le _) rfl rfl h
  have hf0 : f 0 = ⟨tm, s.h, s.nx⟩ := hf0 0 (Nat.le_refl _)
  obtain ⟨L, hL⟩ : ∃ L, ops.size = L := ⟨_, rfl⟩
  have hLl : ops.toList.length = L := by rw [Array.length_toList, hL]
  rw [hLl] at hstep hap hfN
  have hle := hE.le
  -- each step
  have nx_le : ∀ j, j ≤ L → (f j).nx ≤ 32768 := by
    intro j
    induction j with
    | zero => intro _; rw [hf0]; exact hsx
    | succ j ih =>
      intro hj
      obtain ⟨o, _, e⟩ := hstep j (Nat.zero_le _) (by omega)
      obtain ⟨_, _, _, m1, _⟩ := loc_stepO (T := T) (tm := (f j).tm) hloc o kp ops.toList _ _ _ e (ih (by omega))
      exact m1
  have fact : ∀ j, j < L → ∃ o, ops[j]? = some o ∧ o ∈ ops.toList ∧ stepO o T call kp ops.toList (f j).tm ⟨(f j).h, (f j).nx, 0, 0⟩ = .ok (f (j + 1)).tm ⟨(f (j + 1)).h, (f (j + 1)).nx, rd j, wr j⟩ ∧ TmS kp o.dst (f j).tm (f (j + 1)).tm ∧ (f j).nx ≤ (f (j + 1)).nx ∧ (∀ i, (rd j).testBit i = true ∨ (wr j).testBit i = true → i < (f (j + 1)).nx) ∧
      (∀ i, i < 32768 → (wr j).testBit i = false → ¬ ((f j).nx ≤ i ∧ i < (f (j + 1)).nx) → get5 i (f (j + 1)).h = get5 i (f j).h) ∧
      ∀ t : St, t.nx = (f j).nx → (∀ i, i < 32768 → ((rd j).testBit i = true ∨ (wr j).testBit i = true ∨ ((f j).nx ≤ i ∧ i < (f (j + 1)).nx)) → get5 i t.h = get5 i (f j).h) → ∃ t', stepO o T call kp ops.toList (f j).tm t = .ok (f (j + 1)).tm t' ∧ t'.nx = (f (j + 1)).nx ∧ ∀ i, i < 32768 → get5 i t'.h = if (wr j).testBit i = true ∨ ((f j).nx ≤ i ∧ i < (f (j + 1)).nx) then get5 i (f (j + 1)).h else get5 i t.h := by
    intro j hj
    obtain ⟨o, ho, e⟩ := hstep j (Nat.zero_le _) hj
    obtain ⟨dr, dw, n1, m1, b1, r1, w1, k1, f1⟩ := loc_stepO (T := T) (tm := (f j).tm) hloc o kp ops.toList _ _ _ e (nx_le j (by omega))
    simp only [Nat.zero_or] at r1 w1 n1 b1 k1 f1
    subst r1
    subst w1
    have ho' : ops[j]? = some o := by rw [Array.getElem?_toList] at ho; exact ho
    refine ⟨o, ho', List.mem_of_getElem? ho, e, (step_sim hk hC ho' e).1, n1, b1, k1, fun t ht hg => ?_⟩
    obtain ⟨t', e1, e2, _, _, e5⟩ := f1 t ht hg
    exact ⟨t', e1, e2, e5⟩
  have mono : ∀ i j, i ≤ j → j ≤ L → (f i).nx ≤ (f j).nx := by
    intro i j hij
    induction j with
    | zero => intro _; have : i = 0 := by omega
              rw [this]; exact Nat.le_refl _
    | succ j ih =>
      intro hj
      by_cases e : i = j + 1
      · rw [e]; exact Nat.le_refl _
      · obtain ⟨_, _, _, _, _, n1, _⟩ := fact j (by omega)
        exact Nat.le_trans (ih (by omega) (by omega)) n1
  have hki : ∀ j, j ≤ L → KI kp (f j).tm := by
    intro j
    induction j with
    | zero => intro _; rw [hf0]; exact hKI
    | succ j ih =>
      intro hj
      obtain ⟨o, _, hom, _, ht, _⟩ := fact j (by omega)
      exact (ih (by omega)).put (fun d e => Nat.lt_of_lt_of_le ((operOk_at (hall o hom)).1 d e) hle) ht
  -- who writes what
  let W : Nat → Nat → Prop := fun j i => (wr j).testBit i = true ∨ ((f j).nx ≤ i ∧ i < (f (j + 1)).nx)
  let Wt : Nat → Nat → Prop := fun j t => (ops[j]?).bind (·.dst) = some t
  have unord : ∀ i j, i < j → j < L → ((aheads ops.toList []).getD j 0).testBit i = false → ∀ x, (W i x → ¬ ((rd j).testBit x = true ∨ W j x)) ∧ (W j x → ¬ ((rd i).testBit x = true ∨ W i x)) := by
    intro i j hij hj hb x
    have hc := clash_zero (x := x) (apart_at (hap j (Nat.zero_le _) hj) i hij hb)
    obtain ⟨_, _, _, _, _, ni, bi, _⟩ := fact i (by omega)
    obtain ⟨_, _, _, _, _, nj, bj, _⟩ := fact j hj
    have mij := mono (i + 1) j (by omega) (by omega)
    rw [Nat.testBit_or, Bool.or_eq_true, news_bit ni, Bool.or_eq_false_iff] at hc
    have wb : W i x → x < (f (i + 1)).nx := fun hw => hw.elim (fun e => bi x (.inr e)) (fun e => e.2)
    refine ⟨fun hw hx => ?_, fun hw hx => ?_⟩
    · obtain ⟨c1, c2⟩ := hc.1 hw
      rcases hx with hx | hx | hx
      · rw [c1] at hx; cases hx
      · rw [c2] at hx; cases hx
      · have := wb hw; omega
    · rcases hw with hw | hw
      · obtain ⟨c1, c2, c3⟩ := hc.2 hw
        rcases hx with hx | hx | hx
        · rw [c1] at hx; cases hx
        · rw [c2] at hx; cases hx
        · have := (news_bit (x := x) ni).2 hx; rw [c3] at this; cases this
      · rcases hx with hx | hx | hx
        · have := bi x (.inl hx); omega
        · have := bi x (.inr hx); omega
        · omega
  have wt_at : ∀ {j t o}, ops[j]? = some o → (Wt j t ↔ o.dst = some t) := fun {j t o} ho => by show (ops[j]?).bind (·.dst) = some t ↔ _; rw [ho]; rfl
  have keepH : ∀ x, x < 32768 → ∀ j, j < L → ¬ W j x → (fun j x => get5 x (f j).h) (j + 1) x = (fun j x => get5 x (f j).h) j x := fun x hx j hj hw => by
    obtain ⟨_, _, _, _, _, _, _, k1, _⟩ := fact j hj
    exact k1 x hx (Bool.eq_false_iff.2 fun e => hw (.inl e)) fun e => hw (.inr e)
  have keepT : ∀ t, t < n → ∀ j, j < L → ¬ Wt j t → (fun j t => tget t (f j).tm) (j + 1) t = (fun j t => tget t (f j).tm) j t := fun t ht j hj hw => by
    obtain ⟨o, ho, hom, _, ⟨v, e⟩, _⟩ := fact j hj
    show tget t (f (j + 1)).tm = tget t (f j).tm
    rw [e]
    cases hd : o.dst with
    | none => rfl
    | some d =>
      rw [tget_put (Nat.lt_of_lt_of_le ((operOk_at (hall o hom)).1 d hd) hle) (by omega), if_neg (fun e => hw ((wt_at ho).2 (by rw [hd, e])))]
  -- the region's rounds
  have main : ∀ (fuel : Nat) (listed : Array Bool) (a1 : Act) (w1 : World), left listed = fuel → listed.size = L → (∀ j o, listed.getD j false = true → ops.toList[j]? = some o → ∀ e ∈ o.after.toList, Region.binds .any e = true → listed.getD e.on false = true) →
      (∃ (ρ1 : Rh) (t : Hp), Post env ρ s.h s.nx w ρ1 t s'.nx w1 ∧ (∀ x, x < 32768 → get5 x t = cont (fun j x => get5 x (f j).h) W (fun j => listed.getD j false) x L) ∧ (∀ i y, ρ1 i = some y → ρ i = some y ∨ ∃ j, j < L ∧ listed.getD j false = true ∧ (f j).nx ≤ i ∧ i < (f (j + 1)).nx) ∧ a1.tmps.size = n ∧ a1.defers = [] ∧ ∀ q, q < n → VA env ρ1 (cont (fun j t => tget t (f j).tm) Wt (fun j => listed.getD j false) q L) (a1.tmps.getD q undef)) →
      wpAny T.P .any ops Q fuel listed a1 w1 := by
    intro fuel
    have fin : ∀ (listed : Array Bool) (a1 : Act) (w1 : World), (∀ j, j < L → listed.getD j false = true) → (∃ (ρ1 : Rh) (t : Hp), Post env ρ s.h s.nx w ρ1 t s'.nx w1 ∧ (∀ x, x < 32768 → get5 x t = cont (fun j x => get5 x (f j).h) W (fun j => listed.getD j false) x L) ∧ (∀ i y, ρ1 i = some y → ρ i = some y ∨ ∃ j, j < L ∧ listed.getD j false = true ∧ (f j).nx ≤ i ∧ i < (f (j + 1)).nx) ∧ a1.tmps.size = n ∧ a1.defers = [] ∧ ∀ q, q < n → VA env ρ1 (cont (fun j t => tget t (f j).tm) Wt (fun j => listed.getD j false) q L) (a1.tmps.getD q undef)) → Q .normal a1 w1 := by
      rintro listed a1 w1 hall' ⟨ρ1, t, hp, ht, _, hsz, hdf, hv⟩
      refine hQ a1 ρ1 w1 (ER.of hsz hle hdf (by have := hki L (Nat.le_refl _); rw [hfN] at this; exact this) fun k hk' => ?_) (hp.congr fun x hx => ?_)
      · have := hv k hk'
        rw [cont_all hall' (keepT k hk')] at this
        rw [hfN] at this
        exact this
      · rw [ht x hx, cont_all hall' (keepH x hx)]
        show get5 x (f L).h = _
        rw [hfN]
    have rdy : ∀ (listed : Array Bool), listed.size = L → Region.ready .any ops listed = [] → ∀ j, j < L → listed.getD j false = true := by
      intro listed hsz he j
      induction j using Nat.strongRecOn with
      | _ j ih =>
        intro hj
        cases hb : listed.getD j false with
        | true => rfl
        | false =>
          exfalso
          obtain ⟨o, ho, _⟩ := fact j hj
          have : j ∈ Region.ready .any ops listed := mem_ready.2 ⟨by
            rw [Array.getD_eq_getD_getElem?, Array.getElem?_eq_getElem (by omega)] at hb ⊢
            exact hb, o, ho, fun e he' hbd => ih e.on ((drawOk_at hdr ho).1 e (by simpa using he') hbd) (by have := (drawOk_at hdr ho).1 e (by simpa using he') hbd; omega)⟩
          rw [he] at this
          cases this
    induction fuel with
    | zero =>
      intro listed a1 w1 hl hsz hcl hI
      have hall' : ∀ j, j < L → listed.getD j false = true := fun j hj => left_zero hl (by omega)
      refine ⟨?_, fin listed a1 w1 hall' hI⟩
      cases hq : Region.ready .any ops listed with
      | nil => rfl
      | cons i l =>
        have hi : i ∈ Region.ready .any ops listed := by rw [hq]; exact List.mem_cons_self ..
        obtain ⟨h0, o, ho, _⟩ := mem_ready.1 hi
        have hlt : i < L := by rw [← hL]; exact (Array.getElem?_eq_some_iff.1 ho).1
        have := hall' i hlt
        rw [Array.getD_eq_getD_getElem?, Array.getElem?_eq_getElem (by omega)] at this h0
        rw [show (some listed[i]).getD true = (some listed[i]).getD false from rfl, this] at h0
        cases h0
    | succ fuel ih =>
      intro listed a1 w1 hl hsz hcl hI
      refine ⟨fun he => fin listed a1 w1 (rdy listed hsz he) hI, fun i hi => ?_⟩
      obtain ⟨h0, o, ho, hpre⟩ := mem_ready.1 hi
      have hlt : i < L := by rw [← hL]; exact (Array.getElem?_eq_some_iff.1 ho).1
      have h0f : listed.getD i false = false := by
        rw [Array.getD_eq_getD_getElem?, Array.getElem?_eq_getElem (by omega)] at h0 ⊢
        exact h0
      obtain ⟨ρ1, t, hp, ht, hdom, hsz1, hdf, hv⟩ := hI
      obtain ⟨o', ho', hom, hst, hts, hnx, hbd, _, hloc'⟩ := fact i hlt
      rw [ho] at ho'
      cases ho'
      have hol : ops.toList[i]? = some o := by rw [Array.getElem?_toList]; exact ho
      have hpre' : ∀ e ∈ o.after.toList, Region.binds .any e = true → listed.getD e.on false = true := fun e he hb => hpre e (by simpa using he) hb
      -- what is ahead has been listed; what is listed is not behind
      have bfx : ∀ j, j < L → ∃ x, (aheads ops.toList [])[j]? = some x ∧ (aheads ops.toList []).getD j 0 = x := fun j hj => by
        have hlen := (aheads_at ops.toList []).1
        rw [List.length_nil, Nat.zero_add, hLl] at hlen
        exact ⟨_, List.getElem?_eq_getElem (by omega), by rw [List.getD_eq_getElem?_getD, List.getElem?_eq_getElem (by omega)]; rfl⟩
      have ord1 : ∀ j, j < i → listed.getD j false = false → ((aheads ops.toList []).getD i 0).testBit j = false := fun j hj hjf => by
        obtain ⟨x, hx, hx'⟩ := bfx i hlt
        rw [hx']
        refine Bool.eq_false_iff.2 fun hb => ?_
        have := aheads_in (D := fun j => listed.getD j false = true) hcl (i + 1) i o x (by omega) hol hpre' hx j hb
        rw [hjf] at this
        cases this
      have ord2 : ∀ j, i < j → j < L → listed.getD j false = true → ((aheads ops.toList []).getD j 0).testBit i = false := fun j hj hjL hjt => by
        obtain ⟨x, hx, hx'⟩ := bfx j hjL
        obtain ⟨oj, hoj, _⟩ := fact j hjL
        have hojl : ops.toList[j]? = some oj := by rw [Array.getElem?_toList]; exact hoj
        rw [hx']
        refine Bool.eq_false_iff.2 fun hb => ?_
        have := aheads_in (D := fun j => listed.getD j false = true) hcl (j + 1) j oj x (by omega) hojl (hcl j oj hjt hojl) hx i hb
        rw [h0f] at this
        cases this
      have seen : ∀ x, x < 32768 → ((rd i).testBit x = true ∨ W i x) → get5 x t = get5 x (f i).h := fun x hx htch => by
        rw [ht x hx]
        refine cont_before (k := i) (by omega) (fun j hj hjL hjt hw => ?_) (fun j hj hw => ?_) (keepH x hx)
        · by_cases e : j = i
          · subst e; rw [h0f] at hjt; cases hjt
          · exact (unord i j (by omega) hjL (ord2 j (by omega) hjL hjt) x).2 hw htch
        · cases hjf : listed.getD j false with
          | true => rfl
          | false => exact absurd htch ((unord j i hj hlt (ord1 j hj hjf) x).1 hw)
      obtain ⟨t', e1, e2, e3⟩ := hloc' ⟨t, (f i).nx, 0, 0⟩ rfl fun x hx hd => seen x hx (by
        rcases hd with hd | hd | hd
        · exact .inl hd
        · exact .inr (.inl hd)
        · exact .inr (.inr hd))
      have hdl := (operOk_at (hall o hom)).1
      -- temps that are looked at
      have seenT : ∀ q, q < n → q ∈ o.looksAt ops → VA env ρ1 (tget q (f i).tm) (a1.tmps.getD q undef) := fun q hq hlk => by
        have := hv q hq
        rw [cont_before (S := fun j t => tget t (f j).tm) (k := i) (by omega) (fun j hj hjL hjt hw => ?_) (fun j hj hw => ?_) (keepT q hq)] at this
        · exact this
        · by_cases e : j = i
          · subst e; rw [h0f] at hjt; cases hjt
          · obtain ⟨oj, hoj, _⟩ := fact j hjL
            have hap' := (drawOk_at hdr hoj).2 i o (by omega) ho (ord2 j (by omega) hjL hjt)
            exact (Oper.apart_spec hap').2.2 q ((wt_at hoj).1 hw) hlk
        · cases hjf : listed.getD j false with
          | true => rfl
          | false =>
            obtain ⟨oj, hoj, _⟩ := fact j (by omega)
            have hap' := (drawOk_at hdr ho).2 j oj hj hoj (ord1 j hj hjf)
            exact absurd hlk ((Oper.apart_spec hap').1 q ((wt_at hoj).1 hw))
      have hG1 := hG.step hp
      have hlook : LookR env ρ1 ops.toList o (f i).tm a1 := by
        refine ⟨fun x hx => ?_, fun j want d hg hd => ?_⟩
        · have hx' := (operOk_at (hall o hom)).2 x hx
          cases x with
          | tmp q => exact seenT q (blt_t hx') (looks_op hx)
          | const v => exact ofV_V v
          | global g => obtain ⟨z, e⟩ := hG1.at' g (blt_t hx'); exact ⟨g, z, e, rfl⟩
          | func f => trivial
        · obtain ⟨o', q1, q2⟩ := yldD_at hd
          have hd' := (operOk_at (hall o' (by rw [← Array.getElem?_toList] at q1; exact List.mem_of_getElem? q1))).1 d q2
          exact ⟨seenT d hd' (looks_gd hg q1 q2), by rw [hsz1]; exact hd'⟩
      have hfree : Free ρ1 (f i).nx t'.nx := fun x hx hx' => by
        rw [e2] at hx'
        cases hρ : ρ1 x with
        | none => rfl
        | some y =>
          exfalso
          have hlo := mono 0 i (Nat.zero_le _) (by omega)
          rw [hf0] at hlo
          have hhi := mono (i + 1) L (by omega) (Nat.le_refl _)
          rw [hfN] at hhi
          simp only at hlo hhi
          rcases hdom x y hρ with q | ⟨j, hjL, hjt, hj1, hj2⟩
          · rw [hf x (by omega) (by omega)] at q; cases q
          · rcases Nat.lt_trichotomy j i with hji | hji | hji
            · have := mono (j + 1) i (by omega) (by omega); omega
            · subst hji; rw [h0f] at hjt; cases hjt
            · have := mono (i + 1) j (by omega) (by omega); omega
      obtain ⟨_, hsim⟩ := step_sim hk hC ho e1
      refine hsim (fun d e => Nat.lt_of_lt_of_le (hdl d e) hle) (nx_le i (by omega)) hG1 hlook hp.hr hfree fun v' ρ2 w2 hv' hp2 => ?_
      have hlset : ∀ j, (listed.setIfInBounds i true).getD j false = (listed.getD j false || decide (j = i)) := fun j => by
        by_cases e : j = i
        · subst e
          rw [decide_eq_true rfl, Bool.or_true, Array.getD_eq_getD_getElem?, Array.getElem?_setIfInBounds_self_of_lt (by omega)]; rfl
        · rw [decide_eq_false e, Bool.or_false]
          exact getD_set_ne false (fun e' => e e'.symm)
      refine ih _ _ _ (by have := left_set h0; omega) (by rw [Array.size_setIfInBounds]; exact hsz) (fun j oj hj hoj e he hb => ?_) ⟨ρ2, t'.h, ?_, fun x hx => ?_, fun x y hxy => ?_, ?_, ?_, fun q hq => ?_⟩
      · rw [hlset] at hj ⊢
        rw [Bool.or_eq_true] at hj ⊢
        rcases hj with hj | hj
        · exact .inl (hcl j oj hj hoj e he hb)
        · have := of_decide_eq_true hj
          subst this
          rw [hol] at hoj
          cases hoj
          exact .inl (hpre' e he hb)
      · have hlo := mono 0 i (Nat.zero_le _) (by omega)
        rw [hf0] at hlo
        have hhi := mono (i + 1) L (by omega) (Nat.le_refl _)
        rw [hfN] at hhi
        exact hp.trans' (hp2.wide hlo (by rw [e2]; exact hhi))
      · rw [e3 x hx, cont_more (D := fun j => listed.getD j false) (k := i) hlt hlset (fun hw j hj hjL hjt hw' => (unord i j hj hjL (ord2 j hj hjL hjt) x).2 hw' (.inr hw)), ← ht x hx]
      · rcases hp2.new x y hxy with q | q
        · rcases hdom x y q with q | ⟨j, q1, q2, q3⟩
          · exact .inl q
          · exact .inr ⟨j, q1, by rw [hlset, q2]; rfl, q3⟩
        · rw [e2] at q
          exact .inr ⟨i, hlt, by rw [hlset, decide_eq_true rfl, Bool.or_true], q⟩
      · cases hd : o.dst with
        | none => exact hsz1
        | some d => show (a1.tmps.setIfInBounds d v').size = n; rw [Array.size_setIfInBounds]; exact hsz1
      · cases hd : o.dst with
        | none => exact hdf
        | some d => exact hdf
      · rw [cont_more (D := fun j => listed.getD j false) (k := i) hlt hlset (fun hw j hj hjL hjt hw' => ?_)]
        · have hwi := wt_at (t := q) ho
          by_cases hd : o.dst = some q
          · rw [if_pos (hwi.2 hd), hd, put_at a1 q v' (by omega), if_pos rfl]
            exact hv' q hd
          · rw [if_neg (fun e => hd (hwi.1 e))]
            have := (hv q hq).ext hp2.ext
            cases hdd : o.dst with
            | none => exact this
            | some d =>
              rw [put_at a1 d v' (by rw [hsz1]; exact hdl d hdd), if_neg (fun e => hd (by rw [hdd, e]))]
              exact this
        · obtain ⟨oj, hoj, _⟩ := fact j hjL
          have hap' := (drawOk_at hdr hoj).2 i o hj ho (ord2 j hj hjL hjt)
          exact (Oper.apart_spec hap').2.1 q ((wt_at ho).1 hw) ((wt_at hoj).1 hw')
  rw [hL]
  have hrep : ∀ j, (Array.replicate L false).getD j false = false := fun j => by
    rw [Array.getD_eq_getD_getElem?, Array.getElem?_replicate]
    split <;> rfl
  refine main L _ a w (by unfold left; simp) (by simp) (fun j o hj => by rw [hrep] at hj; cases hj) ⟨ρ, s.h, ?_, fun x hx => ?_, fun i y e => .inl e, hE.size, hE.nod, fun q hq => ?_⟩
  · have := mono 0 L (Nat.zero_le _) (Nat.le_refl _)
    rw [hf0, hfN] at this
    exact (Post.refl hr s.nx).wide (Nat.le_refl _) this
  · rw [cont_before (S := fun j x => get5 x (f j).h) (k := 0) (Nat.zero_le _) (fun j _ _ hj => by rw [hrep] at hj; cases hj) (fun j hj => by omega) (keepH x hx)]
    show _ = get5 x (f 0).h
    rw [hf0]
  · rw [cont_before (S := fun j t => tget t (f j).tm) (k := 0) (Nat.zero_le _) (fun j _ _ hj => by rw [hrep] at hj; cases hj) (fun j hj => by omega) (keepT q hq)]
    show VA env ρ (tget q (f 0).tm) _
    rw [hf0]
    exact hE.at' q hq
end
end Ev
end Go.Proofs.YtjmifcnfnihhnaaGreatDoor
set_option linter.unusedVariables false
set_option linter.unusedSimpArgs false
namespace Go.Proofs.YtjmifcnfnihhnaaGreatDoor
namespace Ev
open Go.RowKit
noncomputable def codeOk (N n : Nat) : Code → Bool
  | .region _ ops dr => ops.toList.all (operOk N n) && (!dr || drawOk ops)
  | .seq a b => codeOk N n a && codeOk N n b
  | .cond x a b => tmpLt N n x && (codeOk N n a && codeOk N n b)
  | .block _ c => codeOk N n c
  | .loop c => codeOk N n c
  | _ => true
def exE : EX → Exit
  | .nm _ => .normal
  | .ex i _ => .exit i
  | .rt _ => .ret
def exT : EX → Tm
  | .nm t => t
  | .ex _ t => t
  | .rt t => t
section
variable {T : Tab} {env : Nat → Value} {ρ ρ' : Rh} {w w' : World} {tm tm' : Tm} {call : Cal} {s s' : St} {kp n : Nat} {N : Gs} {a : Act} {h h' : Hp}
theorem Post.base {w1 : World} {n' : Nat} (hp : Post env ρ h n w1 ρ' h' n' w') (hw : w1.heap = w.heap) (hl : Below 0 w w1) : Post env ρ h n w ρ' h' n' w' :=
  ⟨hp.ext, hp.new, hp.hr, fun k hk hl => by rw [hp.keep k (by rw [hw]; exact hk) hl, hw], fun i k z hl e hk => hp.orig i k z hl e (by rw [hw]; exact hk), hl.trans hp.low, fun g k z hg hl' e => by obtain ⟨q1, q2⟩ := hp.ro g k z hg hl' e; exact ⟨q1, by rw [q2, hw]⟩⟩
theorem code_sim (hk : Ok T env) (hm : T.P.follows .mixedOrders = true) (hC : SimC T env N call) (hloc : ∀ f args, Loc (call f args)) (c : Code) : codeOk N.n n c = true → ∀ (tm : Tm) (s : St) (a : Act) (w : World) (ρ : Rh) (r : EX) (s' : St) (Q : Exit → Act → World → Prop), evC c T call kp tm s = .ok r s' → s.nx ≤ 32768 → ER env ρ kp n tm a → Gl N ρ s.h w → HR env ρ s.h w → Free ρ s.nx s'.nx → (∀ a' ρ' w', ER env ρ' kp n (exT r) a' → Post env ρ s.h s.nx w ρ' s'.h s'.nx w' → Q (exE r) a' w') → c.wp T.P Q a w := by
  induction c with
  | skip =>
    intro _ tm s a w ρ r s' Q h hsx hE hG hr hf hQ
    cases h
    exact wp_skip (hQ a ρ w hE (Post.refl hr _))
  | exit id =>
    intro _ tm s a w ρ r s' Q h hsx hE hG hr hf hQ
    cases h
    exact wp_exit (hQ a ρ w hE (Post.refl hr _))
  | ret =>
    intro _ tm s a w ρ r s' Q h hsx hE hG hr hf hQ
    cases h
    exact wp_ret (hQ a ρ w hE (Post.refl hr _))
  | region id ops dr =>
    intro hok tm s a w ρ r s' Q h hsx hE hG hr hf hQ
    unfold codeOk at hok
    rw [Bool.and_eq_true, List.all_eq_true] at hok
    have h : cRegion ops dr T call kp tm s = .ok r s' := h
    rw [cRegion_eq] at h
    obtain ⟨tm1, s1, h1, h2⟩ := bnd_ok h
    cases h2
    cases dr with
    | false =>
      have h1 : stepsL T call kp ops.toList ops.toList (clr tm) s = .ok tm1 s' := h1
      refine wp_region ?_
      have := steps_sim (Q := Q) (kp := kp) hk hC hloc hok.1 ops.toList 0 (clr tm) s a w ρ rfl h1 hsx hE.clr hG hr hf fun a' ρ' w' hE' hp => hQ a' ρ' w' hE' hp
      rw [Array.length_toList] at this
      rw [List.range_eq_range']
      exact this
    | true =>
      have h1 : stepsD T call kp ops.toList ops.toList (aheads ops.toList []) 0 [] (clr tm) s = .ok tm1 s' := h1
      refine wp_region_any hm ?_
      exact draw_sim hk hC hloc hok.1 (by simpa using hok.2) h1 hsx hE.clr hE.ki (hG.same (w' := { w with drawn := w.drawn + 1 }) rfl) (hr.same (w' := { w with drawn := w.drawn + 1 }) rfl) hf fun a' ρ' w' hE' hp => hQ a' ρ' w' hE' (hp.base rfl (Below.refl 0 w).drew)
  | seq x y ihx ihy =>
    intro hok tm s a w ρ r s' Q h hsx hE hG hr hf hQ
    unfold codeOk at hok
    rw [Bool.and_eq_true] at hok
    have h : cSeq (evC x) (evC y) T call kp tm s = .ok r s' := h
    rw [cSeq_eq] at h
    obtain ⟨r1, s1, h1, h2⟩ := bnd_ok h
    obtain ⟨_, _, n1, m1, _⟩ := loc_code (T := T) hloc kp x tm s r1 s1 h1 hsx
    refine wp_seq ?_
    cases r1 with
    | nm tm1 =>
      have h2 : evC y T call kp tm1 s1 = .ok r s' := h2
      obtain ⟨_, _, n2, m2, _⟩ := loc_code (T := T) hloc kp y tm1 s1 r s' h2 m1
      refine ihx hok.1 tm s a w ρ _ s1 _ h1 hsx hE hG hr (hf.sub n2) fun a1 ρ1 w1 hE1 hp1 => ?_
      exact ihy hok.2 tm1 s1 a1 w1 ρ1 r s' Q h2 m1 hE1 (hG.step hp1) hp1.hr (hf.step hp1 n1 n2) fun a' ρ' w' hE' hp' => hQ a' ρ' w' hE' (hp1.trans hp' n1 n2)
    | ex i tm1 =>
      cases h2
      exact ihx hok.1 tm s a w ρ _ _ _ h1 hsx hE hG hr hf hQ
    | rt tm1 =>
      cases h2
      exact ihx hok.1 tm s a w ρ _ _ _ h1 hsx hE hG hr hf hQ
  | cond x y z ihy ihz =>
    intro hok tm s a w ρ r s' Q h hsx hE hG hr hf hQ
    unfold codeOk at hok
    rw [Bool.and_eq_true, Bool.and_eq_true] at hok
    obtain ⟨v, e, h1⟩ := avC_ok h
    obtain ⟨t, hv, h1⟩ := scBy_ok h1
    have hx := hE.op hG hok.1
    rw [e] at hx
    have hx : a.eval x = .bool t := by
      rcases hv with rfl | ⟨j, rfl, hj⟩
      · exact hx
      · exact (show a.eval x = env j from hx).trans (hk.dec j t hj)
    refine wp_cond hx ?_
    cases t with
    | true => exact ihy hok.2.1 tm s a w ρ r s' Q h1 hsx hE hG hr hf hQ
    | false => exact ihz hok.2.2 tm s a w ρ r s' Q h1 hsx hE hG hr hf hQ
  | block id y ih =>
    intro hok tm s a w ρ r s' Q h hsx hE hG hr hf hQ
    have h : cBlock id (evC y) T call kp tm s = .ok r s' := h
    rw [cBlock_eq] at h
    obtain ⟨r1, s1, h1, h2⟩ := bnd_ok h
    refine wp_block ?_
    cases r1 with
    | nm tm1 =>
      cases h2
      exact ih hok tm s a w ρ _ _ _ h1 hsx hE hG hr hf hQ
    | ex i tm1 =>
      have h2 : @Bool.rec (fun _ => M EX) (ret (.ex i tm1)) (ret (.nm tm1)) (Nat.beq i id) s1 = .ok r s' := h2
      cases hb : Nat.beq i id with
      | false =>
        rw [hb] at h2
        cases h2
        refine ih hok tm s a w ρ _ _ _ h1 hsx hE hG hr hf fun a' ρ' w' hE' hp => ?_
        show if i = id then _ else _
        rw [if_neg (Nat.ne_of_beq_eq_false hb)]
        exact hQ a' ρ' w' hE' hp
      | true =>
        rw [hb] at h2
        cases h2
        refine ih hok tm s a w ρ _ _ _ h1 hsx hE hG hr hf fun a' ρ' w' hE' hp => ?_
        show if i = id then _ else _
        rw [if_pos (Nat.eq_of_beq_eq_true hb)]
        exact hQ a' ρ' w' hE' hp
    | rt tm1 =>
      cases h2
      exact ih hok tm s a w ρ _ _ _ h1 hsx hE hG hr hf hQ
  | loop y ih =>
    intro hok tm s a w ρ r s' Q h hsx hE hG hr hf hQ
    have h : loopF (evC y T call kp) 5000 tm s = .ok r s' := h
    have hl := loc_loop (loc_code (T := T) hloc kp y)
    refine wp_loop_ghost (fun k a1 w1 => ∃ tm1 s1 ρ1, loopF (evC y T call kp) k tm1 s1 = .ok r s' ∧ s1.nx ≤ 32768 ∧ s.nx ≤ s1.nx ∧ ER env ρ1 kp n tm1 a1 ∧ Post env ρ s.h s.nx w ρ1 s1.h s1.nx w1) 5000 ⟨tm, s, ρ, h, hsx, Nat.le_refl _, hE, Post.refl hr _⟩ ?_
    rintro k a1 w1 ⟨tm1, s1, ρ1, h1, hsx1, hle1, hE1, hp1⟩
    cases k with
    | zero => exact no_ok h1
    | succ k =>
      obtain ⟨_, _, n0, m0, _⟩ := hl (k + 1) tm1 s1 r s' h1 hsx1
      rw [loopF_eq] at h1
      obtain ⟨r2, s2, h2, h3⟩ := bnd_ok h1
      obtain ⟨_, _, n2, m2, _⟩ := loc_code (T := T) hloc kp y tm1 s1 r2 s2 h2 hsx1
      have hf1 := hf.step hp1 hle1 n0
      cases r2 with
      | nm tm2 =>
        have h3 : loopF (evC y T call kp) k tm2 s2 = .ok r s' := h3
        obtain ⟨_, _, n3, m3, _⟩ := hl k tm2 s2 r s' h3 m2
        exact ih hok tm1 s1 a1 w1 ρ1 _ s2 _ h2 hsx1 hE1 (hG.step hp1) hp1.hr (hf1.sub n3) fun a' ρ' w' hE' hp' => ⟨k, Nat.lt_succ_self k, tm2, s2, ρ', h3, m2, Nat.le_trans hle1 n2, hE', hp1.trans hp' hle1 n2⟩
      | ex i tm2 =>
        cases h3
        exact ih hok tm1 s1 a1 w1 ρ1 _ _ _ h2 hsx1 hE1 (hG.step hp1) hp1.hr hf1 fun a' ρ' w' hE' hp' => hQ a' ρ' w' hE' (hp1.trans hp' hle1 n2)
      | rt tm2 =>
        cases h3
        exact ih hok tm1 s1 a1 w1 ρ1 _ _ _ h2 hsx1 hE1 (hG.step hp1) hp1.hr hf1 fun a' ρ' w' hE' hp' => hQ a' ρ' w' hE' (hp1.trans hp' hle1 n2)
  | _ =>
    intro _ tm s a w ρ r s' Q h
    exact no_ok h
/-! results -/
def resOk (n : Nat) : ResultVar → Bool
  | .tmp t => Nat.blt t n
  | .cell t _ => Nat.blt t n
def rsF (a : Act) : ResultVar → Sem Value
  | .tmp t => pure (a.tmps.getD t undef)
  | .cell ad t => do loadVar t (← asAddr (a.tmps.getD ad undef))
theorem resV_sim {r : ResultVar} {v : AV} (h : resV r T tm s = .ok v s') (hok : resOk n r = true) (hE : ER env ρ kp n tm a) (hr : HR env ρ s.h w) : ∃ v', (rsF a r).run T.P w = .ok v' w ∧ VA env ρ v v' ∧ s'.h = s.h ∧ s'.nx = s.nx := by
  cases r with
  | tmp t =>
    cases h
    exact ⟨_, rfl, hE.at' t (blt_t hok), rfl, rfl⟩
  | cell ad t =>
    have h : oLoad t (.tmp ad) T (fun _ _ => no 93) tm s = .ok v s' := h
    have hx : VA env ρ (evo (.tmp ad) tm) (a.eval (.tmp ad)) := hE.at' ad (blt_t hok)
    obtain ⟨v', h1, h2, h3, h4, _, adr, h5⟩ := s_load' (rc := a.eval) (w := w) h hx hr
    have h5 : a.tmps.getD ad undef = .pointer (some adr) := h5
    refine ⟨v', ?_, h2, h3, h4⟩
    have h1 : (Instr.loadAt t (a.tmps.getD ad undef)).run T.P w = .ok v' w := h1
    show (do loadVar t (← asAddr (a.tmps.getD ad undef)) : Sem Value).run T.P w = _
    rw [h5] at h1 ⊢
    simp only [Instr.loadAt, Instr.sureAddr, Sem.run_bind, Sem.run_pure, Result.andThen_ok] at h1
    simp only [asAddr, Sem.run_bind, Sem.run_pure, Result.andThen_ok]
    exact h1
theorem tcOf_V {v : AV} {c : TC} {u : Value} (h : tcOf v = some c) (hv : VA env ρ v u) : VT env ρ c u := by
  cases v with
  | c x => cases h; exact hv
  | ag l => cases h; exact hv
  | tp l => cases h
  | u => cases h
theorem resVs_sim (hE : ER env ρ kp n tm a) : ∀ {rs : List ResultVar} {l : List TC} {s : St}, resVs T tm rs s = .ok l s' → (∀ r ∈ rs, resOk n r = true) → HR env ρ s.h w → ∃ vs, (rs.mapM (rsF a)).run T.P w = .ok vs w ∧ All2 (VT env ρ) l vs ∧ s'.h = s.h ∧ s'.nx = s.nx
  | [], l, s, h, _, hr => by cases h; exact ⟨[], rfl, .nil, rfl, rfl⟩
  | r :: rs, l, s, h, hok, hr => by
    obtain ⟨v, s1, h1, h2⟩ := bnd_ok h
    obtain ⟨c, hc, h2⟩ := optm_ok h2
    obtain ⟨l', s2, h3, h4⟩ := bnd_ok h2
    cases h4
    obtain ⟨v', q1, q2, q3, q4⟩ := resV_sim h1 (hok r (List.mem_cons_self ..)) hE hr
    obtain ⟨vs, p1, p2, p3, p4⟩ := resVs_sim (s := s1) hE h3 (fun r' hr' => hok r' (List.mem_cons_of_mem _ hr')) (by rw [q3]; exact hr)
    refine ⟨v' :: vs, ?_, .cons (tcOf_V hc q2) p2, by rw [p3, q3], by rw [p4, q4]⟩
    rw [List.mapM_cons]
    simp only [Sem.run_bind, q1, Result.andThen_ok, p1, Sem.run_pure]
theorem results_sim {fn : Func} {v : AV} (h : results fn.results.toList T tm s = .ok v s') (hok : ∀ r ∈ fn.results.toList, resOk n r = true) (hE : ER env ρ kp n tm a) (hr : HR env ρ s.h w) : ∃ v', (Go.results fn a.tmps).run T.P w = .ok v' w ∧ VA env ρ v v' ∧ s'.h = s.h ∧ s'.nx = s.nx := by
  have hrun : ∀ {vs : List Value}, (fn.results.toList.mapM (rsF a)).run T.P w = .ok vs w → (Go.results fn a.tmps).run T.P w = .ok (if h : vs.toArray.size = 1 then vs.toArray[0] else .tuple vs.toArray) w := fun {vs} hv => by
    have e : Go.results fn a.tmps = (do let vs ← fn.results.mapM (rsF a); pure (if h : vs.size = 1 then vs[0] else .tuple vs)) := by
      unfold Go.results
      congr 1
    rw [e, Sem.run_bind, Array.mapM_eq_mapM_toList, Sem.run_map, hv]
    rfl
  have many : (∀ r, fn.results.toList ≠ [r]) → bnd (resVs T tm fn.results.toList) (fun l => ret (.tp l)) s = .ok v s' → ∃ v', (Go.results fn a.tmps).run T.P w = .ok v' w ∧ VA env ρ v v' ∧ s'.h = s.h ∧ s'.nx = s.nx := by
    intro hne h
    obtain ⟨l, s1, h1, h2⟩ := bnd_ok h
    cases h2
    obtain ⟨vs, p1, p2, p3, p4⟩ := resVs_sim hE h1 hok hr
    refine ⟨.tuple vs.toArray, ?_, ⟨vs.toArray, rfl, by simpa using p2⟩, p3, p4⟩
    rw [hrun p1, dif_neg]
    intro hs
    have hl : fn.results.toList.length = 1 := by
      have : ∀ {rs : List ResultVar} {l : List TC} {s s' : St}, resVs T tm rs s = .ok l s' → l.length = rs.length := by
        intro rs
        induction rs with
        | nil => intro l s s' h; cases h; rfl
        | cons r rs ih =>
          intro l s s' h
          obtain ⟨v, s1, _, h2⟩ := bnd_ok h
          obtain ⟨c, _, h2⟩ := optm_ok h2
          obtain ⟨l', s2, h3, h4⟩ := bnd_ok h2
          cases h4
          rw [List.length_cons, List.length_cons, ih h3]
      rw [← this h1, p2.len]
      simpa using hs
    match hq : fn.results.toList, hl with
    | [r], _ => exact hne r hq
  cases e : fn.results.toList with
  | nil => rw [e] at h; exact many (fun r => by rw [e]; exact fun q => by cases q) (by rw [e]; exact h)
  | cons r l =>
    cases l with
    | cons r2 l => rw [e] at h; exact many (fun r => by rw [e]; exact fun q => by cases q) (by rw [e]; exact h)
    | nil =>
      rw [e] at h
      have h : resV r T tm s = .ok v s' := h
      obtain ⟨v', q1, q2, q3, q4⟩ := resV_sim h (hok r (by rw [e]; exact List.mem_cons_self ..)) hE hr
      refine ⟨v', ?_, q2, q3, q4⟩
      refine (hrun (vs := [v']) ?_).trans rfl
      rw [e, List.mapM_cons, List.mapM_nil]
      simp only [Sem.run_bind, q1, Result.andThen_ok, Sem.run_pure]
end
end Ev
end Go.Proofs.YtjmifcnfnihhnaaGreatDoor
set_option linter.unusedVariables false
set_option linter.unusedSimpArgs false
namespace Go.Proofs.YtjmifcnfnihhnaaGreatDoor
namespace Ev
noncomputable def fnOk (N : Nat) (fn : Func) : Bool := match fn.body with
  | some c => codeOk N fn.ntmps c && (fn.results.toList.all (resOk fn.ntmps) && !(fn.name == "runtime.NumGoroutine"))
  | none => true
/-- the program's own look -/
structure PrOk (P : Program) (N : Nat) : Prop where
  fns : ∀ (f : Nat) (fn : Func), P.funcs[f]? = some fn → fnOk N fn = true
  mixed : P.follows .mixedOrders = true
section
variable {T : Tab} {env : Nat → Value} {ρ ρ' : Rh} {w w' : World} {tm tm' : Tm} {call : Cal} {s s' : St} {kp n : Nat} {N : Gs} {a : Act} {h h' : Hp}
structure HkOk (T : Tab) (env : Nat → Value) (N : Gs) : Prop where
  loc : HkLoc T
  sim : ∀ f args m, T.hk f args = some m → ∀ s v s' (ρ : Rh) w (us : List Value), m s = .ok v s' → s.nx ≤ 32768 → Gl N ρ s.h w → All2 (VA env ρ) args us → HR env ρ s.h w → Free ρ s.nx s'.nx →
    FnOk T.P f ∧ Calls T.P f us.toArray w fun e w' => ∃ v' ρ', e = .returned v' ∧ VA env ρ' v v' ∧ Post env ρ s.h s.nx w ρ' s'.h s'.nx w'
theorem setAll_at : ∀ (l : List AV) (i : Nat) (t : Vs), i + l.length ≤ 512 → ∀ k, k < 512 → get3 k (setAll l i t id) = if i ≤ k ∧ k < i + l.length then l.getD (k - i) .u else get3 k t
  | [], i, t, _, k, _ => by rw [if_neg (by simp only [List.length_nil]; omega)]; rfl
  | v :: l, i, t, hi, k, hk => by
    rw [List.length_cons] at hi ⊢
    have e : setAll (v :: l) i t id = setAll l (i + 1) (set3 i v t id) id := by
      show (set3 i v t fun t => setAll l (i + 1) t id) = _
      rw [l3.1]
    rw [e, setAll_at l (i + 1) _ (by omega) k hk, l3.2 k i v t hk (by omega)]
    by_cases h1 : i + 1 ≤ k ∧ k < i + 1 + l.length
    · rw [if_pos h1, if_pos (by omega), show k - i = (k - (i + 1)) + 1 by omega, List.getD_cons_succ]
    · rw [if_neg h1]
      by_cases h2 : k = i
      · rw [if_pos h2, if_pos (by omega), h2, Nat.sub_self, List.getD_cons_zero]
      · rw [if_neg h2, if_neg (by omega)]
theorem keeps_at {kp m : Nat} (h : keeps kp m = true) {k : Nat} (hk : k < m) : kept kp k ≠ 0 := by
  have h : kp &&& (1 <<< m).pred = (1 <<< m).pred := Nat.eq_of_beq_eq_true h
  rw [Nat.one_shiftLeft, Nat.pred_eq_sub_one] at h
  intro e
  have hb := (kept_bit kp k).1 e
  have := congrArg (fun q => q.testBit k) h
  simp only [Nat.testBit_and, hb, Bool.false_and, Nat.testBit_two_pow_sub_one] at this
  rw [decide_eq_true hk] at this
  cases this
theorem ER.start {args : List AV} {us : List Value} (ha : All2 (VA env ρ) args us) (hk : keeps kp args.length = true) (h1 : args.length ≤ n) (h2 : n ≤ 512) : ER env ρ kp n ⟨.nl, setAll args 0 (full3 .u) id⟩ { tmps := us.toArray ++ Array.replicate (n - us.toArray.size) undef, defers := [] } := by
  have hl := ha.len
  have key : ∀ k, k < n → VA env ρ (get3 k (setAll args 0 (full3 .u) id)) ((us.toArray ++ Array.replicate (n - us.toArray.size) undef).getD k undef) := fun k hk' => by
    rw [setAll_at args 0 _ (by omega) k (by omega)]
    by_cases e : 0 ≤ k ∧ k < 0 + args.length
    · rw [if_pos e, Nat.sub_zero]
      have hka : k < args.length := by omega
      obtain ⟨u, e1, e2⟩ := ha.at (List.getElem?_eq_getElem hka)
      rw [List.getD_eq_getElem?_getD, List.getElem?_eq_getElem hka, Array.getD_eq_getD_getElem?, Array.getElem?_append_left (by simp; omega)]
      simp only [List.getElem?_toArray, e1]
      exact e2
    · rw [if_neg e, full3_get]; trivial
  refine ⟨by simp; omega, h2, key, key, fun k hk' hk0 => ?_, rfl⟩
  show get3 k (setAll args 0 (full3 .u) id) = .u
  rw [setAll_at args 0 _ (by omega) k hk', if_neg, full3_get]
  intro e
  exact keeps_at hk (k := k) (by omega) hk0
theorem body_sim (hk : Ok T env) (hP : PrOk T.P N.n) (hC : SimC T env N call) (hloc : ∀ f args, Loc (call f args)) {f : Nat} {fn : Func} (hfn : T.P.funcs[f]? = some fn) {args : List AV} {v : AV} {us : List Value} (h : bodyF T call args (T.kp f) fn s = .ok v s') (hsx : s.nx ≤ 32768) (hG : Gl N ρ s.h w) (ha : All2 (VA env ρ) args us) (hr : HR env ρ s.h w) (hf : Free ρ s.nx s'.nx) :
    FnOk T.P f ∧ Calls T.P f us.toArray w fun e w' => ∃ v' ρ', e = .returned v' ∧ VA env ρ' v v' ∧ Post env ρ s.h s.nx w ρ' s'.h s'.nx w' := by
  rw [bodyF_eq] at h
  obtain ⟨c, hc, h⟩ := optm_ok h
  obtain ⟨hkp, h⟩ := iff_no h
  obtain ⟨hal, h⟩ := iff_no h
  obtain ⟨hnt, h⟩ := iff_no h
  obtain ⟨r, s1, h1, h2⟩ := bnd_ok h
  have hok := hP.fns f fn hfn
  unfold fnOk at hok
  rw [hc] at hok
  simp only [Bool.and_eq_true] at hok
  obtain ⟨hok1, hok2, hok3⟩ := hok
  rw [List.all_eq_true] at hok2
  refine ⟨⟨fn, hfn, by rw [hc]; rfl, by simpa using hok3⟩, ?_⟩
  obtain ⟨_, _, n1, m1, _⟩ := loc_code (T := T) hloc (T.kp f) c _ s r s1 h1 hsx
  have hes : s1.nx = s'.nx ∧ (exE r = .normal ∨ exE r = .ret) ∧ results fn.results.toList T (exT r) s1 = .ok v s' := by
    have hn : ∀ {tm : Tm}, results fn.results.toList T tm s1 = .ok v s' → s1.nx = s'.nx := fun {tm} hq => by
      obtain ⟨_, _, q1, q2, _⟩ := loc_results (T := T) fn.results.toList tm s1 v s' hq m1
      have : ∀ {r : ResultVar} {s s' : St} {v : AV}, resV r T tm s = .ok v s' → s'.nx = s.nx := by
        intro r s s' v hr'
        cases r with
        | tmp t => cases hr'; rfl
        | cell ad t =>
          have hr' : oLoad t (.tmp ad) T (fun _ _ => no 93) tm s = .ok v s' := hr'
          obtain ⟨_, hr'⟩ := brec_no hr'
          obtain ⟨b, off, _, hr'⟩ := atP_ok hr'
          cases hA : agT T t with
          | true =>
            rw [hA] at hr'
            have hr' : loadA (szT T t) off b s = .ok v s' := hr'
            unfold loadA at hr'
            rcases nrec_ok hr' with ⟨_, hr'⟩ | ⟨_, _, hr'⟩
            · cases hr'; rfl
            · obtain ⟨s1, e1, e2, hr'⟩ := look_same hr'
              obtain ⟨_, hr'⟩ := iff_no hr'
              cases hr'; exact e2
          | false =>
            rw [hA] at hr'
            have hr' : loadC off b s = .ok v s' := hr'
            obtain ⟨s1, e1, e2, hr'⟩ := look_same hr'
            obtain ⟨_, hr'⟩ := brec_on hr'
            cases hr'; exact e2
      have all : ∀ {rs : List ResultVar} {l : List TC} {s s' : St}, resVs T tm rs s = .ok l s' → s'.nx = s.nx := by
        intro rs
        induction rs with
        | nil => intro l s s' h; cases h; rfl
        | cons r rs ih =>
          intro l s s' h
          obtain ⟨v, s1, p1, p2⟩ := bnd_ok h
          obtain ⟨c, _, p2⟩ := optm_ok p2
          obtain ⟨l', s2, p3, p4⟩ := bnd_ok p2
          cases p4
          rw [ih p3, this p1]
      cases e : fn.results.toList with
      | nil =>
        rw [e] at hq
        obtain ⟨l, s2, p1, p2⟩ := bnd_ok (m := resVs T tm []) (f := fun l => ret (AV.tp l)) hq
        cases p2
        exact (all p1).symm
      | cons r l =>
        cases l with
        | nil => rw [e] at hq; exact (this hq).symm
        | cons r2 l =>
          rw [e] at hq
          obtain ⟨l, s2, p1, p2⟩ := bnd_ok (m := resVs T tm (r :: r2 :: l)) (f := fun l => ret (AV.tp l)) hq
          cases p2
          exact (all p1).symm
    cases r with
    | nm tm1 => exact ⟨hn h2, .inl rfl, h2⟩
    | ex i tm1 => exact no_ok h2
    | rt tm1 => exact ⟨hn h2, .inr rfl, h2⟩
  obtain ⟨hnx, hexit, hres⟩ := hes
  refine calls_of_wp hfn hc ?_
  refine code_sim (N := N) (n := fn.ntmps) (kp := T.kp f) hk hP.mixed hC hloc c hok1 _ s _ w ρ r s1 _ h1 hsx (ER.start ha hkp (ble_t hal) (ble_t hnt)) hG hr (by rw [hnx]; exact hf) fun a' ρ' w' hE hp => ?_
  obtain ⟨v', q1, q2, q3, q4⟩ := results_sim (w := w') hres hok2 hE hp.hr
  have hp' : Post env ρ s.h s.nx w ρ' s'.h s'.nx w' := by rw [q3, q4]; exact hp
  rcases hexit with e | e
  · rw [e]; exact ⟨hE.nod, v', q1, v', ρ', rfl, q2, hp'⟩
  · rw [e]; exact ⟨hE.nod, v', q1, v', ρ', rfl, q2, hp'⟩
theorem fn_sim (hk : Ok T env) (hP : PrOk T.P N.n) (hH : HkOk T env N) : ∀ m, SimC T env N (evF T m)
  | 0 => fun f args s v s' ρ w us h => no_ok h
  | m + 1 => fun f args s v s' ρ w us h hsx hG ha hr hf => by
    have h : @Option.rec _ (fun _ => M AV) (optm (Nat.add 10000 f) (T.f f) (bodyF T (evF T m) args (T.kp f))) (fun m => m) (T.hk f args) s = .ok v s' := h
    cases hh : T.hk f args with
    | some x =>
      rw [hh] at h
      exact hH.sim f args x hh s v s' ρ w us h hsx hG ha hr hf
    | none =>
      rw [hh] at h
      obtain ⟨fn, hfn, h⟩ := optm_ok h
      have hfn : T.P.funcs[f]? = some fn := hfn
      exact body_sim hk hP (fn_sim hk hP hH m) (loc_fn (T := T) hH.loc m) hfn h hsx hG ha hr hf
end
end Ev
end Go.Proofs.YtjmifcnfnihhnaaGreatDoor
set_option linter.unusedVariables false
set_option linter.unusedSimpArgs false
namespace Go.Proofs.YtjmifcnfnihhnaaGreatDoor
namespace Ev
open Go.RowKit
/-! pools: how they grow -/
section
variable {T : Tab} {env : Nat → Value} {ρ : Rh} {w : World} {h : Hp} {i : Nat} {c : Sc} {vc : Value}
theorem dd_len : ∀ i, (ddI env i).length ≤ i
  | 0 => Nat.le_refl _
  | i + 1 => by
    have := dd_len i
    unfold ddI
    split
    · omega
    · rw [List.length_append]; simp; omega
theorem dd_new (hn : pI env i ∉ ddI env i) : ddI env (i + 1) = ddI env i ++ [pI env i] := by rw [ddI, if_neg hn]
theorem dd_old (hn : pI env i ∈ ddI env i) : ddI env (i + 1) = ddI env i := by rw [ddI, if_pos hn]
def iVs (l : List Int) : List Value := l.map fun z => .int .i64 z
theorem iVs_at {l : List Int} {j : Nat} {u : Value} (hu : (iVs l)[j]? = some u) : ∃ z, l[j]? = some z ∧ u = .int .i64 z := by
  unfold iVs at hu
  rw [List.getElem?_map] at hu
  cases hz : l[j]? with
  | none => rw [hz] at hu; cases hu
  | some z => rw [hz] at hu; cases hu; exact ⟨z, rfl, rfl⟩
theorem iVs_of {l : List Int} {j : Nat} {z : Int} (hz : l[j]? = some z) : (iVs l)[j]? = some (.int .i64 z) := by unfold iVs; rw [List.getElem?_map, hz]; rfl
/-- a pool's header -/
def PoolH (h : Hp) (c : Sc) (i : Nat) : Prop := (c = .sn ∧ i = 0) ∨ ∃ b, c = .ps b i ∧ 8 ≤ b ∧ 0 < (get5 b h).t.room ∧ plI (get5 b h).t = some i
noncomputable def killC (h : Hp) : Sc → Hp
  | .ps b _ => hset h b dead
  | _ => h
theorem pool_at (hr : HR env ρ h w) (hc : PoolH h c i) (hv : VS env ρ c vc) : ∃ base cap, vc = .slice base (ddI env i).length cap ∧ ∀ (j : Nat) (z : Int), (ddI env i)[j]? = some z → ∃ kc, base = some ⟨kc, 0, none⟩ ∧ kc < w.heap.size ∧ w.cell? ⟨kc, j, none⟩ = some (.int .i64 z) := by
  rcases hc with ⟨rfl, rfl⟩ | ⟨b, rfl, h8, hl, hp⟩
  · exact ⟨none, 0, hv, fun j z hz => by cases hz⟩
  · obtain ⟨k, z, cap, e, hvc, h1, h2⟩ := hv
    refine ⟨_, cap, hvc, fun j z hz => ?_⟩
    obtain ⟨k', arr, ty, lo, hi, e', g1, _, _, _, _, g6⟩ := (hr.blk b ⟨hr.dom b _ e, hl⟩).ex
    rw [e] at e'
    cases e'
    exact ⟨k, rfl, hr.lt ⟨hr.dom b _ e, hl⟩ e, by rw [cell_of g1]; exact g6 i hp j z hz⟩
theorem pool_old (hr : HR env ρ h w) {n0 : Nat} (hx : n0 < 32768) (hf : ρ n0 = none) (hc : PoolH h c i) (hv : VS env ρ c vc) (hm : pI env i ∈ ddI env i) :
    ∃ ρ', VS env ρ' (.ps n0 (i + 1)) vc ∧ Post env ρ h n0 w ρ' (hset (killC h c) n0 ⟨0, .pl (i + 1)⟩) (n0 + 1) w := by
  rcases hc with ⟨rfl, rfl⟩ | ⟨b, rfl, h8, hl, hp⟩
  · cases hm
  · obtain ⟨k, z, cap, e, hvc, h1, h2⟩ := hv
    have hlv : Live h b := ⟨hr.dom b _ e, hl⟩
    obtain ⟨k', arr, ty, lo, hi, e', g1, g2, _, _, _, g6⟩ := (hr.blk b hlv).ex
    have e'' := e'
    rw [e] at e'
    cases e'
    refine ⟨_, ⟨k, arr.size, cap, upR_new _ _ _, by rw [dd_old hm]; exact hvc, by rw [dd_old hm]; exact h1, h2⟩, Post.move hr hx hf h8 hlv (B := ⟨0, .pl (i + 1)⟩) (Nat.zero_lt_succ 7) e'' g1 (g2.resolve_left (by omega)) (fun _ _ => rfl) (Below.refl _ _) (Nat.zero_le _) (Nat.zero_le _) (fun j hj => absurd hj (Nat.not_lt_zero _)) ?_⟩
    intro i' hi' j n hn
    cases hi'
    rw [dd_old hm] at hn
    exact g6 i hp j n hn
theorem pool_new (hn : EnvOk env) (hr : HR env ρ h w) {n0 : Nat} (hx : n0 < 32768) (hf : ρ n0 = none) {ts tx ty : TypeId} (hk : isK T ts 1 = true) (hez : ezB T ts = true) (h1 : ezT T ts = 1) (hlim : (ddI env i).length + 1 ≤ limT T (elT T ts)) (hc : PoolH h c i) (hv : VS env ρ c vc) (hm : pI env i ∉ ddI env i) {vx : Value} (hs : Src T.P 1 tx vx 1 [.int .i64 (pI env i)] w) :
    ∃ b1 n1 c1 ρ' w1, (Builtin.append_ #[ts, tx] ty #[vc, vx]).run T.P w = .ok (.slice b1 n1 c1) w1 ∧ VS env ρ' (.ps n0 (i + 1)) (.slice b1 n1 c1) ∧ Post env ρ h n0 w ρ' (hset (killC h c) n0 ⟨0, .pl (i + 1)⟩) (n0 + 1) w1 := by
  have hl0 : All2 (VS env ρ) [.i .i64 (pI env i)] [Value.int .i64 (pI env i)] := .cons rfl .nil
  have key : ∀ {ρ' : Rh} {v' : Value}, VS env ρ' (.sl n0 0 ((ddI env i).length + 1) 1) v' → ∃ b1 n1 c1, v' = .slice b1 n1 c1 ∧ VS env ρ' (.ps n0 (i + 1)) (.slice b1 n1 c1) := fun ⟨k, z, cap, e, hv', q1, q2⟩ => by
    have hlen : (ddI env (i + 1)).length = (ddI env i).length + 1 := by rw [dd_new hm, List.length_append]; rfl
    exact ⟨_, _, _, hv', k, z, cap, e, by rw [hlen], by rw [hlen]; exact q1, by omega⟩
  have hpl : ∀ arr : Array Value, (∀ (j : Nat) (u : Value), (iVs (ddI env i) ++ [Value.int .i64 (pI env i)])[j]? = some u → arr[j]? = some u) → PlOk env (Cl.pl (i + 1)) arr := fun arr ha i' hi' j n hjn => by
    cases hi'
    rw [dd_new hm] at hjn
    refine ha j _ ?_
    have : iVs (ddI env i) ++ [Value.int .i64 (pI env i)] = iVs (ddI env i ++ [pI env i]) := by unfold iVs; rw [List.map_append]; rfl
    rw [this]
    exact iVs_of hjn
  have hil : (iVs (ddI env i)).length = (ddI env i).length := by unfold iVs; rw [List.length_map]
  have hol : ∀ {ρ : Rh}, All2 (VS env ρ) ((ddI env i).map fun z => Sc.i .i64 z) (iVs (ddI env i)) := fun {ρ} => by
    unfold iVs
    generalize ddI env i = l
    induction l with
    | nil => exact .nil
    | cons z l ih => exact .cons rfl ih
  rcases hc with ⟨rfl, rfl⟩ | ⟨b, rfl, h8, hl, hp⟩
  · have hv : vc = .slice none 0 0 := hv
    subst hv
    obtain ⟨v', ρ', w', q1, q2, q3⟩ := grow_new (T := T) (ty := ty) (base := none) (len := 0) (cap := 0) (n := 1) (sz := 1) (olds := []) (lo := []) (B := ⟨0, .pl 1⟩) hn hr hx hf hk h1.symm (fun w' _ => by simp [Builtin.firstCells]) (by simp) .nil hs hl0 (by omega) hlim (Nat.zero_lt_succ 7) (Nat.zero_le _) (Nat.zero_le _) (fun j x hj => absurd hj (Nat.not_lt_zero _)) (hpl)
    obtain ⟨b1, n1, c1, rfl, q4⟩ := key q2
    exact ⟨b1, n1, c1, ρ', w', q1, q4, q3⟩
  · obtain ⟨k, z, cap, e, hvc, p1, p2⟩ := hv
    subst hvc
    have hlv : Live h b := ⟨hr.dom b _ e, hl⟩
    by_cases hg : (ddI env i).length + 1 ≤ cap
    · obtain ⟨v', ρ', w', q1, q2, q3⟩ := grow_here (T := T) (ty := ty) (n := 1) (B := ⟨0, .pl (i + 1)⟩) hn hr hx hf hk hez h1.symm e h8 hlv (by omega) hs hl0 (by omega) hg (Nat.zero_lt_succ 7) (Nat.zero_le _) (fun j hj => absurd hj (Nat.not_lt_zero _)) (Nat.zero_le _) (fun j x hj => absurd hj (Nat.not_lt_zero _)) (fun arr ha hle => by
        refine hpl _ fun j u hu => ?_
        rw [Nat.mul_one] at hle ⊢
        rw [ovr_at _ _ _ _ hle]
        by_cases hin : (ddI env i).length ≤ j ∧ j < (ddI env i).length + [Value.int .i64 (pI env i)].length
        · rw [if_pos hin]
          rw [List.getElem?_append_right (by omega), hil] at hu
          exact hu
        · rw [if_neg hin]
          have hju := (List.getElem?_eq_some_iff.1 hu).1
          rw [List.length_append, hil] at hju
          rw [List.getElem?_append_left (by omega)] at hu
          obtain ⟨z, hz, rfl⟩ := iVs_at hu
          exact ha i hp j z hz)
      obtain ⟨b1, n1, c1, rfl, q4⟩ := key q2
      exact ⟨b1, n1, c1, ρ', w', q1, q4, q3⟩
    · have hkl := Post.kill hr n0 h8 hlv.1
      obtain ⟨k', arr, ty', lo, hi, e', g1, g2, _, _, _, g6⟩ := (hr.blk b hlv).ex
      rw [e] at e'
      cases e'
      have hcl : ∀ w' : World, w'.heap = w.heap → (Builtin.firstCells 1 (ddI env i).length (.slice (some ⟨k, 0, none⟩) (ddI env i).length cap)).run T.P w' = .ok (iVs (ddI env i)).toArray w' := fun w' hw => by
        refine run_firstCells_some w' _ _ _ _ _ _ (by rw [hil, Nat.mul_one]) fun j u hu => ?_
        obtain ⟨z, hz, rfl⟩ := iVs_at hu
        have ha : (⟨k, 0, none⟩ : Addr).add j = ⟨k, j, none⟩ := by
          unfold Addr.add
          split
          · rename_i h; rw [h]
          · simp
        rw [ha, cell_of (w := w') (by rw [hw]; exact g1)]
        exact g6 i hp j z hz
      obtain ⟨v', ρ', w', q1, q2, q3⟩ := grow_new (T := T) (ty := ty) (base := some ⟨k, 0, none⟩) (len := (ddI env i).length) (cap := cap) (n := 1) (sz := 1) (olds := iVs (ddI env i)) (B := ⟨0, .pl (i + 1)⟩) hn hkl.hr hx hf hk h1.symm hcl (by rw [hil, Nat.mul_one]) hol hs hl0 (by omega) hlim (Nat.zero_lt_succ 7) (Nat.zero_le _) (Nat.zero_le _) (fun j x hj => absurd hj (Nat.not_lt_zero _)) hpl
      obtain ⟨b1, n1, c1, rfl, q4⟩ := key q2
      exact ⟨b1, n1, c1, ρ', w', q1, q4, hkl.trans q3 (Nat.le_refl _) (Nat.le_succ _)⟩
end
end Ev
end Go.Proofs.YtjmifcnfnihhnaaGreatDoor
set_option linter.unusedVariables false
set_option linter.unusedSimpArgs false
namespace Go.Proofs.YtjmifcnfnihhnaaGreatDoor
namespace Ev
open Go.RowKit
section
variable {T : Tab} {env : Nat → Value} {ρ : Rh} {w w' : World} {h : Hp} {n : Nat}
/-- a block that nobody knows -/
theorem Post.idle (hr : HR env ρ h w) (n : Nat) (hw : ∀ j, j < w.heap.size → w'.heap[j]? = w.heap[j]?) (hsz : Below 0 w w') : Post env ρ h n w ρ h n w' :=
  ⟨Ext.refl _, fun i x e => .inl e, ⟨fun i hl => (hr.blk i hl).ext (Ext.refl _) fun k z e => hw k (hr.lt hl e), hr.ded, hr.inj, hr.dom⟩, fun k hk _ => hw k hk, fun i k z hl e _ => ⟨i, z, hl, e⟩, hsz, fun g k z _ hl e => ⟨hl, hw k (hr.lt hl e)⟩⟩
/-- a new block, wherever it lies -/
theorem Post.made (hr : HR env ρ h w) (hn : n < 32768) (hf : ρ n = none) {B : Bk} (hro : 0 < B.t.room) {arr : Array Value} {ty : TypeId} {lo hi kk : Nat} (hk : w'.heap[kk]? = some (.cells arr ty (lo, hi))) (hkz : lo = hi ∨ arr.size ≤ lo) (hkn : w.heap.size ≤ kk) (hw : ∀ j, j < w.heap.size → w'.heap[j]? = w.heap[j]?) (hsz : Below 0 w w')
    (h1 : B.n ≤ arr.size) (h2 : B.n ≤ B.t.room) (h3 : ∀ j, j < B.n → ∃ v, arr[j]? = some v ∧ VS env ρ (B.t.get j) v) (hpl : PlOk env B.t arr) :
    Post env ρ h n w (upR ρ n (kk, arr.size)) (hset h n B) (n + 1) w' := by
  have he := upR_ext hf (kk, arr.size)
  have hlv : ∀ j, Live (hset h n B) j → j ≠ n → Live h j := fun j hj e => ⟨hj.1, by have := hj.2; rw [get_hset hj.1 hn, if_neg e] at this; exact this⟩
  have hnl : ¬ Live h n := fun hl => by
    obtain ⟨k, arr, ty, lo, hi, e, _⟩ := (hr.blk n hl).ex
    rw [hf] at e; cases e
  refine ⟨he, fun i x e => ?_, ⟨fun j hj => ?_, fun j hj hd => ?_, fun j j' k z z' hj hj' e e' => ?_, fun i x e => ?_⟩, fun j hj _ => hw j hj, fun j k z hj e hk => ?_, hsz, fun g k z hg hlg e => ⟨⟨hlg.1, by rw [get_hset hlg.1 hn, if_neg (fun e' => hnl (by rw [← e']; exact hlg))]; exact hlg.2⟩, hw k (hr.lt hlg e)⟩⟩
  · rcases upR_inv e with ⟨e, _⟩ | ⟨_, e⟩
    · exact .inr ⟨by omega, by omega⟩
    · exact .inl e
  · rw [get_hset hj.1 hn]
    by_cases e : j = n
    · rw [if_pos e, e]
      exact ⟨kk, arr, ty, lo, hi, upR_new _ _ _, hk, .inr hkz, h1, h2, fun j hj => by obtain ⟨v, e1, e2⟩ := h3 j hj; exact ⟨v, e1, e2.ext he⟩, hpl⟩
    · rw [if_neg e]
      exact (hr.blk j (hlv j hj e)).ext he fun k z e' => hw k (hr.lt (hlv j hj e) e')
  · rw [get_hset hj hn] at hd ⊢
    by_cases e : j = n
    · rw [if_pos e] at hd; omega
    · rw [if_neg e] at hd ⊢; exact hr.ded j hj hd
  · rcases upR_inv e with ⟨e1, e2⟩ | ⟨e1, e2⟩ <;> rcases upR_inv e' with ⟨e3, e4⟩ | ⟨e3, e4⟩
    · rw [e1, e3]
    · cases e2
      have := hr.lt (hlv j' hj' e3) e4
      omega
    · cases e4
      have := hr.lt (hlv j hj e1) e2
      omega
    · exact hr.inj j j' k z z' (hlv j hj e1) (hlv j' hj' e3) e2 e4
  · rcases upR_inv e with ⟨e1, e2⟩ | ⟨e1, e2⟩
    · rw [e1]; exact hn
    · exact hr.dom i x e2
  · rcases upR_inv e with ⟨e1, e2⟩ | ⟨e1, e2⟩
    · cases e2; omega
    · exact ⟨j, z, hlv j hj e1, e2⟩
/-- one cell of a block is another -/
theorem Post.cell (hr : HR env ρ h w) (n : Nat) {i k z : Nat} (h8 : 8 ≤ i) (hl : Live h i) (hk : ρ i = some (k, z)) {j : Nat} (hj : j < (get5 i h).n) {x : Sc} {v : Value} (hv : VS env ρ x v) (hw : (w' = w ∧ w.cell? ⟨k, j, none⟩ = some v) ∨ w' = w.setCell ⟨k, j, none⟩ v) :
    Post env ρ h n w ρ (hset h i ⟨(get5 i h).n, (get5 i h).t.set j x id⟩) n w' := by
  obtain ⟨k', arr, ty, lo, hi, e, g1, g2, g3, g4, g5, g6⟩ := (hr.blk i hl).ex
  have hz := hk
  rw [e] at hz
  cases hz
  have hb : w'.heap[k]? = some (.cells (arr.setIfInBounds j v) ty (lo, hi)) ∧ (∀ j', j' ≠ k → w'.heap[j']? = w.heap[j']?) ∧ Below 0 w w' := by
    rcases hw with ⟨rfl, hc⟩ | rfl
    · refine ⟨?_, fun _ _ => rfl, Below.refl _ _⟩
      rw [cell_of g1] at hc
      rw [g1]
      congr 2
      apply Array.ext_getElem?
      intro q
      by_cases hq : j = q
      · rw [← hq, Array.getElem?_setIfInBounds_self_of_lt (by omega), hc]
      · rw [Array.getElem?_setIfInBounds_ne hq]
    · refine ⟨?_, fun j' hj' => ?_, (Below.refl 0 w).setCell (Nat.zero_le _) _⟩
      · unfold World.setCell
        rw [Array.getElem?_modify, if_pos rfl, g1]
        rfl
      · unfold World.setCell
        rw [Array.getElem?_modify, if_neg (fun e => hj' e.symm)]
  obtain ⟨b1, b2, b3⟩ := hb
  refine Post.write hr n (k := k) h8 hl (Cl.set_room j x _) ⟨_, e⟩ ⟨k, _, ty, lo, hi, by rw [Array.size_setIfInBounds]; exact e, b1, by rw [Array.size_setIfInBounds]; exact g2, by rw [Array.size_setIfInBounds]; exact g3, by show (get5 i h).n ≤ ((get5 i h).t.set j x id).room; rw [Cl.set_room]; exact g4, fun q hq => ?_, PlOk.no (plI_set _ _ _)⟩ b2 b3
  have hq : q < (get5 i h).n := hq
  show ∃ u, _ ∧ VS env ρ (((get5 i h).t.set j x id).get q) u
  rw [Cl.get_set x _ (by omega) (by omega)]
  by_cases e' : q = j
  · rw [if_pos e', e', Array.getElem?_setIfInBounds_self_of_lt (by omega)]
    exact ⟨v, rfl, hv⟩
  · rw [if_neg e', Array.getElem?_setIfInBounds_ne (fun e => e' e.symm)]
    exact g5 q hq
end
end Ev
end Go.Proofs.YtjmifcnfnihhnaaGreatDoor
