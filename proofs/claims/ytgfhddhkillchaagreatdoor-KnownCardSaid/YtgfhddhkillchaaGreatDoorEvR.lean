import Derived.Test.YtgfhddhkillchaaGreatDoorEvQ
import Derived.Deep.LoopGhost
set_option linter.unusedVariables false
set_option linter.unusedSimpArgs false
namespace Go.Proofs.YtgfhddhkillchaaGreatDoor
namespace Ev
open Go.RowKit
noncomputable def codeOk (N n : Nat) : Code → Bool
  | .region _ ops dr => ops.toList.all (operOk N n) && (!dr || drawOk ops)
  | .seq a b => codeOk N n a && codeOk N n b
  | .cond x a b => tmpLt N n x && (codeOk N n a && codeOk N n b)
  | .block _ c => codeOk N n c
  | .loop c => codeOk N n c
  | _ => true
def exE : EX → Exit
  | .nm _ => .normal
  | .ex i _ => .exit i
  | .rt _ => .ret
def exT : EX → Tm
  | .nm t => t
  | .ex _ t => t
  | .rt t => t
section
variable {T : Tab} {env : Nat → Value} {ρ ρ' : Rh} {w w' : World} {tm tm' : Tm} {call : Cal} {s s' : St} {kp n : Nat} {N : Gs} {a : Act} {h h' : Hp}
theorem Post.base {w1 : World} {n' : Nat} (hp : Post env ρ h n w1 ρ' h' n' w') (hw : w1.heap = w.heap) (hl : Below 0 w w1) : Post env ρ h n w ρ' h' n' w' :=
  ⟨hp.ext, hp.new, hp.hr, fun k hk hl => by rw [hp.keep k (by rw [hw]; exact hk) hl, hw], fun i k z hl e hk => hp.orig i k z hl e (by rw [hw]; exact hk), hl.trans hp.low, fun g k z hg hl' e => by obtain ⟨q1, q2⟩ := hp.ro g k z hg hl' e; exact ⟨q1, by rw [q2, hw]⟩⟩
theorem code_sim (hk : Ok T env) (hm : T.P.follows .mixedOrders = true) (hC : SimC T env N call) (hloc : ∀ f args, Loc (call f args)) (c : Code) : codeOk N.n n c = true → ∀ (tm : Tm) (s : St) (a : Act) (w : World) (ρ : Rh) (r : EX) (s' : St) (Q : Exit → Act → World → Prop), evC c T call kp tm s = .ok r s' → s.nx ≤ 32768 → ER env ρ kp n tm a → Gl N ρ s.h w → HR env ρ s.h w → Free ρ s.nx s'.nx → (∀ a' ρ' w', ER env ρ' kp n (exT r) a' → Post env ρ s.h s.nx w ρ' s'.h s'.nx w' → Q (exE r) a' w') → c.wp T.P Q a w := by
  induction c with
  | skip =>
    intro _ tm s a w ρ r s' Q h hsx hE hG hr hf hQ
    cases h
    exact wp_skip (hQ a ρ w hE (Post.refl hr _))
  | exit id =>
    intro _ tm s a w ρ r s' Q h hsx hE hG hr hf hQ
    cases h
    exact wp_exit (hQ a ρ w hE (Post.refl hr _))
  | ret =>
    intro _ tm s a w ρ r s' Q h hsx hE hG hr hf hQ
    cases h
    exact wp_ret (hQ a ρ w hE (Post.refl hr _))
  | region id ops dr =>
    intro hok tm s a w ρ r s' Q h hsx hE hG hr hf hQ
    unfold codeOk at hok
    rw [Bool.and_eq_true, List.all_eq_true] at hok
    have h : cRegion ops dr T call kp tm s = .ok r s' := h
    rw [cRegion_eq] at h
    obtain ⟨tm1, s1, h1, h2⟩ := bnd_ok h
    cases h2
    cases dr with
    | false =>
      have h1 : stepsL T call kp ops.toList ops.toList (clr tm) s = .ok tm1 s' := h1
      refine wp_region ?_
      have := steps_sim (Q := Q) (kp := kp) hk hC hloc hok.1 ops.toList 0 (clr tm) s a w ρ rfl h1 hsx hE.clr hG hr hf fun a' ρ' w' hE' hp => hQ a' ρ' w' hE' hp
      rw [Array.length_toList] at this
      rw [List.range_eq_range']
      exact this
    | true =>
      have h1 : stepsD T call kp ops.toList ops.toList (aheads ops.toList []) 0 [] (clr tm) s = .ok tm1 s' := h1
      refine wp_region_any hm ?_
      exact draw_sim hk hC hloc hok.1 (by simpa using hok.2) h1 hsx hE.clr hE.ki (hG.same (w' := { w with drawn := w.drawn + 1 }) rfl) (hr.same (w' := { w with drawn := w.drawn + 1 }) rfl) hf fun a' ρ' w' hE' hp => hQ a' ρ' w' hE' (hp.base rfl (Below.refl 0 w).drew)
  | seq x y ihx ihy =>
    intro hok tm s a w ρ r s' Q h hsx hE hG hr hf hQ
    unfold codeOk at hok
    rw [Bool.and_eq_true] at hok
    have h : cSeq (evC x) (evC y) T call kp tm s = .ok r s' := h
    rw [cSeq_eq] at h
    obtain ⟨r1, s1, h1, h2⟩ := bnd_ok h
    obtain ⟨_, _, n1, m1, _⟩ := loc_code (T := T) hloc kp x tm s r1 s1 h1 hsx
    refine wp_seq ?_
    cases r1 with
    | nm tm1 =>
      have h2 : evC y T call kp tm1 s1 = .ok r s' := h2
      obtain ⟨_, _, n2, m2, _⟩ := loc_code (T := T) hloc kp y tm1 s1 r s' h2 m1
      refine ihx hok.1 tm s a w ρ _ s1 _ h1 hsx hE hG hr (hf.sub n2) fun a1 ρ1 w1 hE1 hp1 => ?_
      exact ihy hok.2 tm1 s1 a1 w1 ρ1 r s' Q h2 m1 hE1 (hG.step hp1) hp1.hr (hf.step hp1 n1 n2) fun a' ρ' w' hE' hp' => hQ a' ρ' w' hE' (hp1.trans hp' n1 n2)
    | ex i tm1 =>
      cases h2
      exact ihx hok.1 tm s a w ρ _ _ _ h1 hsx hE hG hr hf hQ
    | rt tm1 =>
      cases h2
      exact ihx hok.1 tm s a w ρ _ _ _ h1 hsx hE hG hr hf hQ
  | cond x y z ihy ihz =>
    intro hok tm s a w ρ r s' Q h hsx hE hG hr hf hQ
    unfold codeOk at hok
    rw [Bool.and_eq_true, Bool.and_eq_true] at hok
    obtain ⟨v, e, h1⟩ := avC_ok h
    obtain ⟨t, rfl, h1⟩ := scB_ok h1
    have hx := hE.op hG hok.1
    rw [e] at hx
    have hx : a.eval x = .bool t := hx
    refine wp_cond hx ?_
    cases t with
    | true => exact ihy hok.2.1 tm s a w ρ r s' Q h1 hsx hE hG hr hf hQ
    | false => exact ihz hok.2.2 tm s a w ρ r s' Q h1 hsx hE hG hr hf hQ
  | block id y ih =>
    intro hok tm s a w ρ r s' Q h hsx hE hG hr hf hQ
    have h : cBlock id (evC y) T call kp tm s = .ok r s' := h
    rw [cBlock_eq] at h
    obtain ⟨r1, s1, h1, h2⟩ := bnd_ok h
    refine wp_block ?_
    cases r1 with
    | nm tm1 =>
      cases h2
      exact ih hok tm s a w ρ _ _ _ h1 hsx hE hG hr hf hQ
    | ex i tm1 =>
      have h2 : @Bool.rec (fun _ => M EX) (ret (.ex i tm1)) (ret (.nm tm1)) (Nat.beq i id) s1 = .ok r s' := h2
      cases hb : Nat.beq i id with
      | false =>
        rw [hb] at h2
        cases h2
        refine ih hok tm s a w ρ _ _ _ h1 hsx hE hG hr hf fun a' ρ' w' hE' hp => ?_
        show if i = id then _ else _
        rw [if_neg (Nat.ne_of_beq_eq_false hb)]
        exact hQ a' ρ' w' hE' hp
      | true =>
        rw [hb] at h2
        cases h2
        refine ih hok tm s a w ρ _ _ _ h1 hsx hE hG hr hf fun a' ρ' w' hE' hp => ?_
        show if i = id then _ else _
        rw [if_pos (Nat.eq_of_beq_eq_true hb)]
        exact hQ a' ρ' w' hE' hp
    | rt tm1 =>
      cases h2
      exact ih hok tm s a w ρ _ _ _ h1 hsx hE hG hr hf hQ
  | loop y ih =>
    intro hok tm s a w ρ r s' Q h hsx hE hG hr hf hQ
    have h : loopF (evC y T call kp) 5000 tm s = .ok r s' := h
    have hl := loc_loop (loc_code (T := T) hloc kp y)
    refine wp_loop_ghost (fun k a1 w1 => ∃ tm1 s1 ρ1, loopF (evC y T call kp) k tm1 s1 = .ok r s' ∧ s1.nx ≤ 32768 ∧ s.nx ≤ s1.nx ∧ ER env ρ1 kp n tm1 a1 ∧ Post env ρ s.h s.nx w ρ1 s1.h s1.nx w1) 5000 ⟨tm, s, ρ, h, hsx, Nat.le_refl _, hE, Post.refl hr _⟩ ?_
    rintro k a1 w1 ⟨tm1, s1, ρ1, h1, hsx1, hle1, hE1, hp1⟩
    cases k with
    | zero => exact no_ok h1
    | succ k =>
      obtain ⟨_, _, n0, m0, _⟩ := hl (k + 1) tm1 s1 r s' h1 hsx1
      rw [loopF_eq] at h1
      obtain ⟨r2, s2, h2, h3⟩ := bnd_ok h1
      obtain ⟨_, _, n2, m2, _⟩ := loc_code (T := T) hloc kp y tm1 s1 r2 s2 h2 hsx1
      have hf1 := hf.step hp1 hle1 n0
      cases r2 with
      | nm tm2 =>
        have h3 : loopF (evC y T call kp) k tm2 s2 = .ok r s' := h3
        obtain ⟨_, _, n3, m3, _⟩ := hl k tm2 s2 r s' h3 m2
        exact ih hok tm1 s1 a1 w1 ρ1 _ s2 _ h2 hsx1 hE1 (hG.step hp1) hp1.hr (hf1.sub n3) fun a' ρ' w' hE' hp' => ⟨k, Nat.lt_succ_self k, tm2, s2, ρ', h3, m2, Nat.le_trans hle1 n2, hE', hp1.trans hp' hle1 n2⟩
      | ex i tm2 =>
        cases h3
        exact ih hok tm1 s1 a1 w1 ρ1 _ _ _ h2 hsx1 hE1 (hG.step hp1) hp1.hr hf1 fun a' ρ' w' hE' hp' => hQ a' ρ' w' hE' (hp1.trans hp' hle1 n2)
      | rt tm2 =>
        cases h3
        exact ih hok tm1 s1 a1 w1 ρ1 _ _ _ h2 hsx1 hE1 (hG.step hp1) hp1.hr hf1 fun a' ρ' w' hE' hp' => hQ a' ρ' w' hE' (hp1.trans hp' hle1 n2)
  | _ =>
    intro _ tm s a w ρ r s' Q h
    exact no_ok h
/-! results -/
def resOk (n : Nat) : ResultVar → Bool
  | .tmp t => Nat.blt t n
  | .cell t _ => Nat.blt t n
def rsF (a : Act) : ResultVar → Sem Value
  | .tmp t => pure (a.tmps.getD t undef)
  | .cell ad t => do loadVar t (← asAddr (a.tmps.getD ad undef))
theorem resV_sim {r : ResultVar} {v : AV} (h : resV r T tm s = .ok v s') (hok : resOk n r = true) (hE : ER env ρ kp n tm a) (hr : HR env ρ s.h w) : ∃ v', (rsF a r).run T.P w = .ok v' w ∧ VA env ρ v v' ∧ s'.h = s.h ∧ s'.nx = s.nx := by
  cases r with
  | tmp t =>
    cases h
    exact ⟨_, rfl, hE.at' t (blt_t hok), rfl, rfl⟩
  | cell ad t =>
    have h : oLoad t (.tmp ad) T (fun _ _ => no 93) tm s = .ok v s' := h
    have hx : VA env ρ (evo (.tmp ad) tm) (a.eval (.tmp ad)) := hE.at' ad (blt_t hok)
    obtain ⟨v', h1, h2, h3, h4, _, adr, h5⟩ := s_load' (rc := a.eval) (w := w) h hx hr
    have h5 : a.tmps.getD ad undef = .pointer (some adr) := h5
    refine ⟨v', ?_, h2, h3, h4⟩
    have h1 : (Instr.loadAt t (a.tmps.getD ad undef)).run T.P w = .ok v' w := h1
    show (do loadVar t (← asAddr (a.tmps.getD ad undef)) : Sem Value).run T.P w = _
    rw [h5] at h1 ⊢
    simp only [Instr.loadAt, Instr.sureAddr, Sem.run_bind, Sem.run_pure, Result.andThen_ok] at h1
    simp only [asAddr, Sem.run_bind, Sem.run_pure, Result.andThen_ok]
    exact h1
theorem tcOf_V {v : AV} {c : TC} {u : Value} (h : tcOf v = some c) (hv : VA env ρ v u) : VT env ρ c u := by
  cases v with
  | c x => cases h; exact hv
  | ag l => cases h; exact hv
  | tp l => cases h
  | u => cases h
theorem resVs_sim (hE : ER env ρ kp n tm a) : ∀ {rs : List ResultVar} {l : List TC} {s : St}, resVs T tm rs s = .ok l s' → (∀ r ∈ rs, resOk n r = true) → HR env ρ s.h w → ∃ vs, (rs.mapM (rsF a)).run T.P w = .ok vs w ∧ All2 (VT env ρ) l vs ∧ s'.h = s.h ∧ s'.nx = s.nx
  | [], l, s, h, _, hr => by cases h; exact ⟨[], rfl, .nil, rfl, rfl⟩
  | r :: rs, l, s, h, hok, hr => by
    obtain ⟨v, s1, h1, h2⟩ := bnd_ok h
    obtain ⟨c, hc, h2⟩ := optm_ok h2
    obtain ⟨l', s2, h3, h4⟩ := bnd_ok h2
    cases h4
    obtain ⟨v', q1, q2, q3, q4⟩ := resV_sim h1 (hok r (List.mem_cons_self ..)) hE hr
    obtain ⟨vs, p1, p2, p3, p4⟩ := resVs_sim (s := s1) hE h3 (fun r' hr' => hok r' (List.mem_cons_of_mem _ hr')) (by rw [q3]; exact hr)
    refine ⟨v' :: vs, ?_, .cons (tcOf_V hc q2) p2, by rw [p3, q3], by rw [p4, q4]⟩
    rw [List.mapM_cons]
    simp only [Sem.run_bind, q1, Result.andThen_ok, p1, Sem.run_pure]
theorem results_sim {fn : Func} {v : AV} (h : results fn.results.toList T tm s = .ok v s') (hok : ∀ r ∈ fn.results.toList, resOk n r = true) (hE : ER env ρ kp n tm a) (hr : HR env ρ s.h w) : ∃ v', (Go.results fn a.tmps).run T.P w = .ok v' w ∧ VA env ρ v v' ∧ s'.h = s.h ∧ s'.nx = s.nx := by
  have hrun : ∀ {vs : List Value}, (fn.results.toList.mapM (rsF a)).run T.P w = .ok vs w → (Go.results fn a.tmps).run T.P w = .ok (if h : vs.toArray.size = 1 then vs.toArray[0] else .tuple vs.toArray) w := fun {vs} hv => by
    have e : Go.results fn a.tmps = (do let vs ← fn.results.mapM (rsF a); pure (if h : vs.size = 1 then vs[0] else .tuple vs)) := by
      unfold Go.results
      congr 1
    rw [e, Sem.run_bind, Array.mapM_eq_mapM_toList, Sem.run_map, hv]
    rfl
  have many : (∀ r, fn.results.toList ≠ [r]) → bnd (resVs T tm fn.results.toList) (fun l => ret (.tp l)) s = .ok v s' → ∃ v', (Go.results fn a.tmps).run T.P w = .ok v' w ∧ VA env ρ v v' ∧ s'.h = s.h ∧ s'.nx = s.nx := by
    intro hne h
    obtain ⟨l, s1, h1, h2⟩ := bnd_ok h
    cases h2
    obtain ⟨vs, p1, p2, p3, p4⟩ := resVs_sim hE h1 hok hr
    refine ⟨.tuple vs.toArray, ?_, ⟨vs.toArray, rfl, by simpa using p2⟩, p3, p4⟩
    rw [hrun p1, dif_neg]
    intro hs
    have hl : fn.results.toList.length = 1 := by
      have : ∀ {rs : List ResultVar} {l : List TC} {s s' : St}, resVs T tm rs s = .ok l s' → l.length = rs.length := by
        intro rs
        induction rs with
        | nil => intro l s s' h; cases h; rfl
        | cons r rs ih =>
          intro l s s' h
          obtain ⟨v, s1, _, h2⟩ := bnd_ok h
          obtain ⟨c, _, h2⟩ := optm_ok h2
          obtain ⟨l', s2, h3, h4⟩ := bnd_ok h2
          cases h4
          rw [List.length_cons, List.length_cons, ih h3]
      rw [← this h1, p2.len]
      simpa using hs
    match hq : fn.results.toList, hl with
    | [r], _ => exact hne r hq
  cases e : fn.results.toList with
  | nil => rw [e] at h; exact many (fun r => by rw [e]; exact fun q => by cases q) (by rw [e]; exact h)
  | cons r l =>
    cases l with
    | cons r2 l => rw [e] at h; exact many (fun r => by rw [e]; exact fun q => by cases q) (by rw [e]; exact h)
    | nil =>
      rw [e] at h
      have h : resV r T tm s = .ok v s' := h
      obtain ⟨v', q1, q2, q3, q4⟩ := resV_sim h (hok r (by rw [e]; exact List.mem_cons_self ..)) hE hr
      refine ⟨v', ?_, q2, q3, q4⟩
      refine (hrun (vs := [v']) ?_).trans rfl
      rw [e, List.mapM_cons, List.mapM_nil]
      simp only [Sem.run_bind, q1, Result.andThen_ok, Sem.run_pure]
end
end Ev
end Go.Proofs.YtgfhddhkillchaaGreatDoor
