/- KNOWN: what the evaluator says of a text is so. -/
import Derived.Test.YtgfhddhkillchaaGreatDoorEvS
import Derived.Test.YtgfhddhkillchaaGreatDoorEvT
import Derived.WalkKit
import Derived.Test.YtgfhddhkillchaaGreatDoorChecked
set_option linter.unusedVariables false
set_option linter.unusedSimpArgs false
namespace Go.Proofs.YtgfhddhkillchaaGreatDoor
open Ev Go.RowKit
theorem eqL_eq : ∀ {l m : List Nat}, eqL l m = true → l = m
  | [], [], _ => rfl
  | x :: l, y :: m, h => by
    have h : (Nat.beq x y && eqL l m) = true := h
    rw [Bool.and_eq_true] at h
    rw [Nat.eq_of_beq_eq_true h.1, eqL_eq h.2]
  | [], _ :: _, h => by cases h
  | _ :: _, [], h => by cases h
theorem eqI_eq {z : Int} {n : Nat} (h : eqI z n = true) : z = .ofNat n := by
  cases z with
  | ofNat m => rw [Nat.eq_of_beq_eq_true h]
  | negSucc m => cases h
/-- the variable as it is laid -/
def Lw (w : World) : Prop := ∀ i x, texts[i]? = some x → ∃ v, w.cell? ⟨0, i, none⟩ = some v ∧ ∀ env ρ, VS env ρ x v
def r0 (z : Nat) : Rh := fun g => if g = 0 then some (0, z) else none
theorem hp0_at {i : Nat} (hi : i < 32768) : get5 i hp0 = if i = 0 then Bk.of texts else dead := by
  unfold hp0
  rw [l5.2 i 0 _ _ hi (by omega), full5_get]
theorem live0 {i : Nat} : Live hp0 i ↔ i = 0 := by
  constructor
  · rintro ⟨h1, h2⟩
    rw [hp0_at h1] at h2
    by_cases e : i = 0
    · exact e
    · rw [if_neg e] at h2; exact absurd h2 (Nat.not_lt_zero _)
  · rintro rfl
    refine ⟨by omega, ?_⟩
    rw [hp0_at (by omega), if_pos rfl]
    exact (ofC_room texts.length texts).1
theorem st0_eq : st0 = ⟨hp0, 8, 0, 0⟩ := by
  unfold st0 hp0
  rw [l5.1]
theorem hr0 {env : Nat → Value} {w : World} (hw : Lw w) : ∃ z, HR env (r0 z) hp0 w := by
  obtain ⟨v0, h0, _⟩ := hw 0 _ rfl
  unfold World.cell? at h0
  cases hb : w.heap[0]? with
  | none => simp only [hb] at h0; cases h0
  | some B =>
    cases B with
    | cells arr ty fz =>
      obtain ⟨lo, hi⟩ := fz
      have hc : ∀ i x, texts[i]? = some x → ∃ v, arr[i]? = some v ∧ ∀ env ρ, VS env ρ x v := fun i x hx => by
        obtain ⟨v, h1, h2⟩ := hw i x hx
        unfold World.cell? at h1
        simp only [hb] at h1
        exact ⟨v, by simpa using h1, h2⟩
      have hsz : 35 ≤ arr.size := by
        obtain ⟨v, h1, _⟩ := hc 34 _ rfl
        have := (Array.getElem?_eq_some_iff.1 h1).1
        omega
      refine ⟨arr.size, fun i hl => ?_, fun i hi' hd => ?_, fun i j k z z' hi' hj _ _ => by rw [live0.1 hi', live0.1 hj], fun i x e => ?_⟩
      · obtain rfl := live0.1 hl
        rw [hp0_at (by omega), if_pos rfl]
        refine ⟨0, arr, ty, lo, hi, rfl, hb, .inl (by omega), hsz, (ofC_room 35 texts).2 (by omega), fun j hj => ?_⟩
        have hj : j < 35 := hj
        obtain ⟨v, h1, h2⟩ := hc j (texts.getD j .se) (by
          have : j < texts.length := hj
          rw [List.getD_eq_getElem?_getD, List.getElem?_eq_getElem this]; rfl)
        refine ⟨v, h1, ?_⟩
        have e : ((Bk.of texts).t.get j) = texts.getD j .se := ofC_get (n := 35) texts hj (by omega)
        rw [e]
        exact h2 env _
      · rw [hp0_at hi'] at hd ⊢
        by_cases e : i = 0
        · rw [if_pos e] at hd
          have := (ofC_room 35 texts).1
          exact absurd hd (Nat.ne_of_gt this)
        · rw [if_neg e]; rfl
      · unfold r0 at e
        split at e
        · omega
        · cases e
    | _ => simp only [hb] at h0; cases h0
theorem Lw.of {w w' : World} (h : Lw w) (e : w'.heap[0]? = w.heap[0]?) : Lw w' := fun i x hx => by
  obtain ⟨v, h1, h2⟩ := h i x hx
  refine ⟨v, ?_, h2⟩
  unfold World.cell? at h1 ⊢
  simp only [e]
  exact h1
def Gw (w : World) : Gs := ⟨1, w, by omega⟩
theorem gl0 {w : World} (z : Nat) : Gl (Gw w) (r0 z) hp0 w := ⟨fun g hg => ⟨z, by
  have h : g < 1 := hg
  have e : g = 0 := by omega
  rw [e]; rfl⟩, fun g hg => live0.2 (by have : g < 1 := hg; omega), fun _ _ => rfl⟩
theorem below0 {env : Nat → Value} {z : Nat} {w w' : World} {ρ' : Rh} {h' : Hp} {n' : Nat} (hr : HR env (r0 z) hp0 w) (hp : Post env (r0 z) hp0 8 w ρ' h' n' w') : Below w.heap.size w w' := by
  refine ⟨hp.low.os, hp.low.tape, hp.low.output, hp.low.size, fun k hk => ?_⟩
  by_cases e : k = 0
  · subst e
    exact (hp.ro 0 0 z (by omega) (live0.2 rfl) rfl).2
  · exact hp.keep k hk fun i z' hl e' => by
      obtain rfl := live0.1 hl
      cases e'
      exact e rfl
theorem call0 {T : Tab} {env : Nat → Value} {w : World} (hk : Ok T env) (hP : PrOk T.P 1) (hH : HkOk T env (Gw w)) (hw : Lw w) {m f : Nat} {args : List AV} {us : List Value} {v : AV} {s' : St} (h : evF T m f args st0 = .ok v s') (ha : ∀ ρ, All2 (VA env ρ) args us) :
    FnOk T.P f ∧ Calls T.P f us.toArray w fun e w' => ∃ v', e = .returned v' ∧ (∃ ρ', VA env ρ' v v') ∧ Below w.heap.size w w' := by
  obtain ⟨z, hr⟩ := hr0 (env := env) hw
  rw [st0_eq] at h
  obtain ⟨h1, h2⟩ := fn_sim (N := Gw w) hk hP hH m f args _ v s' (r0 z) w us h (by show 8 ≤ 32768; omega) (gl0 z) (ha _) hr (fun i hi _ => if_neg (by have : 8 ≤ i := hi; omega))
  exact ⟨h1, h2.mono fun e w' ⟨v', ρ', e1, e2, e3⟩ => ⟨v', e1, ⟨ρ', e2⟩, below0 hr e3⟩⟩
/-- a call that turns nothing -/
theorem Post.frame {env : Nat → Value} {ρ : Rh} {h : Hp} {w w' : World} (hr : HR env ρ h w) (hb : Below w.heap.size w w') (n : Nat) : Post env ρ h n w ρ h n w' := by
  have hh : HR env ρ h w' := ⟨fun i hl => (hr.blk i hl).ext (Ext.refl _) fun k z e => hb.block k (hr.lt hl e), hr.ded, hr.inj, hr.dom⟩
  exact ⟨Ext.refl _, fun i x e => .inl e, hh, fun k hk _ => hb.block k hk, fun i k z hl e _ => ⟨i, z, hl, e⟩, hb.mono (Nat.zero_le _), fun g k z _ hl e => ⟨hl, hb.block k (hr.lt hl e)⟩⟩
theorem ok_of {env : Nat → Value} (he : EnvOk env) (hk : Nat → List AV → Option AV) : Ok (Tb hk) env := ⟨he, (fun op x y r t xo yo ρ vx vy w e => by cases e), (fun op x r ρ vx w e => by cases e)⟩
theorem hk_none {env : Nat → Value} {N : Gs} : HkOk T0 env N := fun f args v ρ w us h n e => by cases e
set_option maxRecDepth 100000 in
theorem pr_all : (Tryz.prog.funcs.toList.all (fnOk 1)) = true := by kernel_rfl
theorem pr_mixed : Tryz.prog.follows .mixedOrders = true := by kernel_rfl
theorem pr_ok : PrOk Tryz.prog 1 := ⟨fun f fn h => List.all_eq_true.1 pr_all fn (by rw [← Array.getElem?_toList] at h; exact List.mem_of_getElem? h), pr_mixed⟩
/-- which text -/
def PickIs (c : Int) (k : Nat) : Prop := ∀ w, Calls Tryz.prog 6 #[.int .i64 c, .int .i64 50] w fun e w' => e = .returned (.int .i64 (k : Nat)) ∧ w' = w
theorem fn6 : FnOk Tryz.prog 6 := ⟨_, Tryz.func6, by kernel_rfl, by kernel_rfl⟩
theorem all2_two {R : AV → Value → Prop} {a b : AV} {us : List Value} (h : All2 R [a, b] us) : ∃ u v, us = [u, v] ∧ R a u ∧ R b v := by
  cases h with
  | cons h1 h =>
    cases h with
    | cons h2 h =>
      cases h
      exact ⟨_, _, rfl, h1, h2⟩
theorem tp3 {env env' : Nat → Value} {ρ ρ' : Rh} {t : List Nat} {k k' : IntKind} {a b : Int} {v : Value} (h : VA env ρ (.tp [.c (.s t), .c (.i k a), .c (.i k' b)]) v) : VA env' ρ' (.tp [.c (.s t), .c (.i k a), .c (.i k' b)]) v := by
  obtain ⟨arr, e, h⟩ := h
  refine ⟨arr, e, ?_⟩
  generalize arr.toList = l at h
  cases h with
  | cons h1 h =>
    cases h with
    | cons h2 h =>
      cases h with
      | cons h3 h =>
        cases h
        exact .cons h1 (.cons h2 (.cons h3 .nil))
theorem isI_ok {F : Fx} {r : R AV} (h : isI F r = true) : ∃ s', r = .ok (.tp [.c (.s F.ty), .c (.i .i64 (.ofNat F.err)), .c (.i .i64 (.ofNat F.at'))]) s' := by
  unfold isI at h
  split at h
  · rename_i t e a s
    rw [Bool.and_eq_true, Bool.and_eq_true] at h
    rw [eqL_eq h.1, eqI_eq h.2.1, eqI_eq h.2.2]
    exact ⟨_, rfl⟩
  · cases h
theorem isC_ok {F : Fx} {r : R AV} (h : isC F r = true) : ∃ s', r = .ok (.tp [.c (.s (txC r)), .c (.i .i64 (.ofNat F.g)), .c (.i .i64 (.ofNat F.q))]) s' := by
  unfold isC at h
  split at h
  · rename_i t e a s
    rw [Bool.and_eq_true] at h
    rw [eqI_eq h.1, eqI_eq h.2]
    exact ⟨_, rfl⟩
  · cases h
theorem isT_ok {r : R AV} (h : isT r = true) : ∃ s', r = .ok (.c (.b true)) s' := by
  unfold isT at h
  split at h
  · exact ⟨_, rfl⟩
  · cases h
theorem fx_call {env : Nat → Value} (he : EnvOk env) {f m : Nat} {x : Sc} {l t : List Nat} {a b : Int} {s' : St} (h : evF T0 m f [.c (.y 0), .c (.s l)] st0 = .ok (.tp [.c (.s t), .c (.i .i64 a), .c (.i .i64 b)]) s') {ρ : Rh} {w : World} {us : List Value} {hh : Hp} {n : Nat} (hw : Lw w) (ha : All2 (VA env ρ) [.c x, .c (.s l)] us) (hr : HR env ρ hh w) :
    FnOk Tryz.prog f ∧ Calls Tryz.prog f us.toArray w fun e w' => ∃ v', e = .returned v' ∧ VA env ρ (.tp [.c (.s t), .c (.i .i64 a), .c (.i .i64 b)]) v' ∧ Post env ρ hh n w ρ hh n w' := by
  obtain ⟨u, v, rfl, h1, h2⟩ := all2_two ha
  have h1 : VS env ρ x u := h1
  have he' : EnvOk fun _ => u := fun _ => h1.one he
  obtain ⟨q1, q2⟩ := call0 (T := T0) (env := fun _ => u) (ok_of he' _) pr_ok hk_none hw h (us := [u, v]) (fun ρ' => .cons (show VS (fun _ => u) ρ' (.y 0) u from rfl) (.cons h2 .nil))
  exact ⟨q1, q2.mono fun e w' ⟨v', e1, ⟨ρ', e2⟩, e3⟩ => ⟨v', e1, tp3 e2, Post.frame hr e3 n⟩⟩
theorem hk_k {c : Int} {k : Nat} (hI : isI (fk k) (rI k) = true) (hC : isC (fk k) (rC k) = true) (hp : PickIs c k) {env : Nat → Value} (he : EnvOk env) (h0 : env 0 = .int .i64 c) {W : World} (hW : Lw W) : HkOk (Tb (hkK k)) env (Gw W) := by
  intro f args v ρ w us h n e hG ha hr
  have hw : Lw w := hW.of (hG.as' 0 (by show 0 < 1; omega))
  replace e : hkK k f args = some v := e
  unfold hkK at e
  cases hf : Nat.beq f 9 with
  | true =>
    rw [hf] at e
    replace e : hkI k args = some v := e
    obtain rfl := Nat.eq_of_beq_eq_true hf
    unfold hkI at e
    split at e
    · rename_i x l
      cases hl : eqL l (fk k).src with
      | false => rw [hl] at e; cases e
      | true =>
        rw [hl] at e
        cases e
        obtain rfl := eqL_eq hl
        obtain ⟨s', hs⟩ := isI_ok hI
        exact fx_call he hs hw ha hr
    · cases e
  | false =>
    rw [hf] at e
    cases hf2 : Nat.beq f 10 with
    | true =>
      rw [hf2] at e
      replace e : hkC k args = some v := e
      obtain rfl := Nat.eq_of_beq_eq_true hf2
      unfold hkC at e
      split at e
      · rename_i x l
        cases hl : eqL l (fk k).src with
        | false => rw [hl] at e; cases e
        | true =>
          rw [hl] at e
          cases e
          obtain rfl := eqL_eq hl
          obtain ⟨s', hs⟩ := isC_ok hC
          exact fx_call he hs hw ha hr
      · cases e
    | false =>
      rw [hf2] at e
      cases hf3 : Nat.beq f 6 with
      | false => rw [hf3] at e; cases e
      | true =>
        rw [hf3] at e
        replace e : hP k args = some v := e
        obtain rfl := Nat.eq_of_beq_eq_true hf3
        unfold hP at e
        split at e
        · rename_i m
          cases hm : eqI m 50 with
          | false => rw [hm] at e; cases e
          | true =>
            rw [hm] at e
            cases e
            rw [eqI_eq hm] at ha
            obtain ⟨u, v, rfl, h1, h2⟩ := all2_two ha
            have h1 : u = env 0 := h1
            have h2 : v = .int .i64 (.ofNat 50) := h2
            rw [h0] at h1
            subst h1
            subst h2
            refine ⟨fn6, (hp w).mono fun e w' ⟨e1, e2⟩ => ?_⟩
            subst e2
            exact ⟨_, e1, rfl, Post.refl hr n⟩
        · cases e
theorem known_k {c : Int} {k : Nat} (hI : isI (fk k) (rI k) = true) (hC : isC (fk k) (rC k) = true) (hT : isT (rK k) = true) (hp : PickIs c k) {w : World} (hw : Lw w) :
    Calls Tryz.prog 3 #[.int .i64 c] w fun e w' => e = .returned (.bool true) ∧ Below w.heap.size w w' := by
  have he : EnvOk fun _ => .int .i64 c := fun _ => rfl
  obtain ⟨s', hs⟩ := isT_ok hT
  obtain ⟨_, q⟩ := call0 (T := Tb (hkK k)) (ok_of he _) pr_ok (hk_k hI hC hp he rfl hw) hw (us := [.int .i64 c]) hs fun ρ => .cons rfl .nil
  exact q.mono fun e w' ⟨v', e1, ⟨ρ', e2⟩, e3⟩ => by
    have e2 : v' = .bool true := e2
    subst e2
    exact ⟨e1, e3⟩
theorem pick_is {c : Int} (hc : -9223372036854775808 ≤ c ∧ c ≤ 9223372036854775807) : ∃ k, k < 50 ∧ PickIs c k := by
  have hm : ∀ z : Int, 0 ≤ z → ∃ k : Nat, k < 50 ∧ z.tmod 50 = (k : Nat) := fun z hz => by
    have h1 := Int.tmod_nonneg (50 : Int) hz
    have h2 := Int.tmod_lt_of_pos z (show (0 : Int) < 50 by omega)
    exact ⟨(z.tmod 50).toNat, by omega, by omega⟩
  by_cases h : c < 0
  · have g1 : decide (c < (0 : Int)) = true := by simpa using h
    obtain ⟨k, hk, e⟩ := hm (-(c + 1)) (by omega)
    have w1 : IntKind.i64.wrap (c + 1) = c + 1 := by rw [IntKind.wrap_i64]; omega
    have w2 : IntKind.i64.wrap (-(c + 1)) = -(c + 1) := by rw [IntKind.wrap_i64]; omega
    refine ⟨k, hk, fun w => ?_⟩
    go_enter Tryz.func6, Tryz.ntmps6
    go_wp2
    go_ret
    exact ⟨rfl, rfl⟩
  · have g1 : decide (c < (0 : Int)) = false := by simpa using h
    obtain ⟨k, hk, e⟩ := hm c (by omega)
    refine ⟨k, hk, fun w => ?_⟩
    go_enter Tryz.func6, Tryz.ntmps6
    go_wp2
    go_ret
    exact ⟨rfl, rfl⟩
end Go.Proofs.YtgfhddhkillchaaGreatDoor
