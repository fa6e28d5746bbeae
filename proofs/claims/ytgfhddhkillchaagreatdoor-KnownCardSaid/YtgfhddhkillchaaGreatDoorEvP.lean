import Derived.Test.YtgfhddhkillchaaGreatDoorEvO
set_option linter.unusedVariables false
set_option linter.unusedSimpArgs false
namespace Go.Proofs.YtgfhddhkillchaaGreatDoor
namespace Ev
/-! bits -/
theorem kept_bit (m k : Nat) : kept m k = 0 ↔ m.testBit k = false := by
  show (m >>> k) &&& 1 = 0 ↔ _
  unfold Nat.testBit
  rw [Nat.and_comm]
  cases h : (1 &&& (m >>> k)) with
  | zero => simp
  | succ q => simp
theorem news_bit {a b x : Nat} (h : a ≤ b) : (news a b).testBit x = true ↔ a ≤ x ∧ x < b := by
  have e : news a b = (2 ^ (b - a) - 1) <<< a := by
    show 1 <<< b - 1 <<< a = _
    rw [Nat.one_shiftLeft, Nat.one_shiftLeft, Nat.shiftLeft_eq, Nat.sub_mul, Nat.one_mul, ← Nat.pow_add, show b - a + a = b by omega]
  rw [e, Nat.testBit_shiftLeft, Nat.testBit_two_pow_sub_one, Bool.and_eq_true, decide_eq_true_eq, decide_eq_true_eq]
  omega
theorem and_zero {a b x : Nat} (h : a &&& b = 0) (ha : a.testBit x = true) : b.testBit x = false := by
  have := congrArg (fun q => q.testBit x) h
  simp only [Nat.testBit_and, ha, Bool.true_and, Nat.zero_testBit] at this
  exact this
theorem or_zero' {a b : Nat} (h : a ||| b = 0) : a = 0 ∧ b = 0 := by
  constructor
  · apply Nat.eq_of_testBit_eq
    intro i
    have := congrArg (fun q => q.testBit i) h
    simp only [Nat.testBit_or, Nat.zero_testBit, Bool.or_eq_false_iff] at this
    rw [Nat.zero_testBit]; exact this.1
  · apply Nat.eq_of_testBit_eq
    intro i
    have := congrArg (fun q => q.testBit i) h
    simp only [Nat.testBit_or, Nat.zero_testBit, Bool.or_eq_false_iff] at this
    rw [Nat.zero_testBit]; exact this.2
theorem apart_at {f : Nat → Tr1} {rd wr : Nat → Nat} {bf r w : Nat} : ∀ {n : Nat}, apart bf r w (lgs f rd wr n) = true → ∀ i, i < n → bf.testBit i = false → clash r w (rd i) (wr i ||| news (f i).nx (f (i + 1)).nx) = 0
  | 0, _, i, hi, _ => by omega
  | n + 1, h, i, hi, hb => by
    have h : @Nat.rec (fun _ => Bool) (@Nat.rec (fun _ => Bool) (apart bf r w (lgs f rd wr n)) (fun _ _ => false) (clash r w (rd n) (wr n ||| news (f n).nx (f (n + 1)).nx))) (fun _ _ => apart bf r w (lgs f rd wr n)) (kept bf n) = true := h
    by_cases e : i = n
    · subst e
      rw [(kept_bit bf i).2 hb] at h
      cases hc : clash r w (rd i) (wr i ||| news (f i).nx (f (i + 1)).nx) with
      | zero => rfl
      | succ q => rw [hc] at h; cases h
    · refine apart_at (n := n) ?_ i (by omega) hb
      cases hk : kept bf n with
      | succ q => rw [hk] at h; exact h
      | zero =>
        rw [hk] at h
        cases hc : clash r w (rd n) (wr n ||| news (f n).nx (f (n + 1)).nx) with
        | zero => rw [hc] at h; exact h
        | succ q => rw [hc] at h; cases h
theorem clash_zero {r w gr gw x : Nat} (h : clash r w gr gw = 0) : (gw.testBit x = true → r.testBit x = false ∧ w.testBit x = false) ∧ (w.testBit x = true → gr.testBit x = false ∧ gw.testBit x = false) := by
  have h : (gw &&& r) ||| ((gw &&& w) ||| (gr &&& w)) = 0 := h
  obtain ⟨h1, h2⟩ := or_zero' h
  obtain ⟨h2, h3⟩ := or_zero' h2
  refine ⟨fun hx => ⟨and_zero h1 hx, and_zero h2 hx⟩, fun hx => ⟨?_, ?_⟩⟩
  · rw [Nat.and_comm] at h3; exact and_zero h3 hx
  · rw [Nat.and_comm] at h2; exact and_zero h2 hx
/-! what is kept -/
structure KI (kp : Nat) (tm : Tm) : Prop where
  kt : ∀ k, k < 512 → kept kp k ≠ 0 → tget k tm = get3 k tm.v
  un : ∀ k, k < 512 → kept kp k = 0 → get3 k tm.v = .u
theorem KI.put {kp : Nat} {tm tm' : Tm} {dst : Option Tmp} (h : KI kp tm) (hd : ∀ d, dst = some d → d < 512) (ht : TmS kp dst tm tm') : KI kp tm' := by
  obtain ⟨v, rfl⟩ := ht
  cases dst with
  | none => exact h
  | some d =>
    have hd : @LT.lt Nat _ d 512 := hd d rfl
    refine ⟨fun k hk hk0 => ?_, fun k hk hk0 => ?_⟩
    · rw [tget_put hd hk, v_put hd hk]
      by_cases e : k = d
      · rw [if_pos e, if_pos ⟨e, by rw [← e]; exact hk0⟩]
      · rw [if_neg e, if_neg (fun h => e h.1)]; exact h.kt k hk hk0
    · rw [v_put hd hk, if_neg (fun h => h.2 (by rw [← h.1]; exact hk0))]
      exact h.un k hk hk0
section
variable {T : Tab} {env : Nat → Value} {ρ ρ' : Rh} {w w' : World} {tm tm' : Tm} {call : Cal} {s s' : St} {kp n N : Nat} {a : Act} {h h' : Hp}
theorem ER.ki (hE : ER env ρ kp n tm a) : KI kp (Ev.clr tm) := by
  cases tm
  exact ⟨fun k _ _ => rfl, hE.un⟩
theorem ER.of (hs : a.tmps.size = n) (hn : n ≤ 512) (hd : a.defers = []) (hk : KI kp tm) (h : ∀ k, k < n → VA env ρ (tget k tm) (a.tmps.getD k undef)) : ER env ρ kp n tm a :=
  ⟨hs, hn, h, fun k hk' => by
    by_cases e : kept kp k = 0
    · rw [hk.un k (by omega) e]; trivial
    · rw [← hk.kt k (by omega) e]; exact h k hk', hk.un, hd⟩
theorem Live.congr (he : ∀ x, x < 32768 → get5 x h = get5 x h') (i : Nat) : Live h i ↔ Live h' i := by
  unfold Live
  exact and_congr_right fun hi => by rw [he i hi]
theorem Post.congr {n' : Nat} {t : Hp} (hp : Post env ρ h n w ρ' t n' w') (he : ∀ x, x < 32768 → get5 x t = get5 x h') : Post env ρ h n w ρ' h' n' w' :=
  ⟨hp.ext, hp.new, ⟨fun i hl => by rw [← he i hl.1]; exact hp.hr.blk i ((Live.congr he i).2 hl), fun i hi hd => by rw [← he i hi] at hd ⊢; exact hp.hr.ded i hi hd, fun i j k z z' h1 h2 => hp.hr.inj i j k z z' ((Live.congr he i).2 h1) ((Live.congr he j).2 h2), hp.hr.dom⟩, hp.keep, fun i k z hl => hp.orig i k z ((Live.congr he i).2 hl), hp.low, fun g k z hg hl e => by obtain ⟨q1, q2⟩ := hp.ro g k z hg hl e; exact ⟨(Live.congr he g).1 q1, q2⟩⟩
theorem Post.wide {n' m m' : Nat} (hp : Post env ρ h n w ρ' h' n' w') (h1 : m ≤ n) (h2 : n' ≤ m') : Post env ρ h m w ρ' h' m' w' :=
  ⟨hp.ext, fun i x e => (hp.new i x e).imp id fun q => ⟨by omega, by omega⟩, hp.hr, hp.keep, hp.orig, hp.low, hp.ro⟩
theorem Post.trans' {ρ'' : Rh} {h'' : Hp} {w'' : World} {n' : Nat} (h1 : Post env ρ h n w ρ' h' n' w') (h2 : Post env ρ' h' n w' ρ'' h'' n' w'') : Post env ρ h n w ρ'' h'' n' w'' := by
  refine ⟨h1.ext.trans h2.ext, fun i x e => ?_, h2.hr, fun k hk hl => ?_, fun i k z hl e hk => ?_, h1.low.trans h2.low, fun g k z hg hl e => ?_⟩
  · rcases h2.new i x e with e | e
    · exact h1.new i x e
    · exact .inr e
  · rw [h2.keep k (Nat.lt_of_lt_of_le hk h1.size) (fun i z hi e => ?_), h1.keep k hk hl]
    obtain ⟨j, z', hj, e'⟩ := h1.orig i k z hi e hk
    exact hl j z' hj e'
  · obtain ⟨j, z', hj, e'⟩ := h2.orig i k z hl e (Nat.lt_of_lt_of_le hk h1.size)
    exact h1.orig j k z' hj e' hk
  · obtain ⟨q1, q2⟩ := h1.ro g k z hg hl e
    obtain ⟨q3, q4⟩ := h2.ro g k z hg q1 (h1.ext _ _ e)
    exact ⟨q3, q4.trans q2⟩
theorem operOk_at {o : Oper} (h : operOk N n o = true) : (∀ d, o.dst = some d → d < n) ∧ ∀ x ∈ o.op.operands.toList, tmpLt N n x = true := by
  unfold operOk at h
  rw [Bool.and_eq_true, List.all_eq_true] at h
  refine ⟨fun d hd => ?_, h.2⟩
  rw [hd] at h
  exact blt_t h.1
theorem yldD_at {ops : Array Oper} {j d : Nat} (h : yldD ops.toList j = some d) : ∃ o, ops[j]? = some o ∧ o.dst = some d := by
  unfold yldD at h
  rw [nth_eq, Array.getElem?_toList] at h
  cases hj : ops[j]? with
  | none => rw [hj] at h; cases h
  | some o => rw [hj] at h; exact ⟨o, rfl, h⟩
theorem looks_op {ops : Array Oper} {o : Oper} {t : Nat} (h : Operand.tmp t ∈ o.op.operands.toList) : t ∈ o.looksAt ops := List.mem_append_left _ (List.mem_filterMap.2 ⟨.tmp t, h, rfl⟩)
theorem looks_gd {ops : Array Oper} {o o' : Oper} {j d : Nat} {want : Bool} (hg : o.guard = some (j, want)) (hj : ops[j]? = some o') (hd : o'.dst = some d) : d ∈ o.looksAt ops := by
  unfold Oper.looksAt
  rw [hg]
  exact List.mem_append_right _ (by simp [hj, hd])
/-- how many are not listed -/
def left (listed : Array Bool) : Nat := listed.toList.count false
theorem left_set {listed : Array Bool} {i : Nat} (h : listed.getD i true = false) : left (listed.setIfInBounds i true) + 1 = left listed := by
  have hlt : i < listed.size := by
    rcases Nat.lt_or_ge i listed.size with h' | h'
    · exact h'
    · rw [Array.getD_eq_getD_getElem?, Array.getElem?_eq_none h'] at h; cases h
  have hi : listed.toList[i]'(by rw [Array.length_toList]; exact hlt) = false := by
    rw [Array.getD_eq_getD_getElem?, Array.getElem?_eq_getElem hlt] at h
    simpa using h
  unfold left
  rw [Array.toList_setIfInBounds, List.count_set (by rw [Array.length_toList]; exact hlt), hi]
  have : 0 < listed.toList.count false := List.count_pos_iff.2 (by rw [← hi]; exact List.getElem_mem _)
  have e1 : ((false : Bool) == false) = true := rfl
  have e2 : ((true : Bool) == false) = false := rfl
  rw [e1, e2, if_pos rfl]
  simp only [Bool.false_eq_true, if_false]
  omega
theorem left_zero {listed : Array Bool} (h : left listed = 0) {j : Nat} (hj : j < listed.size) : listed.getD j false = true := by
  have := List.count_eq_zero.1 h
  rw [Array.getD_eq_getD_getElem?, Array.getElem?_eq_getElem hj]
  cases hb : listed[j] with
  | true => rfl
  | false => exact absurd (by rw [← hb]; exact Array.getElem_mem_toList hj) this
end
end Ev
end Go.Proofs.YtgfhddhkillchaaGreatDoor
