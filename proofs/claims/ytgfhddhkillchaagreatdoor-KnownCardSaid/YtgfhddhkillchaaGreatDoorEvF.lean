import Derived.Test.YtgfhddhkillchaaGreatDoorEvE
import Derived.Laws.Strings
set_option linter.unusedVariables false
set_option linter.unusedSimpArgs false
namespace Go.Proofs.YtgfhddhkillchaaGreatDoor
namespace Ev
/-! numbers -/
theorem forceN_eq {α : Type} (n : Nat) (f : Nat → α) : forceN n f = f n := by cases n <;> rfl
theorem forceI_eq {α : Type} (n : Int) (f : Int → α) : forceI n f = f n := by
  cases n with
  | ofNat m => exact forceN_eq m fun m => f (.ofNat m)
  | negSucc m => exact forceN_eq m fun m => f (.negSucc m)
theorem mkI_eq (k : IntKind) (n : Int) : mkI k n = some (.i k n) := forceI_eq n _
theorem mkB_eq (b : Bool) : mkB b = some (.b b) := by cases b <;> rfl
theorem nt_eq (b : Bool) : nt b = !b := by cases b <;> rfl
theorem beq2_eq (a b : Bool) : beq2 a b = (a == b) := by cases a <;> cases b <;> rfl
theorem wrap_in {n : Int} (h1 : -9223372036854775808 ≤ n) (h2 : n ≤ 9223372036854775807) : IntKind.i64.wrap n = n := by
  unfold IntKind.wrap
  simp only [IntKind.bits, IntKind.signed, Bool.true_and]
  split
  · rename_i h
    have h := of_decide_eq_true h
    omega
  · rename_i h
    have h : ¬ (n % 2 ^ 64 ≥ 2 ^ (64 - 1)) := fun hh => h (decide_eq_true hh)
    omega
theorem wr64_eq (n : Int) : wr64 n = IntKind.i64.wrap n := by
  unfold wr64
  cases n with
  | ofNat m =>
    show @Bool.rec (fun _ => Int) (IntKind.i64.wrap (.ofNat m)) (.ofNat m) (Nat.ble m 9223372036854775807) = _
    cases h : Nat.ble m 9223372036854775807 with
    | true => have := ble_t h; exact (wrap_in (n := Int.ofNat m) (by show (-9223372036854775808 : Int) ≤ (m : Int); omega) (by show (m : Int) ≤ _; omega)).symm
    | false => rfl
  | negSucc m =>
    show @Bool.rec (fun _ => Int) (IntKind.i64.wrap (.negSucc m)) (.negSucc m) (Nat.ble m 9223372036854775807) = _
    cases h : Nat.ble m 9223372036854775807 with
    | true => have := ble_t h; exact (wrap_in (n := Int.negSucc m) (by omega) (by omega)).symm
    | false => rfl
theorem wr_eq (k : IntKind) (n : Int) : wr k n = k.wrap n := by
  cases k <;> first | rfl | exact wr64_eq n
theorem nbeq (m n : Nat) : Nat.beq m n = decide (m = n) := by
  cases h : Nat.beq m n with
  | true => rw [decide_eq_true (Nat.eq_of_beq_eq_true h)]
  | false => rw [decide_eq_false (Nat.ne_of_beq_eq_false h)]
theorem ieq_eq (a b : Int) : ieq a b = (a == b) := by
  have : ieq a b = decide (a = b) := by
    cases a with
    | ofNat m =>
      cases b with
      | ofNat n => show Nat.beq m n = _; rw [nbeq]; exact decide_eq_decide.2 ⟨fun e => by rw [e], fun e => Int.ofNat.inj e⟩
      | negSucc n => rfl
    | negSucc m =>
      cases b with
      | ofNat n => rfl
      | negSucc n => show Nat.beq m n = _; rw [nbeq]; exact decide_eq_decide.2 (by simp)
  rw [this]
  rfl
theorem ile_eq (a b : Int) : ile a b = decide (a ≤ b) := by
  cases a with
  | ofNat m =>
    cases b with
    | ofNat n => show Nat.ble m n = _; rw [Bool.eq_iff_iff, Nat.ble_eq]; simp
    | negSucc n => rw [decide_eq_false (by simp; omega)]; rfl
  | negSucc m =>
    cases b with
    | ofNat n => rw [decide_eq_true (by simp; omega)]; rfl
    | negSucc n => show Nat.ble n m = _; rw [Bool.eq_iff_iff, Nat.ble_eq]; simp; omega
theorem leq_eq : ∀ a b : List Nat, leq a b = decide (a = b)
  | [], [] => rfl
  | [], _ :: _ => rfl
  | _ :: _, [] => rfl
  | x :: a, y :: b => by
    show @Bool.rec (fun _ => Bool) false (leq a b) (Nat.beq x y) = _
    cases h : Nat.beq x y with
    | true =>
      have := Nat.eq_of_beq_eq_true h
      show leq a b = _
      rw [leq_eq a b]
      simp [this]
    | false =>
      have := Nat.ne_of_beq_eq_false h
      simp [this]
theorem kN_inj {k k' : IntKind} (h : kN k = kN k') : k = k' := by cases k <;> cases k' <;> first | rfl | cases h
section
variable {T : Tab} {env : Nat → Value} {ρ : Rh} {w : World} {tm : Tm} {call : Cal} {s s' : St} {v : AV} {rc : Operand → Value} {h : Hp}
def BinR (P : Program) (op : BinOp) (t : TypeId) (xo yo : Operand) (vx vy : Value) (w : World) : Result Value := (do eqGuard op t xo yo vx vy; binOp op t vx vy : Sem Value).run P w
theorem guard_int (op : BinOp) (t : TypeId) (xo yo : Operand) (k k' : IntKind) (a b : Int) (w : World) (P : Program) : (eqGuard op t xo yo (.int k a) (.int k' b)).run P w = .ok () w := by
  unfold eqGuard
  cases op <;> simp
theorem guard_str (op : BinOp) (t : TypeId) (xo yo : Operand) (a b : ByteArray) (w : World) (P : Program) : (eqGuard op t xo yo (.string a) (.string b)).run P w = .ok () w := by
  unfold eqGuard
  cases op <;> simp
theorem guard_bool (op : BinOp) (t : TypeId) (xo yo : Operand) (a b : Bool) (w : World) (P : Program) : (eqGuard op t xo yo (.bool a) (.bool b)).run P w = .ok () w := by
  unfold eqGuard
  cases op <;> simp
theorem bI_sim {op : BinOp} {k k' : IntKind} {a b : Int} {r : Sc} (hk : k = k' ∨ free2 op = true) (h : bI op k a b = some r) (t : TypeId) (P : Program) : ∃ vr, (binOp op t (.int k a) (.int k' b)).run P w = .ok vr w ∧ VS env ρ r vr := by
  have fin : ∀ {vr : Value} {r' : Sc}, bI op k a b = some r' → (binOp op t (.int k a) (.int k' b)).run P w = .ok vr w → VS env ρ r' vr → ∃ vr, (binOp op t (.int k a) (.int k' b)).run P w = .ok vr w ∧ VS env ρ r vr := by
    intro vr r' e1 e2 e3
    rw [h] at e1
    cases e1
    exact ⟨vr, e2, e3⟩
  cases op with
  | add => rcases hk with rfl | hk; exact fin (mkI_eq k _) (by simp [binOp, Op.intArith] <;> exact rfl) (by rw [wr_eq]; rfl); cases hk
  | sub => rcases hk with rfl | hk; exact fin (mkI_eq k _) (by simp [binOp, Op.intArith] <;> exact rfl) (by rw [wr_eq]; rfl); cases hk
  | mul => rcases hk with rfl | hk; exact fin (mkI_eq k _) (by simp [binOp, Op.intArith] <;> exact rfl) (by rw [wr_eq]; rfl); cases hk
  | quo =>
    rcases hk with rfl | hk
    · have h' : iQuo k a b = some r := h
      unfold iQuo at h'
      cases hz : ieq b 0 with
      | true => rw [hz] at h'; cases h'
      | false =>
        rw [hz] at h'
        rw [ieq_eq] at hz
        have hb : b ≠ 0 := by simpa using hz
        have h' : mkI k (wr k (a.tdiv b)) = some r := h'
        rw [mkI_eq, wr_eq] at h'
        cases h'
        exact ⟨_, by simp [binOp, Op.intDiv, hb] <;> exact rfl, rfl⟩
    · cases hk
  | rem =>
    rcases hk with rfl | hk
    · have h' : iRem k a b = some r := h
      unfold iRem at h'
      cases hz : ieq b 0 with
      | true => rw [hz] at h'; cases h'
      | false =>
        rw [hz] at h'
        rw [ieq_eq] at hz
        have hb : b ≠ 0 := by simpa using hz
        have h' : mkI k (a.tmod b) = some r := h'
        rw [mkI_eq] at h'
        cases h'
        exact ⟨_, by simp [binOp, Op.intDiv, hb] <;> exact rfl, rfl⟩
    · cases hk
  | and => rcases hk with rfl | hk; exact fin (mkI_eq k _) (by simp [binOp, Op.intBits] <;> exact rfl) rfl; cases hk
  | or => rcases hk with rfl | hk; exact fin (mkI_eq k _) (by simp [binOp, Op.intBits] <;> exact rfl) rfl; cases hk
  | andNot => rcases hk with rfl | hk; exact fin (mkI_eq k _) (by simp [binOp, Op.intBits] <;> exact rfl) rfl; cases hk
  | shl =>
    have h' : iShl k a b = some r := h
    unfold iShl at h'
    cases hz : ile 0 b with
    | false => rw [hz] at h'; cases h'
    | true =>
      rw [hz] at h'
      rw [ile_eq] at hz
      have hb : 0 ≤ b := by simpa using hz
      have h' : mkI k (wr k (a * 2 ^ (min b.toNat k.bits))) = some r := h'
      rw [mkI_eq, wr_eq] at h'
      cases h'
      exact ⟨_, by simp [binOp, Op.shift, Int.not_lt.2 hb] <;> exact rfl, rfl⟩
  | shr =>
    have h' : iShr k a b = some r := h
    unfold iShr at h'
    cases hz : ile 0 b with
    | false => rw [hz] at h'; cases h'
    | true =>
      rw [hz] at h'
      rw [ile_eq] at hz
      have hb : 0 ≤ b := by simpa using hz
      have h' : mkI k (a.fdiv (2 ^ (min b.toNat k.bits))) = some r := h'
      rw [mkI_eq] at h'
      cases h'
      exact ⟨_, by simp [binOp, Op.shift, Int.not_lt.2 hb] <;> exact rfl, rfl⟩
  | eql => rcases hk with rfl | hk; exact fin (mkB_eq _) (by simp [binOp, Op.intCmp] <;> exact rfl) (by rw [ieq_eq]; rfl); cases hk
  | neq => rcases hk with rfl | hk; exact fin (mkB_eq _) (by simp [binOp, Op.intCmp] <;> exact rfl) (by rw [nt_eq, ieq_eq]; rfl); cases hk
  | lss => rcases hk with rfl | hk; exact fin (mkB_eq _) (by simp [binOp, Op.intCmp] <;> exact rfl) (by rw [nt_eq, ile_eq]; show _ = Value.bool _; congr 1; rw [← decide_not]; exact decide_eq_decide.2 (by omega)); cases hk
  | leq => rcases hk with rfl | hk; exact fin (mkB_eq _) (by simp [binOp, Op.intCmp] <;> exact rfl) (by rw [ile_eq]; rfl); cases hk
  | gtr => rcases hk with rfl | hk; exact fin (mkB_eq _) (by simp [binOp, Op.intCmp] <;> exact rfl) (by rw [nt_eq, ile_eq]; show _ = Value.bool _; congr 1; rw [← decide_not]; exact decide_eq_decide.2 (by omega)); cases hk
  | geq => rcases hk with rfl | hk; exact fin (mkB_eq _) (by simp [binOp, Op.intCmp] <;> exact rfl) (by rw [ile_eq]; rfl); cases hk
  | _ => cases h
theorem str_inj {a b : ByteArray} (h : a.data.toList.map (·.toNat) = b.data.toList.map (·.toNat)) : a = b := by
  obtain ⟨⟨x⟩⟩ := a
  obtain ⟨⟨y⟩⟩ := b
  have : ∀ (x y : List UInt8), x.map (·.toNat) = y.map (·.toNat) → x = y := by
    intro x
    induction x with
    | nil => intro y h; cases y <;> first | rfl | cases h
    | cons p x ih =>
      intro y h
      cases y with
      | nil => cases h
      | cons q y =>
        simp only [List.map_cons, List.cons.injEq] at h
        rw [UInt8.toNat_inj.1 h.1, ih y h.2]
  have := this x y h
  rw [this]
theorem str_size {a : ByteArray} {l : List Nat} (h : a.data.toList.map (·.toNat) = l) : a.size = l.length := by
  rw [← h, List.length_map, Array.length_toList]; rfl
theorem str_eq {a b : ByteArray} {l m : List Nat} (ha : a.data.toList.map (·.toNat) = l) (hb : b.data.toList.map (·.toNat) = m) : (a.toList == b.toList) = decide (l = m) := by
  rw [ByteArray.toList_eq, ByteArray.toList_eq]
  by_cases e : l = m
  · have : a = b := str_inj (by rw [ha, hb, e])
    rw [decide_eq_true e, this]
    simp
  · rw [decide_eq_false e]
    refine Bool.eq_false_iff.2 fun e' => e ?_
    have e' := eq_of_beq e'
    rw [← ha, ← hb, e']
theorem bin_sim {op : BinOp} {bt : Bool} {x y r : Sc} (h : bin op bt x y = some r) {t : TypeId} (ht : bt = true → T.P.underlying t = some .bool) {vx vy : Value} (hx : VS env ρ x vx) (hy : VS env ρ y vy) (xo yo : Operand) : ∃ vr, BinR T.P op t xo yo vx vy w = .ok vr w ∧ VS env ρ r vr := by
  cases x with
  | i k a =>
    cases hx
    have h : binI op k a y = some r := h
    cases y with
    | i k' b =>
      cases hy
      have h : @Bool.rec (fun _ => Option Sc) (@Bool.rec (fun _ => Option Sc) none (bI op k a b) (Nat.beq (kN k) (kN k'))) (bI op k a b) (free2 op) = some r := h
      have hh : (k = k' ∨ free2 op = true) ∧ bI op k a b = some r := by
        cases hf : free2 op with
        | true => rw [hf] at h; exact ⟨.inr rfl, h⟩
        | false =>
          rw [hf] at h
          cases he : Nat.beq (kN k) (kN k') with
          | false => rw [he] at h; cases h
          | true => rw [he] at h; exact ⟨.inl (kN_inj (Nat.eq_of_beq_eq_true he)), h⟩
      obtain ⟨vr, h1, h2⟩ := bI_sim (w := w) (env := env) (ρ := ρ) hh.1 hh.2 t T.P
      exact ⟨vr, by unfold BinR; simp only [Sem.run_bind, guard_int, Result.andThen_ok]; exact h1, h2⟩
    | _ => cases h
  | s a =>
    obtain ⟨sa, rfl, ha⟩ := hx
    have h : binS op a y = some r := h
    cases y with
    | s b =>
      obtain ⟨sb, rfl, hb⟩ := hy
      have h : bS op a b = some r := h
      have hg : ∀ {q : Value}, (Op.stringOp op sa sb).run T.P w = .ok q w → BinR T.P op t xo yo (.string sa) (.string sb) w = .ok q w := fun hq => by
        unfold BinR
        simp only [Sem.run_bind, guard_str, Result.andThen_ok]
        cases op <;> simpa [binOp] using hq
      cases op with
      | add =>
        have h : sAdd a b = some r := h
        unfold sAdd at h
        cases hl : Nat.ble (Nat.add a.length b.length) 1000000 with
        | false => rw [hl] at h; cases h
        | true =>
          rw [hl] at h
          cases h
          have hl := ble_t hl
          have hl : a.length + b.length ≤ 1000000 := hl
          have h1 := str_size ha
          have h2 := str_size hb
          have h3 : ¬ ((9223372036854775807 : Int) < (sa.size : Int) + (sb.size : Int)) := by omega
          refine ⟨_, hg (by simp [Op.stringOp, IntKind.max, IntKind.bits, IntKind.signed, h3] <;> exact rfl), sa ++ sb, rfl, ?_⟩
          rw [ByteArray.data_append, Array.toList_append, List.map_append, ha, hb]
      | eql =>
        have h : mkB (leq a b) = some r := h
        rw [mkB_eq, leq_eq] at h
        cases h
        exact ⟨_, hg (by simp only [Op.stringOp, Sem.run_pure] <;> exact rfl), by rw [str_eq ha hb]; rfl⟩
      | neq =>
        have h : mkB (nt (leq a b)) = some r := h
        rw [mkB_eq, nt_eq, leq_eq] at h
        cases h
        exact ⟨_, hg (by simp only [Op.stringOp, Sem.run_pure] <;> exact rfl), by rw [str_eq ha hb]; rfl⟩
      | _ => cases h
    | _ => cases h
  | b a =>
    cases hx
    have h : binB op bt a y = some r := h
    cases y with
    | b c =>
      cases hy
      have h : @Bool.rec (fun _ => Option Sc) none (bB op a c) bt = some r := h
      cases bt with
      | false => cases h
      | true =>
        have h : bB op a c = some r := h
        have hu := run_underlying (ht rfl) w
        have he : (Op.equal t (.bool a) (.bool c)).run T.P w = .ok (a == c) w := by
          show (Op.equalIn (9999 + 1) t (.bool a) (.bool c)).run T.P w = _
          unfold Op.equalIn
          simp only [Sem.run_bind, hu, Result.andThen_ok, Sem.run_pure]
        cases op with
        | eql =>
          have h : mkB (beq2 a c) = some r := h
          rw [mkB_eq, beq2_eq] at h
          cases h
          exact ⟨_, by unfold BinR; simp [guard_bool, binOp, he] <;> exact rfl, rfl⟩
        | neq =>
          have h : mkB (nt (beq2 a c)) = some r := h
          rw [mkB_eq, nt_eq, beq2_eq] at h
          cases h
          exact ⟨_, by unfold BinR; simp [guard_bool, binOp, he] <;> exact rfl, rfl⟩
        | _ => cases h
    | _ => cases h
  | _ => cases h
def OrcOk (T : Tab) (env : Nat → Value) : Prop := ∀ op x y r t xo yo (ρ : Rh) vx vy w, T.orc op x y = some r → VS env ρ x vx → VS env ρ y vy → ∃ vr, BinR T.P op t xo yo vx vy w = .ok vr w ∧ VS env ρ r vr
def OucOk (T : Tab) (env : Nat → Value) : Prop := ∀ op x r (ρ : Rh) vx w, T.ouc op x = some r → VS env ρ x vx → ∃ vr, (Op.unary op vx).run T.P w = .ok vr w ∧ VS env ρ r vr
theorem s_bin {op : BinOp} {t t' : TypeId} {x y : Operand} {o : Oper} (ho : o.op = .binOp op t x y t') (hO : OrcOk T env) (h : oBin op t x y t' T call tm s = .ok v s') (hx : VA env ρ (evo x tm) (rc x)) (hy : VA env ρ (evo y tm) (rc y)) (hr : HR env ρ s.h w) : Dn T env ρ s s' w v ((execOp rc o).run T.P w) := by
  obtain ⟨a, ea, h⟩ := avC_ok h
  obtain ⟨b, eb, h⟩ := avC_ok h
  rw [ea] at hx
  rw [eb] at hy
  have key : ∃ r vr, v = .c r ∧ s' = s ∧ BinR T.P op t x y (rc x) (rc y) w = .ok vr w ∧ VS env ρ r vr := by
    cases hb : bin op (isK T t 6) a b with
    | some r =>
      rw [hb] at h
      obtain ⟨e1, e2⟩ := retC_ok h
      obtain ⟨vr, h1, h2⟩ := bin_sim (T := T) (w := w) hb k6 hx hy x y
      exact ⟨r, vr, e1, e2, h1, h2⟩
    | none =>
      rw [hb] at h
      obtain ⟨r, hq, h⟩ := optm_ok h
      obtain ⟨e1, e2⟩ := retC_ok h
      obtain ⟨vr, h1, h2⟩ := hO op a b r t x y ρ _ _ w hq hx hy
      exact ⟨r, vr, e1, e2, h1, h2⟩
  obtain ⟨r, vr, rfl, rfl, h1, h2⟩ := key
  unfold BinR at h1
  simp only [Sem.run_bind] at h1
  exact Dn.val hr (by simp only [execOp, ho, Sem.run_bind, h1, Result.andThen_ok, Sem.run_pure]) h2 rfl rfl
theorem s_un {op : UnOp} {t : TypeId} {x : Operand} {o : Oper} (ho : o.op = .unOp op t x) (hO : OucOk T env) (h : oUn op t x T call tm s = .ok v s') (hx : VA env ρ (evo x tm) (rc x)) (hr : HR env ρ s.h w) : Dn T env ρ s s' w v ((execOp rc o).run T.P w) := by
  obtain ⟨a, ea, h⟩ := avC_ok h
  rw [ea] at hx
  have hx : VS env ρ a (rc x) := hx
  have key : ∃ r vr, v = .c r ∧ s' = s ∧ (Op.unary op (rc x)).run T.P w = .ok vr w ∧ VS env ρ r vr := by
    cases hb : un op a with
    | some r =>
      rw [hb] at h
      obtain ⟨e1, e2⟩ := retC_ok h
      refine ⟨r, ?_⟩
      cases op with
      | neg =>
        have hb : uNeg a = some r := hb
        cases a with
        | i k n =>
          have hb : mkI k (wr k (Int.sub 0 n)) = some r := hb
          rw [mkI_eq, wr_eq] at hb
          cases hb
          have hx : rc x = .int k n := hx
          exact ⟨_, e1, e2, by rw [hx]; simp only [Op.unary, Op.intArith, Sem.run_pure] <;> exact rfl, rfl⟩
        | _ => cases hb
      | not =>
        have hb : uNot a = some r := hb
        cases a with
        | b c =>
          have hb : mkB (nt c) = some r := hb
          rw [mkB_eq, nt_eq] at hb
          cases hb
          have hx : rc x = .bool c := hx
          exact ⟨_, e1, e2, by rw [hx]; simp only [Op.unary, Sem.run_pure] <;> exact rfl, rfl⟩
        | _ => cases hb
      | _ => cases hb
    | none =>
      rw [hb] at h
      obtain ⟨r, hq, h⟩ := optm_ok h
      obtain ⟨e1, e2⟩ := retC_ok h
      obtain ⟨vr, h1, h2⟩ := hO op a r ρ _ w hq hx
      exact ⟨r, vr, e1, e2, h1, h2⟩
  obtain ⟨r, vr, rfl, rfl, h1, h2⟩ := key
  exact Dn.val hr (by simp only [execOp, ho, Sem.run_bind, h1, Result.andThen_ok, Sem.run_pure]) h2 rfl rfl
end
end Ev
end Go.Proofs.YtgfhddhkillchaaGreatDoor
