import Derived.Test.YtgfhddhkillchaaGreatDoorEvH
set_option linter.unusedVariables false
set_option linter.unusedSimpArgs false
namespace Go.Proofs.YtgfhddhkillchaaGreatDoor
namespace Ev
section
variable {T : Tab} {env : Nat → Value} {ρ : Rh} {w : World} {tm : Tm} {call : Cal} {s s' : St} {v : AV} {rc : Operand → Value} {h : Hp}
theorem s_len {t : TypeId} {x : Operand} {o : Oper} {ty : Array TypeId} (ho : o.op = .call { callee := .builtin .len, args := #[x], argTypes := #[t] }) (h : oLen t x T call tm s = .ok v s') (hx : VA env ρ (evo x tm) (rc x)) (hr : HR env ρ s.h w) : Dn T env ρ s s' w v ((execOp rc o).run T.P w) := by
  have fin : ∀ {n : Nat}, v = .c (.i .i64 (n : Nat)) → s' = s → (Builtin.len_ #[t] o.type #[rc x]).run T.P w = .ok (.int .i64 (n : Nat)) w → Dn T env ρ s s' w v ((execOp rc o).run T.P w) := by
    rintro n rfl rfl hn
    exact Dn.val (v' := .int .i64 (n : Nat)) hr (by simp [execOp, ho, resolve, invoke, builtin, hn]) rfl rfl rfl
  have arr : ∀ {t' : TypeId}, lenA T t' s = .ok v s' → v = .c (.i .i64 (lnT T t' : Nat)) ∧ s' = s ∧ isK T t' 2 = true := fun h => by
    obtain ⟨hk, h⟩ := iff_no h
    cases h
    exact ⟨rfl, rfl, hk⟩
  unfold oLen at h
  cases e : evo x tm with
  | ag l =>
    rw [e] at h hx
    obtain ⟨h1, h2, hk⟩ := arr h
    exact fin h1 h2 (by simp [Builtin.len_, run_underlying (k2 hk).1, goInt])
  | c y =>
    rw [e] at h hx
    have h : lenC T t y s = .ok v s' := h
    have hx : VS env ρ y (rc x) := hx
    rcases iff_ok h with ⟨hk, h⟩ | ⟨hk, h⟩
    · rcases scL_ok h with ⟨b, off, len, sz, rfl, h⟩ | ⟨hy, h⟩
      · cases h
        obtain ⟨k, z, cap, hb, hrc, _⟩ := hx
        exact fin rfl rfl (by simp [Builtin.len_, run_underlying (k1 hk), hrc, goInt])
      · cases h
        have : ∃ a cap, rc x = .slice a 0 cap := by
          rcases hy with rfl | rfl
          · exact ⟨_, _, hx⟩
          · exact hx
        obtain ⟨a, cap, hrc⟩ := this
        exact fin (n := 0) rfl rfl (by simp [Builtin.len_, run_underlying (k1 hk), hrc, goInt])
    · rcases iff_ok h with ⟨hk, h⟩ | ⟨_, h⟩
      · obtain ⟨l, rfl, h⟩ := scS_ok h
        cases h
        obtain ⟨sb, hrc, hl⟩ := hx
        exact fin rfl rfl (by simp [Builtin.len_, run_underlying (k4 hk), hrc, goInt, str_size hl])
      · rcases iff_ok h with ⟨hk, h⟩ | ⟨_, h⟩
        · obtain ⟨h1, h2, hk⟩ := arr h
          exact fin h1 h2 (by simp [Builtin.len_, run_underlying (k2 hk).1, goInt])
        · obtain ⟨hk, h⟩ := iff_no h
          obtain ⟨h1, h2, hk'⟩ := arr h
          exact fin h1 h2 (by simp [Builtin.len_, run_underlying (k7 hk), run_underlying (k2 hk').1, goInt])
  | tp l => rw [e] at h; exact no_ok h
  | u => rw [e] at h; exact no_ok h
/-- what a row's value shows -/
theorem row_ok {α : Type} {y : Sc} {sz : Nat} {K : Nat → List Sc → M α} {a : α} (h : rowOf y sz K s = .ok a s') : ∃ s1 n l, s1.h = s.h ∧ s1.nx = s.nx ∧ K n l s1 = .ok a s' ∧
    ((∃ cs, y = .s cs ∧ sz = 1 ∧ n = cs.length ∧ l = cs.map fun c => .i .u8 (.ofNat c)) ∨ (n = 0 ∧ l = [] ∧ (y = .sn ∨ y = .se ∨ ∃ b off, y = .sl b off 0 sz)) ∨ ∃ b off, y = .sl b off n sz ∧ 0 < n ∧ off + n * sz ≤ (get5 b s.h).n ∧ l = cellsF (get5 b s.h).t (n * sz) off) := by
  cases y with
  | s cs =>
    obtain ⟨h1, h⟩ := iff_no h
    exact ⟨s, _, _, rfl, rfl, h, .inl ⟨cs, rfl, Nat.eq_of_beq_eq_true h1, rfl, rfl⟩⟩
  | sn => exact ⟨s, _, _, rfl, rfl, h, .inr (.inl ⟨rfl, rfl, .inl rfl⟩)⟩
  | se => exact ⟨s, _, _, rfl, rfl, h, .inr (.inl ⟨rfl, rfl, .inr (.inl rfl)⟩)⟩
  | sl b off len z =>
    obtain ⟨h1, h⟩ := iff_no h
    have h1 : z = sz := Nat.eq_of_beq_eq_true h1
    subst h1
    unfold rowN at h
    rcases nrec_ok h with ⟨hz, h⟩ | ⟨m, hz, h⟩
    · exact ⟨s, _, _, rfl, rfl, h, .inr (.inl ⟨rfl, rfl, .inr (.inr ⟨b, off, by rw [hz]⟩)⟩)⟩
    · obtain ⟨s1, e1, e2, h⟩ := look_same h
      obtain ⟨h2, h⟩ := iff_no h
      have h2 : off + (m + 1) * z ≤ (get5 b s.h).n := ble_t h2
      exact ⟨s1, _, _, e1, e2, h, .inr (.inr ⟨b, off, by rw [hz], Nat.succ_pos _, h2, rfl⟩)⟩
  | _ => exact no_ok h
theorem byteCells_V {sb : ByteArray} {cs : List Nat} (h : sb.data.toList.map (·.toNat) = cs) : All2 (VS env ρ) (cs.map fun c => .i .u8 (.ofNat c)) (byteCells sb) := by
  unfold byteCells
  rw [← h, List.map_map]
  generalize sb.data.toList = l
  induction l with
  | nil => exact .nil
  | cons u l ih => exact .cons rfl ih
/-- what an append's second argument yields -/
theorem row_src (hn : EnvOk env) (hr : HR env ρ h w) {y : Sc} {sz n : Nat} {l : List Sc} {vy : Value} (hy : VS env ρ y vy) {tx : TypeId}
    (hc : (∃ cs, y = .s cs ∧ sz = 1 ∧ n = cs.length ∧ l = cs.map fun c => .i .u8 (.ofNat c)) ∨ (n = 0 ∧ l = [] ∧ (y = .sn ∨ y = .se ∨ ∃ b off, y = .sl b off 0 sz)) ∨ ∃ b off, y = .sl b off n sz ∧ 0 < n ∧ off + n * sz ≤ (get5 b h).n ∧ l = cellsF (get5 b h).t (n * sz) off) (hz : 0 < sz)
    (htx : (∃ e', T.P.underlying tx = some (.slice e')) ∨ T.P.underlying tx = some .string) : ∃ news, Src T.P sz tx vy n news w ∧ All2 (VS env ρ) l news := by
  rcases hc with ⟨cs, rfl, rfl, rfl, rfl⟩ | ⟨rfl, rfl, hc⟩ | ⟨b, off, rfl, h0, h1, rfl⟩
  · obtain ⟨sb, rfl, hl⟩ := hy
    have hs := Go.firstCells_string (P := T.P) sb
    have hbl := byteCells_length sb
    have hss := str_size hl
    refine ⟨byteCells sb, ⟨htx, fun _ => by rw [← hss]; rfl, by rw [← hss]; exact hs w, by rw [← hss]; exact hs w.drew, by rw [hbl, hss, Nat.mul_one], fun u hu => ?_⟩, byteCells_V hl⟩
    obtain ⟨_, _, rfl⟩ := List.mem_map.1 hu
    rfl
  · have : ∃ a cap, vy = .slice a 0 cap := by
      rcases hc with rfl | rfl | ⟨b, off, rfl⟩
      · exact ⟨_, _, hy⟩
      · exact hy
      · obtain ⟨k, z, cap, _, e, _⟩ := hy; exact ⟨_, _, e⟩
    obtain ⟨a, cap, rfl⟩ := this
    refine ⟨[], ⟨htx, fun _ => rfl, ?_, ?_, by simp, fun u hu => by cases hu⟩, .nil⟩
    all_goals cases a <;> simp [Builtin.firstCells, loadCells, loadCellsFrom]
  · obtain ⟨k, z, cap, hb, rfl, _⟩ := hy
    obtain ⟨cs, c1, c2, c3⟩ := hr.cells hb (m := n * sz) (Nat.mul_pos h0 hz) h1
    refine ⟨cs, ⟨htx, fun _ => rfl, run_firstCells_some w sz n _ n cap cs c1 (c3 w rfl), run_firstCells_some w.drew sz n _ n cap cs c1 (c3 w.drew rfl), c1, fun u hu => ?_⟩, c2⟩
    obtain ⟨j, hj⟩ := List.getElem?_of_mem hu
    have hj' : j < (cellsF (get5 b h).t (n * sz) off).length := by rw [c2.len]; exact (List.getElem?_eq_some_iff.1 hj).1
    obtain ⟨u', q1, q2⟩ := c2.at (List.getElem?_eq_getElem hj')
    rw [hj] at q1
    cases q1
    exact q2.one hn
end
end Ev
end Go.Proofs.YtgfhddhkillchaaGreatDoor
