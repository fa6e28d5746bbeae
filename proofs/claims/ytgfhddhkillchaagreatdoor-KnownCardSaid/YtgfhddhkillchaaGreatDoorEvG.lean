import Derived.Test.YtgfhddhkillchaaGreatDoorEvF
set_option linter.unusedVariables false
set_option linter.unusedSimpArgs false
namespace Go.Proofs.YtgfhddhkillchaaGreatDoor
namespace Ev
theorem nth_eq {α : Type} (l : List α) : ∀ k, nth l k = l[k]? := by
  induction l with
  | nil => intro k; rfl
  | cons a l ih =>
    intro k
    cases k with
    | zero => rfl
    | succ k => exact ih k
section
variable {T : Tab} {env : Nat → Value} {ρ : Rh} {w : World} {tm : Tm} {call : Cal} {s s' : St} {v : AV} {rc : Operand → Value} {h : Hp}
theorem fs_k3 {t : Nat} (hf : (T.t t).fs ≠ []) : isK T t 3 = true := by
  unfold isK kdT
  unfold Tab.t tiOf at hf ⊢
  cases hi : T.P.info? t with
  | none => rw [hi] at hf; exact absurd rfl hf
  | some i =>
    rw [hi] at hf
    simp only at hf ⊢
    cases hu : T.P.underlying t with
    | none => rw [hu] at hf; exact absurd rfl hf
    | some d =>
      rw [hu] at hf
      cases d <;> first | exact absurd rfl hf | rfl
theorem fd_inv {t f : Nat} {q : Nat × Nat} (hq : fdT T t f = some q) : ∃ fs fl, T.P.underlying t = some (.struct fs) ∧ fs[f]? = some fl ∧ q = (fl.offset, fl.type) := by
  unfold fdT at hq
  rw [nth_eq] at hq
  obtain ⟨fs, h1, h2⟩ := k3 (T := T) (t := t) (fs_k3 (fun e => by rw [e] at hq; cases hq))
  rw [h2, List.getElem?_map, Array.getElem?_toList] at hq
  cases hf : fs[f]? with
  | none => rw [hf] at hq; cases hq
  | some fl => rw [hf] at hq; cases hq; exact ⟨fs, fl, h1, hf, rfl⟩
theorem sz_info {t : Nat} (hz : 0 < szT T t) : ∃ i, T.P.info? t = some i ∧ i.size = szT T t := by
  obtain ⟨i, h1, h2, _⟩ := kAny (sz_known hz)
  exact ⟨i, h1, h2⟩
theorem s_nil {x : Operand} {o : Oper} (ho : o.op = .nilCheck x) (h : oNil x T call tm s = .ok v s') (hx : VA env ρ (evo x tm) (rc x)) (hr : HR env ρ s.h w) : Dn T env ρ s s' w v ((execOp rc o).run T.P w) := by
  obtain ⟨b, off, e, h⟩ := atP_ok h
  rw [e] at hx
  cases h
  obtain ⟨k, z, hb, hrc⟩ := hx
  exact Dn.val (v' := rc x) hr (by simp [execOp, ho, hrc]) ⟨k, z, hb, hrc⟩ rfl rfl
theorem s_fieldAddr {t : TypeId} {x : Operand} {f : Nat} {o : Oper} (ho : o.op = .fieldAddr t x f) (h : oFieldAddr t x f T call tm s = .ok v s') (hx : VA env ρ (evo x tm) (rc x)) (hr : HR env ρ s.h w) : Dn T env ρ s s' w v ((execOp rc o).run T.P w) := by
  obtain ⟨b, off, e, h⟩ := atP_ok h
  rw [e] at hx
  obtain ⟨k, z, hb, hrc⟩ := hx
  cases hf : foT T t f with
  | none => rw [hf] at h; exact no_ok h
  | some o' =>
    rw [hf] at h
    cases h
    unfold foT at hf
    cases hq : fdT T t f with
    | none => rw [hq] at hf; cases hf
    | some q =>
      rw [hq] at hf
      simp only at hf
      obtain ⟨fs, fl, h1, h2, rfl⟩ := fd_inv hq
      cases hz : szT T fl.type with
      | zero => simp only [hz] at hf; cases hf
      | succ m =>
        simp only [hz] at hf
        cases hf
        obtain ⟨i, h3, h4⟩ := sz_info (T := T) (t := fl.type) (by omega)
        have hne : i.size ≠ 0 := by omega
        exact Dn.val (v' := .pointer (some ⟨k, off + fl.offset, none⟩)) hr (by simp [execOp, ho, Instr.fieldAt, run_underlying h1, h2, hrc, Instr.sureAddr, fieldPlace, sizeOf, typeInfo, h3, hne, Addr.add_lit]) ⟨k, z, hb, rfl⟩ rfl rfl
/-- a part of a row of cells -/
theorem s_part {t : TypeId} {l : List Sc} {off : Nat} (h : partA T t l off s = .ok v s') {arr : Array Value} (ha : All2 (VS env ρ) l arr.toList) : ∃ v', (part t arr off).run T.P w = .ok v' w ∧ VA env ρ v v' ∧ s' = s := by
  obtain ⟨hk, h⟩ := iff_on h
  obtain ⟨i, hi, hsz, _, hag⟩ := kAny hk
  rcases iff_ok h with ⟨hA, h⟩ | ⟨hA, h⟩
  · cases h
    refine ⟨.agg (arr.extract off (off + szT T t)), by simp [part, hag, hA, sizeOf, typeInfo, hi, hsz], ⟨_, rfl, ?_⟩, rfl⟩
    rw [Array.toList_extract, List.extract_eq_take_drop, Nat.add_sub_cancel_left]
    exact (ha.drop off).take _
  · obtain ⟨x, hx, h⟩ := optm_ok h
    cases h
    rw [nth_eq] at hx
    obtain ⟨u, h1, h2⟩ := ha.at hx
    rw [Array.getElem?_toList] at h1
    exact ⟨u, by simp [part, hag, hA, h1], h2, rfl⟩
theorem s_field {t : TypeId} {x : Operand} {f : Nat} {o : Oper} (ho : o.op = .field t x f) (h : oField t x f T call tm s = .ok v s') (hx : VA env ρ (evo x tm) (rc x)) (hr : HR env ρ s.h w) : Dn T env ρ s s' w v ((execOp rc o).run T.P w) := by
  obtain ⟨l, e, h⟩ := avA_ok h
  rw [e] at hx
  obtain ⟨arr, hrc, ha⟩ := hx
  obtain ⟨q, hq, h⟩ := optm_ok h
  obtain ⟨fs, fl, h1, h2, rfl⟩ := fd_inv hq
  obtain ⟨v', h3, h4, rfl⟩ := s_part (T := T) (w := w) h ha
  exact Dn.val hr (by simp [execOp, ho, Instr.field, run_underlying h1, h2, hrc, asAgg, h3]) h4 rfl rfl
theorem ez_info {t : Nat} (hz : ezB T t = true) : ∃ i, T.P.info? (elT T t) = some i ∧ i.size = ezT T t ∧ 0 < ezT T t := by
  have hz := blt_t hz
  obtain ⟨i, h1, h2⟩ := sz_info (T := T) (t := elT T t) hz
  exact ⟨i, h1, h2, hz⟩
theorem s_indexAddr {t : TypeId} {x ix : Operand} {o : Oper} (ho : o.op = .indexAddr t x ix) (h : oIndexAddr t x ix T call tm s = .ok v s') (hx : VA env ρ (evo x tm) (rc x)) (hi : VA env ρ (evo ix tm) (rc ix)) (hr : HR env ρ s.h w) : Dn T env ρ s s' w v ((execOp rc o).run T.P w) := by
  obtain ⟨kd, m, e, h⟩ := atN_ok h
  rw [e] at hi
  have hi : rc ix = .int kd (m : Nat) := hi
  rcases iff_ok h with ⟨hk, h⟩ | ⟨hk, h⟩
  · obtain ⟨y, ey, h⟩ := avC_ok h
    rw [ey] at hx
    rcases scL_ok h with ⟨b, off, len, sz, rfl, h⟩ | ⟨_, h⟩
    · obtain ⟨k, z, cap, hb, hrc, hc, hz⟩ := hx
      obtain ⟨h1, h⟩ := iff_on h
      obtain ⟨h2, h⟩ := iff_no h
      obtain ⟨h3, h⟩ := iff_no h
      cases h
      have h1 := ble_f h1
      obtain ⟨i, q1, q2, q3⟩ := ez_info h2
      have h3 : sz = ezT T t := Nat.eq_of_beq_eq_true h3
      exact Dn.val (v' := .pointer (some ⟨k, off + m * sz, none⟩)) hr (by simp [execOp, ho, Instr.indexAt, hi, asIntOf, run_underlying (k1 hk), hrc, sizeOf, typeInfo, q1, q2, h1, Addr.add_lit, h3]) ⟨k, z, hb, rfl⟩ rfl rfl
    · exact no_ok h
  · obtain ⟨hk, h⟩ := iff_no h
    obtain ⟨h2, h⟩ := iff_no h
    obtain ⟨b, off, ey, h⟩ := atP_ok h
    rw [ey] at hx
    obtain ⟨k, z, hb, hrc⟩ := hx
    obtain ⟨h1, h⟩ := iff_on h
    cases h
    have h1 := ble_f h1
    obtain ⟨i, q1, q2, q3⟩ := ez_info h2
    exact Dn.val (v' := .pointer (some ⟨k, off + m * ezT T t, none⟩)) hr (by simp [execOp, ho, Instr.indexAt, hi, asIntOf, run_underlying (k2 hk).1, hrc, Instr.sureAddr, sizeOf, typeInfo, q1, q2, h1, Addr.add_lit]) ⟨k, z, hb, rfl⟩ rfl rfl
theorem s_index {t : TypeId} {x ix : Operand} {o : Oper} (ho : o.op = .index t x ix) (h : oIndex t x ix T call tm s = .ok v s') (hx : VA env ρ (evo x tm) (rc x)) (hi : VA env ρ (evo ix tm) (rc ix)) (hr : HR env ρ s.h w) : Dn T env ρ s s' w v ((execOp rc o).run T.P w) := by
  obtain ⟨kd, m, e, h⟩ := atN_ok h
  rw [e] at hi
  have hi : rc ix = .int kd (m : Nat) := hi
  rcases iff_ok h with ⟨hk, h⟩ | ⟨hk, h⟩
  · obtain ⟨y, ey, h⟩ := avC_ok h
    rw [ey] at hx
    obtain ⟨l, rfl, h⟩ := scS_ok h
    obtain ⟨c, hc, h⟩ := optm_ok h
    cases h
    obtain ⟨sb, hrc, hl⟩ := hx
    rw [nth_eq, ← hl, List.getElem?_map] at hc
    cases hb : sb.data.toList[m]? with
    | none => rw [hb] at hc; cases hc
    | some u =>
      rw [hb] at hc
      cases hc
      have hm : m < sb.size := (List.getElem?_eq_some_iff.1 hb).1
      have hg : sb[m]? = some u := by
        rw [getElem?_pos sb m hm]
        have := (List.getElem?_eq_some_iff.1 hb).2
        rw [← this]
        rfl
      exact Dn.val (v' := .int .u8 u.toNat) hr (by simp [execOp, ho, Instr.index, hi, asIntOf, run_underlying (k4 hk), hrc, hg]) rfl rfl rfl
  · obtain ⟨hk, h⟩ := iff_no h
    obtain ⟨h1, h⟩ := iff_on h
    obtain ⟨l, ey, h⟩ := avA_ok h
    rw [ey] at hx
    obtain ⟨arr, hrc, ha⟩ := hx
    have h1 := ble_f h1
    have hz : ∃ i, T.P.info? (elT T t) = some i ∧ i.size = ezT T t := by
      obtain ⟨hk', _⟩ := iff_on h
      obtain ⟨i, q1, q2, _⟩ := kAny hk'
      exact ⟨i, q1, q2⟩
    obtain ⟨i, q1, q2⟩ := hz
    obtain ⟨v', h3, h4, rfl⟩ := s_part (T := T) (w := w) h ha
    have h3 : (part (elT T t) arr (m * ezT T t)).run T.P w = .ok v' w := h3
    exact Dn.val hr (by simp [execOp, ho, Instr.index, hi, asIntOf, run_underlying (k2 hk).1, hrc, h1, sizeOf, typeInfo, q1, q2, h3]) h4 rfl rfl
theorem tcV_V {c : TC} {u : Value} (h : VT env ρ c u) : VA env ρ (tcV c) u := by cases c <;> exact h
theorem s_extract {x : Operand} {k : Nat} {o : Oper} (ho : o.op = .extract x k) (h : oExtract x k T call tm s = .ok v s') (hx : VA env ρ (evo x tm) (rc x)) (hr : HR env ρ s.h w) : Dn T env ρ s s' w v ((execOp rc o).run T.P w) := by
  unfold oExtract at h
  cases e : evo x tm with
  | tp l =>
    rw [e] at h hx
    obtain ⟨c, hc, h⟩ := optm_ok h
    cases h
    obtain ⟨arr, hrc, ha⟩ := hx
    rw [nth_eq] at hc
    obtain ⟨u, h1, h2⟩ := ha.at hc
    rw [Array.getElem?_toList] at h1
    exact Dn.val hr (by simp [execOp, ho, Instr.extract, hrc, h1]) (tcV_V h2) rfl rfl
  | _ => rw [e] at h; exact no_ok h
/-! slices -/
theorem bound_ok {o : Option Operand} {z : Nat} {f : Nat → M AV} (h : bound o tm z f s = .ok v s') : ∃ m, f m s = .ok v s' ∧ ((o = none ∧ m = z) ∨ ∃ x k, o = some x ∧ evo x tm = .c (.i k ((m : Nat) : Int))) := by
  cases o with
  | none => exact ⟨z, h, .inl ⟨rfl, rfl⟩⟩
  | some x =>
    obtain ⟨k, m, e, h⟩ := atN_ok h
    exact ⟨m, h, .inr ⟨x, k, rfl, e⟩⟩
theorem two_ok {lo hi : Option Operand} {z : Nat} {f : Nat → Nat → Option Sc} (h : two lo hi tm z f s = .ok v s') (hlo : ∀ x, lo = some x → VA env ρ (evo x tm) (rc x)) (hhi : ∀ x, hi = some x → VA env ρ (evo x tm) (rc x)) : ∃ a b r, f a b = some r ∧ v = .c r ∧ s' = s ∧ ((lo = none ∧ a = 0) ∨ ∃ x k, lo = some x ∧ rc x = .int k (a : Nat)) ∧ ((hi = none ∧ b = z) ∨ ∃ x k, hi = some x ∧ rc x = .int k (b : Nat)) := by
  obtain ⟨a, h, ha⟩ := bound_ok h
  obtain ⟨b, h, hb⟩ := bound_ok h
  obtain ⟨r, hr, h⟩ := optm_ok h
  cases h
  refine ⟨a, b, r, hr, rfl, rfl, ?_, ?_⟩
  · rcases ha with ha | ⟨x, k, rfl, e⟩
    · exact .inl ha
    · have := hlo x rfl; rw [e] at this; exact .inr ⟨x, k, rfl, this⟩
  · rcases hb with hb | ⟨x, k, rfl, e⟩
    · exact .inl hb
    · have := hhi x rfl; rw [e] at this; exact .inr ⟨x, k, rfl, this⟩
theorem run_bounds {lo hi : Option Operand} {a b len cap : Nat} (isS : Bool) (hlo : (lo = none ∧ a = 0) ∨ ∃ x k, lo = some x ∧ rc x = .int k (a : Nat)) (hhi : (hi = none ∧ b = len) ∨ ∃ x k, hi = some x ∧ rc x = .int k (b : Nat)) (hab : a ≤ b) (hbc : b ≤ cap) (P : Program) : (Instr.sliceBounds isS len cap (lo.map rc) (hi.map rc) none).run P w = .ok (a, b, cap) w := by
  rcases hlo with ⟨rfl, rfl⟩ | ⟨x, k, rfl, hx⟩ <;> rcases hhi with ⟨rfl, rfl⟩ | ⟨y, k', rfl, hy⟩ <;> simp_all [Instr.sliceBounds, Instr.sliceBound, asIntOf]
theorem s_slice {t : TypeId} {x : Operand} {lo hi mx : Option Operand} {o : Oper} (ho : o.op = .slice t x lo hi mx) (h : oSlice t x lo hi mx T call tm s = .ok v s') (hx : VA env ρ (evo x tm) (rc x)) (hlo : ∀ x, lo = some x → VA env ρ (evo x tm) (rc x)) (hhi : ∀ x, hi = some x → VA env ρ (evo x tm) (rc x)) (hr : HR env ρ s.h w) : Dn T env ρ s s' w v ((execOp rc o).run T.P w) := by
  cases mx with
  | some m => exact no_ok h
  | none =>
    obtain ⟨y, ey, h⟩ := avC_ok h
    rw [ey] at hx
    rcases iff_ok h with ⟨hk, h⟩ | ⟨hk, h⟩
    · obtain ⟨l, rfl, h⟩ := scS_ok h
      obtain ⟨a, b, r, hc, rfl, rfl, h1, h2⟩ := two_ok h hlo hhi
      obtain ⟨sb, hrc, hl⟩ := hx
      unfold cutS at hc
      cases h3 : Nat.ble a b with
      | false => rw [h3] at hc; cases hc
      | true =>
        rw [h3] at hc
        have hc : iff (Nat.ble b l.length) (some (Sc.s ((l.drop a).take (Nat.sub b a)))) none = some r := hc
        cases h4 : Nat.ble b l.length with
        | false => rw [h4] at hc; cases hc
        | true =>
          rw [h4] at hc
          cases hc
          have h3 := ble_t h3
          have h4 := ble_t h4
          have hs := str_size hl
          rw [← hs] at h2 h4
          have hb := run_bounds (w := w) (cap := sb.size) false h1 h2 h3 h4 T.P
          refine Dn.val (v' := .string (sb.extract a b)) hr (by simp [execOp, ho, Instr.sliceAt, run_underlying (k4 hk), Instr.slice, hrc, hb]) ⟨_, rfl, ?_⟩ rfl rfl
          rw [ByteArray.data_extract, Array.toList_extract, List.extract_eq_take_drop, List.map_take, List.map_drop, hl]
          rfl
    · obtain ⟨hk, h⟩ := iff_no h
      rcases scL_ok h with ⟨b, off, len, sz, rfl, h⟩ | ⟨_, h⟩
      · obtain ⟨k, z, cap, hb, hrc, hc, hz⟩ := hx
        obtain ⟨q2, h⟩ := iff_no h
        obtain ⟨q3, h⟩ := iff_no h
        obtain ⟨i, p1, p2, p3⟩ := ez_info q2
        have q3 : ezT T t = sz := Nat.eq_of_beq_eq_true q3
        obtain ⟨a, d, r, hcut, rfl, rfl, h1, h2⟩ := two_ok h hlo hhi
        unfold cutR at hcut
        cases h4 : Nat.ble d len with
        | false => rw [h4] at hcut; cases hcut
        | true =>
          rw [h4] at hcut
          have h4 := ble_t h4
          have fin : a ≤ d → ∀ {u : Value}, u = .slice (if cap = a then some ⟨k, off, none⟩ else some ((⟨k, off, none⟩ : Addr).add (a * sz))) (d - a) (cap - a) → (execOp rc o).run T.P w = .ok (.value u) w := fun had u hu => by
            have hb := run_bounds (w := w) (cap := cap) true h1 h2 had (by omega) T.P
            rw [hu]
            simp [execOp, ho, Instr.sliceAt, run_underlying (k1 hk), Instr.slice, hrc, hb, sizeOf, typeInfo, p1, p2, q3]
          cases a with
          | zero =>
            cases hcut
            exact Dn.val hr (fin (Nat.zero_le _) rfl) ⟨k, z, cap, hb, by simp [Addr.add_lit], by omega, hz⟩ rfl rfl
          | succ a =>
            have hcut : iff (Nat.ble d a) none (iff (Nat.beq d (Nat.succ a)) (some Sc.se) (some (Sc.sl b (Nat.add off (Nat.mul (Nat.succ a) sz)) (Nat.sub d (Nat.succ a)) sz))) = some r := hcut
            cases h5 : Nat.ble d a with
            | true => rw [h5] at hcut; cases hcut
            | false =>
              rw [h5] at hcut
              have h5 := ble_f h5
              have hcut : iff (Nat.beq d (Nat.succ a)) (some Sc.se) (some (Sc.sl b (Nat.add off (Nat.mul (Nat.succ a) sz)) (Nat.sub d (Nat.succ a)) sz)) = some r := hcut
              cases h6 : Nat.beq d (Nat.succ a) with
              | true =>
                rw [h6] at hcut
                cases hcut
                have h6 : d = a + 1 := Nat.eq_of_beq_eq_true h6
                exact Dn.val hr (fin (by omega) rfl) ⟨_, _, by rw [h6, Nat.sub_self]⟩ rfl rfl
              | false =>
                rw [h6] at hcut
                cases hcut
                have h6 : d ≠ a + 1 := Nat.ne_of_beq_eq_false h6
                refine Dn.val hr (fin (by omega) rfl) ⟨k, z, cap - (a + 1), hb, ?_, ?_, ?_⟩ rfl rfl
                · rw [if_neg (by omega), Addr.add_lit]; rfl
                · show d - (a + 1) ≤ cap - (a + 1); omega
                · show off + (a + 1) * sz + (cap - (a + 1)) * sz ≤ z
                  rw [Nat.add_assoc, ← Nat.add_mul, show a + 1 + (cap - (a + 1)) = cap by omega]
                  exact hz
      · exact no_ok h
end
end Ev
end Go.Proofs.YtgfhddhkillchaaGreatDoor
