import Derived.Test.YtgfhddhkillchaaGreatDoorEvC
set_option linter.unusedVariables false
set_option linter.unusedSimpArgs false
namespace Go.Proofs.YtgfhddhkillchaaGreatDoor
namespace Ev
open Go.RowKit
/-! types -/
theorem ti_inv (P : Program) (t : Nat) (h : (tiOf P t).kd ≠ 0) : ∃ i d, P.info? t = some i ∧ P.underlying t = some d ∧ (tiOf P t).sz = i.size ∧ (tiOf P t).bs = i.bytes ∧ (∀ l, (tiOf P t).z = some l → ∃ v, i.zero = some v ∧ cellsOf (ofV v) = some l) ∧
    ((d = .slice (tiOf P t).el ∧ (tiOf P t).kd = 1 ∧ (tiOf P t).ag = false) ∨ (d = .array (tiOf P t).ln (tiOf P t).el ∧ (tiOf P t).kd = 2 ∧ (tiOf P t).ag = true) ∨ (∃ fs, d = .struct fs ∧ (tiOf P t).kd = 3 ∧ (tiOf P t).ag = true ∧ (tiOf P t).fs = fs.toList.map fun f => (f.offset, f.type)) ∨ (d = .string ∧ (tiOf P t).kd = 4 ∧ (tiOf P t).ag = false) ∨ (d = .int (tiOf P t).ik ∧ (tiOf P t).kd = 5 ∧ (tiOf P t).ag = false) ∨ (d = .bool ∧ (tiOf P t).kd = 6 ∧ (tiOf P t).ag = false) ∨ (d = .pointer (tiOf P t).el ∧ (tiOf P t).kd = 7 ∧ (tiOf P t).ag = false)) := by
  unfold tiOf at h ⊢
  cases hi : P.info? t with
  | none => rw [hi] at h; exact absurd rfl h
  | some i =>
    rw [hi] at h
    simp only at h ⊢
    have hz : ∀ l, (match i.zero with | some v => cellsOf (ofV v) | none => none) = some l → ∃ v, i.zero = some v ∧ cellsOf (ofV v) = some l := by
      intro l hl
      cases hv : i.zero with
      | none => rw [hv] at hl; cases hl
      | some v => rw [hv] at hl; exact ⟨v, rfl, hl⟩
    cases hu : P.underlying t with
    | none => rw [hu] at h; exact absurd rfl h
    | some d =>
      rw [hu] at h
      cases d with
      | slice e => exact ⟨i, _, rfl, rfl, rfl, rfl, hz, .inl ⟨rfl, rfl, rfl⟩⟩
      | array n e => exact ⟨i, _, rfl, rfl, rfl, rfl, hz, .inr (.inl ⟨rfl, rfl, rfl⟩)⟩
      | struct fs => exact ⟨i, _, rfl, rfl, rfl, rfl, hz, .inr (.inr (.inl ⟨fs, rfl, rfl, rfl, rfl⟩))⟩
      | string => exact ⟨i, _, rfl, rfl, rfl, rfl, hz, .inr (.inr (.inr (.inl ⟨rfl, rfl, rfl⟩)))⟩
      | int k => exact ⟨i, _, rfl, rfl, rfl, rfl, hz, .inr (.inr (.inr (.inr (.inl ⟨rfl, rfl, rfl⟩))))⟩
      | bool => exact ⟨i, _, rfl, rfl, rfl, rfl, hz, .inr (.inr (.inr (.inr (.inr (.inl ⟨rfl, rfl, rfl⟩)))))⟩
      | pointer e => exact ⟨i, _, rfl, rfl, rfl, rfl, hz, .inr (.inr (.inr (.inr (.inr (.inr ⟨rfl, rfl, rfl⟩)))))⟩
      | _ => exact absurd rfl h
section
variable {T : Tab} {t : Nat}
theorem isK_eq {k : Nat} (h : isK T t k = true) : (tiOf T.P t).kd = k := Nat.eq_of_beq_eq_true h
theorem isK_ne {k : Nat} (h : isK T t k = false) : (tiOf T.P t).kd ≠ k := Nat.ne_of_beq_eq_false h
theorem k1 (h : isK T t 1 = true) : T.P.underlying t = some (.slice (elT T t)) := by
  have hk := isK_eq h
  obtain ⟨i, d, h1, h2, _, _, _, h3⟩ := ti_inv T.P t (by omega)
  rcases h3 with ⟨e, _⟩ | ⟨_, e, _⟩ | ⟨_, _, e, _⟩ | ⟨_, e, _⟩ | ⟨_, e, _⟩ | ⟨_, e, _⟩ | ⟨_, e, _⟩
  · rw [h2, e]; rfl
  all_goals omega
theorem k2 (h : isK T t 2 = true) : T.P.underlying t = some (.array (lnT T t) (elT T t)) ∧ agT T t = true := by
  have hk := isK_eq h
  obtain ⟨i, d, h1, h2, _, _, _, h3⟩ := ti_inv T.P t (by omega)
  rcases h3 with ⟨_, e, _⟩ | ⟨e, _, e'⟩ | ⟨_, _, e, _⟩ | ⟨_, e, _⟩ | ⟨_, e, _⟩ | ⟨_, e, _⟩ | ⟨_, e, _⟩
  · omega
  · rw [h2, e]; exact ⟨rfl, e'⟩
  all_goals omega
theorem k3 (h : isK T t 3 = true) : ∃ fs, T.P.underlying t = some (.struct fs) ∧ (T.t t).fs = fs.toList.map fun f => (f.offset, f.type) := by
  have hk := isK_eq h
  obtain ⟨i, d, h1, h2, _, _, _, h3⟩ := ti_inv T.P t (by omega)
  rcases h3 with ⟨_, e, _⟩ | ⟨_, e, _⟩ | ⟨fs, e, _, _, e'⟩ | ⟨_, e, _⟩ | ⟨_, e, _⟩ | ⟨_, e, _⟩ | ⟨_, e, _⟩
  · omega
  · omega
  · exact ⟨fs, by rw [h2, e], e'⟩
  all_goals omega
theorem k4 (h : isK T t 4 = true) : T.P.underlying t = some .string := by
  have hk := isK_eq h
  obtain ⟨i, d, h1, h2, _, _, _, h3⟩ := ti_inv T.P t (by omega)
  rcases h3 with ⟨_, e, _⟩ | ⟨_, e, _⟩ | ⟨_, _, e, _⟩ | ⟨e, _⟩ | ⟨_, e, _⟩ | ⟨_, e, _⟩ | ⟨_, e, _⟩
  · omega
  · omega
  · omega
  · rw [h2, e]
  all_goals omega
theorem k5 (h : isK T t 5 = true) : T.P.underlying t = some (.int (ikT T t)) := by
  have hk := isK_eq h
  obtain ⟨i, d, h1, h2, _, _, _, h3⟩ := ti_inv T.P t (by omega)
  rcases h3 with ⟨_, e, _⟩ | ⟨_, e, _⟩ | ⟨_, _, e, _⟩ | ⟨_, e, _⟩ | ⟨e, _⟩ | ⟨_, e, _⟩ | ⟨_, e, _⟩
  · omega
  · omega
  · omega
  · omega
  · rw [h2, e]; rfl
  all_goals omega
theorem k6 (h : isK T t 6 = true) : T.P.underlying t = some .bool := by
  have hk := isK_eq h
  obtain ⟨i, d, h1, h2, _, _, _, h3⟩ := ti_inv T.P t (by omega)
  rcases h3 with ⟨_, e, _⟩ | ⟨_, e, _⟩ | ⟨_, _, e, _⟩ | ⟨_, e, _⟩ | ⟨_, e, _⟩ | ⟨e, _⟩ | ⟨_, e, _⟩
  · omega
  · omega
  · omega
  · omega
  · omega
  · rw [h2, e]
  · omega
theorem k7 (h : isK T t 7 = true) : T.P.underlying t = some (.pointer (elT T t)) := by
  have hk := isK_eq h
  obtain ⟨i, d, h1, h2, _, _, _, h3⟩ := ti_inv T.P t (by omega)
  rcases h3 with ⟨_, e, _⟩ | ⟨_, e, _⟩ | ⟨_, _, e, _⟩ | ⟨_, e, _⟩ | ⟨_, e, _⟩ | ⟨_, e, _⟩ | ⟨e, _⟩
  · omega
  · omega
  · omega
  · omega
  · omega
  · omega
  · rw [h2, e]; rfl
/-- a type that is known: its size, whether it is a row -/
theorem kAny (h : isK T t 0 = false) : ∃ i, T.P.info? t = some i ∧ i.size = szT T t ∧ i.bytes = bsT T t ∧ ∀ w, (isAgg t).run T.P w = .ok (agT T t) w := by
  obtain ⟨i, d, h1, h2, h4, h5, _, h3⟩ := ti_inv T.P t (isK_ne h)
  refine ⟨i, h1, h4.symm, h5.symm, fun w => ?_⟩
  have hu := run_underlying h2 w
  rcases h3 with ⟨e, _, e'⟩ | ⟨e, _, e'⟩ | ⟨fs, e, _, e', _⟩ | ⟨e, _, e'⟩ | ⟨e, _, e'⟩ | ⟨e, _, e'⟩ | ⟨e, _, e'⟩ <;>
    (have e' : agT T t = _ := e'; rw [e']; simp [isAgg, hu, e])
theorem sz_known (h : 0 < szT T t) : isK T t 0 = false := by
  cases hk : isK T t 0 with
  | false => rfl
  | true =>
    have := isK_eq hk
    exfalso
    unfold szT Tab.t tiOf at h
    unfold tiOf at this
    cases hi : T.P.info? t with
    | none => rw [hi] at h; exact absurd h (Nat.lt_irrefl _)
    | some i =>
      rw [hi] at h this
      simp only at h this
      cases hu : T.P.underlying t with
      | none => rw [hu] at h; exact absurd h (Nat.lt_irrefl _)
      | some d =>
        rw [hu] at h this
        cases d <;> first | exact absurd this (Nat.succ_ne_zero _) | exact absurd h (Nat.lt_irrefl 0)
theorem zeT_some {l : List Sc} (h : zeT T t = some l) : ∃ i v, T.P.info? t = some i ∧ i.zero = some v ∧ cellsOf (ofV v) = some l ∧ i.size = szT T t ∧ i.bytes = bsT T t := by
  by_cases hk : (tiOf T.P t).kd = 0
  · exfalso
    unfold zeT Tab.t tiOf at h
    unfold tiOf at hk
    cases hi : T.P.info? t with
    | none => rw [hi] at h; cases h
    | some i =>
      rw [hi] at h hk
      simp only at h hk
      cases hu : T.P.underlying t with
      | none => rw [hu] at h; cases h
      | some d =>
        rw [hu] at h hk
        cases d <;> first | exact absurd hk (Nat.succ_ne_zero _) | (simp [ti0] at h)
  · obtain ⟨i, d, h1, h2, h4, h5, h6, _⟩ := ti_inv T.P t hk
    obtain ⟨v, h7, h8⟩ := h6 l h
    exact ⟨i, v, h1, h7, h8, h4.symm, h5.symm⟩
theorem ezE_some {l : List Sc} (h : ezE T t = some l) : zeT T t = some l ∧ l.length = szT T t ∧ 0 < l.length := by
  unfold ezE at h
  cases hz : zeT T t with
  | none => rw [hz] at h; cases h
  | some m =>
    rw [hz] at h
    simp only at h
    cases h1 : Nat.beq m.length (T.t t).sz with
    | false => rw [h1] at h; cases h
    | true =>
      rw [h1] at h
      simp only at h
      cases h2 : Nat.blt 0 m.length with
      | false => rw [h2] at h; cases h
      | true =>
        rw [h2] at h
        cases h
        exact ⟨rfl, Nat.eq_of_beq_eq_true h1, Nat.le_of_ble_eq_true h2⟩
theorem limT_pos {k : Nat} (h : k ≤ limT T t) (hk : 0 < k) : ∃ z, ezE T t = some z ∧ k ≤ 100000 ∧ bsT T t ≤ 100000 := by
  unfold limT at h
  cases hz : ezE T t with
  | none => rw [hz] at h; exact absurd (Nat.lt_of_lt_of_le hk h) (Nat.lt_irrefl _)
  | some z =>
    rw [hz] at h
    simp only at h
    cases h1 : Nat.ble (bsT T t) 100000 with
    | false => rw [h1] at h; exact absurd (Nat.lt_of_lt_of_le hk h) (Nat.lt_irrefl _)
    | true => rw [h1] at h; exact ⟨z, rfl, h, Nat.le_of_ble_eq_true h1⟩
end
/-! operations -/
section
variable {T : Tab} {env : Nat → Value} {ρ : Rh} {w : World} {tm : Tm} {call : Cal} {s s' : St} {v : AV} {rc : Operand → Value}
def Dn (T : Tab) (env : Nat → Value) (ρ : Rh) (s s' : St) (w : World) (v : AV) (r : Result Next) : Prop := ∃ v' ρ' w' nx, r = .ok nx w' ∧ (nx = .value v' ∨ (nx = .skip ∧ v' = undef)) ∧ VA env ρ' v v' ∧ Post env ρ s.h s.nx w ρ' s'.h s'.nx w'
theorem Dn.val {v' : Value} {r : Result Next} (hr : HR env ρ s.h w) (h : r = .ok (.value v') w) (hv : VA env ρ v v') (hs : s'.h = s.h) (hn : s'.nx = s.nx) : Dn T env ρ s s' w v r :=
  ⟨v', ρ, w, _, h, .inl rfl, hv, by rw [hs, hn]; exact Post.refl hr _⟩
theorem retC_ok {x : Sc} (h : retC x s = .ok v s') : v = .c x ∧ s' = s := by cases h; exact ⟨rfl, rfl⟩
theorem s_move {x : Operand} {o : Oper} (ho : o.op = .move x ∨ o.op = .assign x) (h : oMove x T call tm s = .ok v s') (hx : VA env ρ (evo x tm) (rc x)) (hr : HR env ρ s.h w) : Dn T env ρ s s' w v ((execOp rc o).run T.P w) := by
  cases h
  refine Dn.val (v' := rc x) hr ?_ hx rfl rfl
  rcases ho with ho | ho <;> simp [execOp, ho]
theorem s_pick {c a b : Operand} {o : Oper} (ho : o.op = .pick c a b) (h : oPick c a b T call tm s = .ok v s') (hc : VA env ρ (evo c tm) (rc c)) (ha : VA env ρ (evo a tm) (rc a)) (hb : VA env ρ (evo b tm) (rc b)) (hr : HR env ρ s.h w) : Dn T env ρ s s' w v ((execOp rc o).run T.P w) := by
  obtain ⟨x, e, h⟩ := avC_ok h
  obtain ⟨t, rfl, h⟩ := scB_ok h
  rw [e] at hc
  have hc : rc c = .bool t := hc
  cases t with
  | true => cases h; exact Dn.val (v' := rc a) hr (by simp [execOp, ho, hc, asBool]) ha rfl rfl
  | false => cases h; exact Dn.val (v' := rc b) hr (by simp [execOp, ho, hc, asBool]) hb rfl rfl
/-- a block that is made of a list of cells -/
theorem mk_blk (hr : HR env ρ s.h w) (hn : s.nx < 32768) (hf : ρ s.nx = none) {l : List Sc} (hl : l.length ≤ 4096) {arr : Array Value} (ha : All2 (VS env ρ) l arr.toList) {ty : TypeId} {w' : World} (hw : w'.heap = w.heap.push (.cells arr ty)) (hlow : Below 0 w w') :
    Post env ρ s.h s.nx w (upR ρ s.nx (w.heap.size, arr.size)) (hset s.h s.nx (Bk.of l)) (s.nx + 1) w' := by
  have hle : l.length = arr.size := ha.len.trans Array.length_toList
  refine Post.make (ty := ty) hr hn hf (ofC_room _ l).1 (by rw [hw]; simp) (fun j hj => by rw [hw, Array.getElem?_push, if_neg (by omega)]) hlow (Nat.le_of_eq hle) ((ofC_room _ l).2 hl) fun j hj => ?_
  have hj : j < l.length := hj
  obtain ⟨u, h1, h2⟩ := ha.at (List.getElem?_eq_getElem hj)
  refine ⟨u, by rw [← h1]; simp, ?_⟩
  show VS env ρ ((ofC l.length l).get j) u
  rw [ofC_get l hj hl, List.getD_eq_getElem?_getD, List.getElem?_eq_getElem hj]
  exact h2
theorem push_low (w : World) (o : Obj) : Below 0 w { w with heap := w.heap.push o } := (Below.refl 0 w).alloc (Nat.zero_le _) o
theorem s_alloc {t : TypeId} {o : Oper} (ho : o.op = .alloc t) (hn : EnvOk env) (h : oAlloc t T call tm s = .ok v s') (hr : HR env ρ s.h w) (hf : Free ρ s.nx s'.nx) : Dn T env ρ s s' w v ((execOp rc o).run T.P w) := by
  obtain ⟨z, hz, h⟩ := optm_ok h
  obtain ⟨i, u, hi, hu, hc, _⟩ := zeT_some hz
  obtain ⟨hl, hx, h⟩ := newBlk_ok h
  cases h
  refine ⟨.pointer (some ⟨w.heap.size, 0, none⟩), _, { w with heap := w.heap.push (.cells u.cells t) }, _, (by simp [execOp, ho, Instr.alloc, zeroValue, typeInfo, hi, hu, newVar, newRow]), .inl rfl, ⟨_, _, upR_new _ _ _, rfl⟩, mk_blk hr hx (hf _ (Nat.le_refl _) (Nat.lt_succ_self _)) hl (cellsOf_V hn (ofV_V u) hc) rfl (push_low _ _)⟩
theorem s_box {t : TypeId} {x : Operand} {o : Oper} (ho : o.op = .box t x) (hn : EnvOk env) (h : oBox t x T call tm s = .ok v s') (hx : VA env ρ (evo x tm) (rc x)) (hr : HR env ρ s.h w) (hf : Free ρ s.nx s'.nx) : Dn T env ρ s s' w v ((execOp rc o).run T.P w) := by
  obtain ⟨z, hz, h⟩ := optm_ok h
  obtain ⟨hl, hx', h⟩ := newBlk_ok h
  cases h
  refine ⟨.pointer (some ⟨w.heap.size, 0, none⟩), _, { w with heap := w.heap.push (.cells (rc x).cells t) }, _, (by simp [execOp, ho, Instr.box, newVar, newRow]), .inl rfl, ⟨_, _, upR_new _ _ _, rfl⟩, mk_blk hr hx' (hf _ (Nat.le_refl _) (Nat.lt_succ_self _)) hl (cellsOf_V hn hx hz) rfl (push_low _ _)⟩
end
end Ev
end Go.Proofs.YtgfhddhkillchaaGreatDoor
