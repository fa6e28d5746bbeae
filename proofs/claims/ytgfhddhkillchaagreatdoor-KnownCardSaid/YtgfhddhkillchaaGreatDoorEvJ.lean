import Derived.Test.YtgfhddhkillchaaGreatDoorEvI
set_option linter.unusedVariables false
set_option linter.unusedSimpArgs false
namespace Go.Proofs.YtgfhddhkillchaaGreatDoor
namespace Ev
open Go.RowKit
theorem rowK_t {T : Tab} {t : Nat} (h : rowK T t = true) : (∃ e', T.P.underlying t = some (.slice e')) ∨ T.P.underlying t = some .string := by
  unfold rowK at h
  cases h1 : isK T t 1 with
  | true => exact .inl ⟨_, k1 h1⟩
  | false => rw [h1] at h; exact .inr (k4 h)
section
variable {T : Tab} {env : Nat → Value} {ρ : Rh} {w : World} {tm : Tm} {call : Cal} {s s' : St} {v : AV} {rc : Operand → Value} {h : Hp}
/-- the zero cells of an element, in memory -/
theorem zero_cells {e : Nat} {z : List Sc} (hn : EnvOk env) (hz : ezE T e = some z) : ∃ i u, T.P.info? e = some i ∧ i.zero = some u ∧ i.size = szT T e ∧ i.bytes = bsT T e ∧ u.cells.size = szT T e ∧ 0 < szT T e := by
  obtain ⟨g1, g2, g3⟩ := ezE_some hz
  obtain ⟨i, u, hi, hu, hc, g4, g5⟩ := zeT_some g1
  have hzv : All2 (VS (fun _ => .bool true) (fun _ => none)) z u.cells.toList := cellsOf_V (fun _ => rfl) (ofV_V u) hc
  have hus : z.length = u.cells.size := hzv.len.trans Array.length_toList
  exact ⟨i, u, hi, hu, g4, g5, by omega, by omega⟩
/-- a row that must grow: into a new block -/
theorem grow_new (hn : EnvOk env) (hr : HR env ρ h w) {n0 : Nat} (hx : n0 < 32768) (hf : ρ n0 = none) {ts tx ty : TypeId} (hk : isK T ts 1 = true) {base : Option Addr} {len cap n sz : Nat} (hsz : sz = ezT T ts) {olds news : List Value} {lo l : List Sc}
    (hold : ∀ w' : World, w'.heap = w.heap → (Builtin.firstCells sz len (.slice base len cap)).run T.P w' = .ok olds.toArray w') (hol : olds.length = len * sz) (ho : All2 (VS env ρ) lo olds) {vx : Value} (hs : Src T.P sz tx vx n news w) (hl : All2 (VS env ρ) l news) (hg : cap < len + n) (hlim : len + n ≤ limT T (elT T ts))
    {B : Bk} (hB1 : B.n = (len + n) * sz) (hB2 : B.n ≤ B.t.room) (hB3 : ∀ j x, (lo ++ l)[j]? = some x → B.t.get j = x) :
    ∃ v' ρ' w', (Builtin.append_ #[ts, tx] ty #[.slice base len cap, vx]).run T.P w = .ok v' w' ∧ VS env ρ' (.sl n0 0 (len + n) sz) v' ∧ Post env ρ h n0 w ρ' (hset h n0 B) (n0 + 1) w' := by
  obtain ⟨z, hz, p1, p2⟩ := limT_pos hlim (by omega)
  obtain ⟨i, u, hi, hu, q1, q2, q3, q4⟩ := zero_cells (T := T) hn hz
  have q1 : i.size = sz := by rw [hsz]; exact q1
  have q3 : u.cells.size = sz := by rw [hsz]; exact q3
  have q4 : 0 < sz := by rw [hsz]; exact q4
  subst q1
  have hby : (len + n) * i.bytes ≤ 10000000000 := by rw [q2]; exact Nat.mul_le_mul p1 p2
  have hfit := growslice_fits (bytes := i.bytes) hg (by omega)
  have hrun := run_append_grow_src (P := T.P) w ts tx ty (elT T ts) i u (k1 hk) hi hu base len cap olds (hold w.drew rfl) vx n news hs hg (by omega) hfit
  refine ⟨_, _, _, hrun, ?_, Post.make hr hx hf (Nat.lt_of_lt_of_le (by rw [hB1]; exact Nat.mul_pos (by omega) q4) hB2) (ty := elT T ts) (arr := (olds ++ news).toArray ++ Builtin.zeroCells u.cells (grownCap w (len + n) cap (elT T ts) - (len + n))) (by show (w.heap.push _)[w.heap.size]? = _; simp) (fun j hj => by show ((w.drew.heap).push _)[j]? = _; rw [Array.getElem?_push, if_neg (by show j ≠ w.heap.size; omega)]; rfl) ((Below.refl 0 w).drew.alloc (Nat.zero_le _) _) ?_ hB2 fun j hj => ?_⟩
  · have hge := grownCap_ge w (len + n) cap (elT T ts)
    refine ⟨_, _, _, upR_new _ _ _, rfl, hge, ?_⟩
    simp only [Array.size_append, List.size_toArray, List.length_append, hol, hs.newsLen, Builtin.zeroCells, Array.size_map, Array.size_range, q3, Nat.zero_add]
    rw [← Nat.add_mul, ← Nat.add_mul, show len + n + (grownCap w (len + n) cap (elT T ts) - (len + n)) = grownCap w (len + n) cap (elT T ts) by omega]
    exact Nat.le_refl _
  · rw [hB1]
    simp only [Array.size_append, List.size_toArray, List.length_append, hol, hs.newsLen]
    rw [Nat.add_mul]
    exact Nat.le_add_right _ _
  · have hall := ho.app hl
    have hjl : j < (lo ++ l).length := by rw [hall.len, List.length_append, hol, hs.newsLen, ← Nat.add_mul, ← hB1]; exact hj
    obtain ⟨y, e1, e2⟩ := hall.at (List.getElem?_eq_getElem hjl)
    refine ⟨y, ?_, by rw [hB3 j _ (List.getElem?_eq_getElem hjl)]; exact e2⟩
    rw [Array.getElem?_append_left (by rw [List.size_toArray, ← hall.len]; exact hjl)]
    simpa using e1
/-- a row that has room: where it lies -/
theorem grow_here (hn : EnvOk env) (hr : HR env ρ h w) {n0 : Nat} (hx : n0 < 32768) (hf : ρ n0 = none) {ts tx ty : TypeId} (hk : isK T ts 1 = true) {b k z len cap n sz : Nat} (hez : ezB T ts = true) (hsz : sz = ezT T ts) (hb : ρ b = some (k, z)) (h8 : 8 ≤ b) (hlv : Live h b) (hn1 : len * sz ≤ (get5 b h).n) (hz : cap * sz ≤ z) {news : List Value} {l : List Sc} {vx : Value} (hs : Src T.P sz tx vx n news w) (hl : All2 (VS env ρ) l news) (hn0 : 0 < n) (hg : len + n ≤ cap)
    {B : Bk} (hB1 : B.n = (len + n) * sz) (hB2 : B.n ≤ B.t.room) (hB3 : ∀ j x, (cellsF (get5 b h).t (len * sz) 0 ++ l)[j]? = some x → B.t.get j = x) :
    ∃ v' ρ' w', (Builtin.append_ #[ts, tx] ty #[.slice (some ⟨k, 0, none⟩) len cap, vx]).run T.P w = .ok v' w' ∧ VS env ρ' (.sl n0 0 (len + n) sz) v' ∧ Post env ρ h n0 w ρ' (hset (hset h b dead) n0 B) (n0 + 1) w' := by
  obtain ⟨i, hi, q1, q4⟩ := ez_info hez
  have q1 : i.size = sz := by rw [hsz]; exact q1
  have q4 : 0 < sz := by rw [hsz]; exact q4
  subst q1
  obtain ⟨k', arr, tyb, lo, hi', e, g1, g2, g3, g4, g5⟩ := (hr.blk b hlv).ex
  rw [hb] at e
  cases e
  have g2 : lo = hi' ∨ arr.size ≤ lo := g2.resolve_left (by omega)
  have hcap : (len + n) * i.size ≤ arr.size := Nat.le_trans (Nat.mul_le_mul_right _ hg) hz
  have hnl := hs.newsLen
  have hcap' : len * i.size + news.length ≤ arr.size := by rw [hnl, ← Nat.add_mul]; exact hcap
  have hrun := run_append_room_src (P := T.P) w ts tx ty (elT T ts) i (k1 hk) hi k 0 len cap vx n news hs hg (fun j hj => by rw [cell_of g1, Array.getElem?_eq_getElem (by omega)]; rfl) (fun j hj => frozen_of g1 g2 (by omega))
  rw [Nat.zero_add] at hrun
  obtain ⟨b1, b2, b3⟩ := setCells_blk k news (len * i.size) w g1
  obtain ⟨c1, c2⟩ := cellsF_get (get5 b h).t (len * i.size) 0
  refine ⟨_, _, _, hrun, ?_, Post.move hr hx hf h8 hlv (Nat.lt_of_lt_of_le (by rw [hB1]; exact Nat.mul_pos (by omega) q4) hB2) (by rw [ovr_size]; exact hb) b1 (by rw [ovr_size]; exact g2) b3 (setCells_low _ _ _ _) (by rw [ovr_size, hB1]; exact hcap) hB2 fun j hj => ?_⟩
  · refine ⟨_, _, _, upR_new _ _ _, rfl, hg, ?_⟩
    rw [Nat.zero_add, ovr_size]
    exact hz
  · rw [hB1, Nat.add_mul] at hj
    rw [ovr_at news _ _ _ hcap']
    by_cases hin : len * i.size ≤ j ∧ j < len * i.size + news.length
    · rw [if_pos hin]
      have hjl : j - len * i.size < l.length := by rw [hl.len]; omega
      obtain ⟨y, e1, e2⟩ := hl.at (List.getElem?_eq_getElem hjl)
      refine ⟨y, e1, ?_⟩
      rw [hB3 j l[j - len * i.size] (by rw [List.getElem?_append_right (by omega), c1, List.getElem?_eq_getElem hjl])]
      exact e2
    · rw [if_neg hin]
      have hjl : j < len * i.size := by omega
      obtain ⟨y, e1, e2⟩ := g5 j (by omega)
      refine ⟨y, e1, ?_⟩
      have hq := c2 j hjl
      rw [Nat.zero_add] at hq
      rw [hB3 j _ (by rw [List.getElem?_append_left (by omega), hq])]
      exact e2
theorem s_append {ts tx : TypeId} {d x : Operand} {o : Oper} (ho : o.op = .call { callee := .builtin .append, args := #[d, x], argTypes := #[ts, tx] }) (hn : EnvOk env) (hk : isK T ts 1 = true) (htx : rowK T tx = true) (hez : ezB T ts = true) (h : oAppend d x (limT T (elT T ts)) (ezT T ts) tm s = .ok v s') (hd : VA env ρ (evo d tm) (rc d)) (hx : VA env ρ (evo x tm) (rc x)) (hr : HR env ρ s.h w) (hf : Free ρ s.nx s'.nx) : Dn T env ρ s s' w v ((execOp rc o).run T.P w) := by
  obtain ⟨a, ea, h⟩ := avC_ok h
  obtain ⟨y, ey, h⟩ := avC_ok h
  rw [ea] at hd
  rw [ey] at hx
  have hd : VS env ρ a (rc d) := hd
  have hx : VS env ρ y (rc x) := hx
  obtain ⟨s1, n, l, e1, e2, h, hc⟩ := row_ok h
  obtain ⟨i, hi, q1, q4⟩ := ez_info hez
  obtain ⟨news, hs, hl⟩ := row_src (T := T) (tx := tx) hn hr hx hc q4 (rowK_t htx)
  have fin : ∀ {x' : Sc} {v' : Value} {ρ' : Rh} {w' : World}, v = .c x' → (Builtin.append_ #[ts, tx] o.type #[rc d, rc x]).run T.P w = .ok v' w' → VS env ρ' x' v' → Post env ρ s.h s.nx w ρ' s'.h s'.nx w' → Dn T env ρ s s' w v ((execOp rc o).run T.P w) := by
    rintro x' v' ρ' w' rfl hrun hv hp
    exact ⟨v', ρ', w', _, by simp [execOp, ho, resolve, invoke, builtin, hrun] <;> exact rfl, .inl rfl, hv, hp⟩
  rcases nrec_ok h with ⟨hz, h⟩ | ⟨m, hz, h⟩
  · subst hz
    have hnw : news = [] := List.eq_nil_of_length_eq_zero (by rw [hs.newsLen, Nat.zero_mul])
    subst hnw
    rw [← q1] at hs
    have go : ∀ {base : Option Addr} {sl sc : Nat}, sl ≤ sc → rc d = .slice base sl sc → (Builtin.append_ #[ts, tx] o.type #[rc d, rc x]).run T.P w = .ok (rc d) w := fun hle e => by
      rw [e]
      exact run_append_nothing w ts tx o.type (elT T ts) i (k1 hk) hi _ _ _ hle _ hs
    have hp : s' = s1 → Post env ρ s.h s.nx w ρ s'.h s'.nx w := fun e => by rw [e, e1, e2]; exact Post.refl hr _
    cases a with
    | sl b off len z =>
      cases h
      obtain ⟨k, zz, cap, hb, hrc, hcl, _⟩ := hd
      exact fin rfl (go hcl hrc) ⟨k, zz, cap, hb, hrc, hcl, by assumption⟩ (hp rfl)
    | sn =>
      cases h
      exact fin rfl (go (Nat.le_refl _) hd) hd (hp rfl)
    | se =>
      cases h
      obtain ⟨ad, cap, hrc⟩ := hd
      exact fin rfl (go (Nat.zero_le _) hrc) ⟨ad, cap, hrc⟩ (hp rfl)
    | _ => exact no_ok h
  · subst hz
    have hll : l.length = (m + 1) * ezT T ts := by rw [hl.len, hs.newsLen]
    have h : appS a (limT T (elT T ts)) (ezT T ts) (m + 1) l s1 = .ok v s' := h
    cases a with
    | sl b off len z =>
      obtain ⟨h1, hA⟩ := iff_no h
      obtain ⟨h2, hB⟩ := iff_no hA
      clear h hA
      have h1 : off = 0 := Nat.eq_of_beq_eq_true h1
      have h2 : z = ezT T ts := Nat.eq_of_beq_eq_true h2
      subst h1
      subst h2
      obtain ⟨s2, e3, e4, hC⟩ := look_same hB
      obtain ⟨h3, hD⟩ := iff_no hC
      obtain ⟨h4, hE⟩ := iff_no hD
      obtain ⟨h5, hF⟩ := iff_no hE
      clear hB hC hD hE
      rw [e1] at h3 h4 hF e3
      have h3 : len * ezT T ts ≤ (get5 b s.h).n := ble_t h3
      have h4 := blt_t h4
      have h5 : len + (m + 1) ≤ limT T (elT T ts) := ble_t h5
      obtain ⟨k, zz, cap, hb, hrc, hcl, hcz⟩ := hd
      have hlv : Live s.h b := ⟨hr.dom b _ hb, h4⟩
      obtain ⟨h8, h⟩ := put_ok hF
      have hnx : s2.nx = s.nx := e4.trans e2
      -- the block that is made
      have key : ∃ B : Bk, s.nx < 32768 ∧ s'.nx = s.nx + 1 ∧ s'.h = hset (hset s.h b dead) s.nx B ∧ v = .c (.sl s.nx 0 (len + (m + 1)) (ezT T ts)) ∧ B.n = (len + (m + 1)) * ezT T ts ∧ B.n ≤ B.t.room ∧ ∀ j x, (cellsF (get5 b s.h).t (len * ezT T ts) 0 ++ l)[j]? = some x → B.t.get j = x := by
        obtain ⟨c1, c2⟩ := cellsF_get (get5 b s.h).t (len * ezT T ts) 0
        rcases iff_ok h with ⟨h6, h⟩ | ⟨h6, h⟩
        · have h6 : (len + (m + 1)) * ezT T ts ≤ (get5 b s.h).t.room := ble_t h6
          rw [storeF_K] at h
          obtain ⟨h7, h⟩ := fresh_ok h
          cases h
          simp only at h7 ⊢
          rw [hnx] at h7 ⊢
          rw [e3]
          refine ⟨_, h7, rfl, rfl, rfl, rfl, ?_, fun j x hj => ?_⟩
          · show (len + (m + 1)) * ezT T ts ≤ (storeF l (len * ezT T ts) (get5 b s.h).t id).room
            rw [storeF_room]; exact h6
          · show (storeF l (len * ezT T ts) (get5 b s.h).t id).get j = x
            have hjl : j < (len + (m + 1)) * ezT T ts := by
              have := (List.getElem?_eq_some_iff.1 hj).1
              rw [List.length_append, c1, hll, ← Nat.add_mul] at this
              exact this
            rw [storeF_get l _ _ (by omega) (by rw [hll, ← Nat.add_mul]; exact h6)]
            by_cases hin : len * ezT T ts ≤ j ∧ j < len * ezT T ts + l.length
            · rw [if_pos hin]
              rw [List.getElem?_append_right (by omega), c1] at hj
              rw [List.getD_eq_getElem?_getD, hj]; rfl
            · rw [if_neg hin]
              have : j < len * ezT T ts := by rw [hll, ← Nat.add_mul] at hin; omega
              rw [List.getElem?_append_left (by omega), c2 j this, Nat.zero_add] at hj
              cases hj; rfl
        · obtain ⟨h8, h7, h⟩ := newBlk_ok h
          cases h
          simp only at h7 ⊢
          rw [hnx] at h7 ⊢
          rw [e3]
          have hlen : (cellsF (get5 b s.h).t (len * ezT T ts) 0 ++ l).length = (len + (m + 1)) * ezT T ts := by rw [List.length_append, c1, hll, ← Nat.add_mul]
          refine ⟨_, h7, rfl, rfl, rfl, hlen, (ofC_room _ _).2 h8, fun j x hj => ?_⟩
          have hjl := (List.getElem?_eq_some_iff.1 hj).1
          show (ofC (cellsF (get5 b s.h).t (len * ezT T ts) 0 ++ l).length (cellsF (get5 b s.h).t (len * ezT T ts) 0 ++ l)).get j = x
          rw [ofC_get _ hjl h8, List.getD_eq_getElem?_getD, hj]; rfl
      obtain ⟨B, hx0, hnx', hh', rfl, hB1, hB2, hB3⟩ := key
      have hf0 : ρ s.nx = none := hf s.nx (Nat.le_refl _) (by omega)
      by_cases hg : len + (m + 1) ≤ cap
      · obtain ⟨v', ρ', w', hrun, hv, hp⟩ := grow_here (ty := o.type) hn hr hx0 hf0 hk hez rfl hb h8 hlv h3 (by omega) hs hl (Nat.succ_pos m) hg hB1 hB2 hB3
        exact fin rfl (by rw [hrc]; exact hrun) hv (by rw [hnx', hh']; exact hp)
      · have hkl := Post.kill hr s.nx h8 hlv.1
        by_cases hl0 : len * ezT T ts = 0
        · have hl0' : len = 0 := by
            rcases Nat.mul_eq_zero.1 hl0 with e | e
            · exact e
            · omega
          subst hl0'
          obtain ⟨v', ρ', w', hrun, hv, hp⟩ := grow_new (ty := o.type) (base := some ⟨k, 0, none⟩) (len := 0) (cap := cap) (olds := []) (lo := []) hn hkl.hr hx0 hf0 hk rfl (fun w' _ => by simp [Builtin.firstCells, loadCells, loadCellsFrom]) (by simp) .nil hs hl (by omega) h5 hB1 hB2 (fun j x hj => hB3 j x (by rw [hl0]; exact hj))
          exact fin rfl (by rw [hrc]; exact hrun) hv (by rw [hnx', hh']; exact hkl.trans hp (Nat.le_refl _) (Nat.le_succ _))
        · obtain ⟨cs, c1, c2, c3⟩ := hr.cells hb (m := len * ezT T ts) (off := 0) (by omega) (by omega)
          obtain ⟨v', ρ', w', hrun, hv, hp⟩ := grow_new (ty := o.type) (base := some ⟨k, 0, none⟩) (len := len) (cap := cap) (olds := cs) hn hkl.hr hx0 hf0 hk rfl (fun w' hw => run_firstCells_some w' _ _ _ _ _ cs c1 (c3 w' hw)) c1 c2 hs hl (by omega) h5 hB1 hB2 hB3
          exact fin rfl (by rw [hrc]; exact hrun) hv (by rw [hnx', hh']; exact hkl.trans hp (Nat.le_refl _) (Nat.le_succ _))
    | sn =>
      obtain ⟨h5, h⟩ := iff_no h
      obtain ⟨h8, h7, h⟩ := newBlk_ok h
      cases h
      rw [e2] at h7
      have h5 : m + 1 ≤ limT T (elT T ts) := ble_t h5
      have hf0 : ρ s.nx = none := hf s.nx (Nat.le_refl _) (by show s.nx < s1.nx + 1; omega)
      have hd : rc d = .slice none 0 0 := hd
      obtain ⟨v', ρ', w', hrun, hv, hp⟩ := grow_new (ty := o.type) (base := none) (len := 0) (cap := 0) (olds := []) (lo := []) (B := Bk.of l) hn hr h7 hf0 hk rfl (fun w' _ => by simp [Builtin.firstCells]) (by simp) .nil hs hl (by omega) (by omega) (by show l.length = _; rw [hll, Nat.zero_add]) ((ofC_room _ _).2 h8) (fun j x hj => by
        have hj : l[j]? = some x := hj
        show (ofC _ _).get j = x
        rw [ofC_get _ (List.getElem?_eq_some_iff.1 hj).1 h8, List.getD_eq_getElem?_getD, hj]; rfl)
      rw [Nat.zero_add] at hv
      exact fin (by rw [e2]) (by rw [hd]; exact hrun) hv (by show Post _ _ _ _ _ _ (hset s1.h s1.nx _) (s1.nx + 1) _; rw [e1, e2]; exact hp)
    | _ => exact no_ok h
end
end Ev
end Go.Proofs.YtgfhddhkillchaaGreatDoor
