import Derived.Test.YtjmifcnfnihhnaaGreatDoorZeB
set_option linter.unusedVariables false
set_option linter.unusedSimpArgs false
namespace Go.Proofs.YtjmifcnfnihhnaaGreatDoor
namespace Ev
section
variable {T : Tab} {env : Nat → Value} {ρ : Rh} {w : World} {tm : Tm} {call : Cal} {s s' : St} {v : AV} {rc : Operand → Value} {h : Hp}
theorem s_len {t : TypeId} {x : Operand} {o : Oper} {ty : Array TypeId} (ho : o.op = .call { callee := .builtin .len, args := #[x], argTypes := #[t] }) (hO : OlnOk T env) (h : oLen t x T call tm s = .ok v s') (hx : VA env ρ (evo x tm) (rc x)) (hr : HR env ρ s.h w) : Dn T env ρ s s' w v ((execOp rc o).run T.P w) := by
  have fin : ∀ {n : Nat}, v = .c (.i .i64 (n : Nat)) → s' = s → (Builtin.len_ #[t] o.type #[rc x]).run T.P w = .ok (.int .i64 (n : Nat)) w → Dn T env ρ s s' w v ((execOp rc o).run T.P w) := by
    rintro n rfl rfl hn
    exact Dn.val (v' := .int .i64 (n : Nat)) hr (by simp [execOp, ho, resolve, invoke, builtin, hn]) rfl rfl rfl
  have arr : ∀ {t' : TypeId}, lenA T t' s = .ok v s' → v = .c (.i .i64 (lnT T t' : Nat)) ∧ s' = s ∧ isK T t' 2 = true := fun h => by
    obtain ⟨hk, h⟩ := iff_no h
    cases h
    exact ⟨rfl, rfl, hk⟩
  unfold oLen at h
  cases e : evo x tm with
  | ag l =>
    rw [e] at h hx
    obtain ⟨h1, h2, hk⟩ := arr h
    exact fin h1 h2 (by simp [Builtin.len_, run_underlying (k2 hk).1, goInt])
  | c y =>
    rw [e] at h hx
    have h : lenC T t y s = .ok v s' := h
    have hx : VS env ρ y (rc x) := hx
    rcases iff_ok h with ⟨hk, h⟩ | ⟨hk, h⟩
    · rcases scL_ok h with ⟨b, off, len, sz, rfl, h⟩ | ⟨hy, h⟩
      · cases h
        obtain ⟨k, z, cap, hb, hrc, _⟩ := hx
        exact fin rfl rfl (by simp [Builtin.len_, run_underlying (k1 hk), hrc, goInt])
      · cases h
        have : ∃ a cap, rc x = .slice a 0 cap := by
          rcases hy with rfl | rfl
          · exact ⟨_, _, hx⟩
          · exact hx
        obtain ⟨a, cap, hrc⟩ := this
        exact fin (n := 0) rfl rfl (by simp [Builtin.len_, run_underlying (k1 hk), hrc, goInt])
    · rcases iff_ok h with ⟨hk, h⟩ | ⟨_, h⟩
      · rcases scSy_ok h with ⟨l, rfl, h⟩ | ⟨j, r, rfl, hj, h⟩
        case' inr =>
          cases h
          obtain ⟨sb, h1, h2⟩ := hO j r hj
          have hx : rc x = env j := hx
          rw [h1] at hx
          exact Dn.val (v' := .int .i64 (sb.size : Nat)) hr (by simp [execOp, ho, resolve, invoke, builtin, Builtin.len_, run_underlying (k4 hk), hx, goInt]) (h2 ρ) rfl rfl
        cases h
        obtain ⟨sb, hrc, hl⟩ := hx
        exact fin rfl rfl (by simp [Builtin.len_, run_underlying (k4 hk), hrc, goInt, str_size hl])
      · rcases iff_ok h with ⟨hk, h⟩ | ⟨_, h⟩
        · obtain ⟨h1, h2, hk⟩ := arr h
          exact fin h1 h2 (by simp [Builtin.len_, run_underlying (k2 hk).1, goInt])
        · obtain ⟨hk, h⟩ := iff_no h
          obtain ⟨h1, h2, hk'⟩ := arr h
          exact fin h1 h2 (by simp [Builtin.len_, run_underlying (k7 hk), run_underlying (k2 hk').1, goInt])
  | tp l => rw [e] at h; exact no_ok h
  | u => rw [e] at h; exact no_ok h
/-- what a row's value shows -/
theorem row_ok {α : Type} {y : Sc} {sz : Nat} {K : Nat → List Sc → M α} {a : α} (h : rowOf y sz K s = .ok a s') : ∃ s1 n l, s1.h = s.h ∧ s1.nx = s.nx ∧ K n l s1 = .ok a s' ∧
    ((∃ cs, y = .s cs ∧ sz = 1 ∧ n = cs.length ∧ l = cs.map fun c => .i .u8 (.ofNat c)) ∨ (n = 0 ∧ l = [] ∧ (y = .sn ∨ y = .se ∨ ∃ b off, y = .sl b off 0 sz)) ∨ ∃ b off, y = .sl b off n sz ∧ 0 < n ∧ off + n * sz ≤ (get5 b s.h).n ∧ l = cellsF (get5 b s.h).t (n * sz) off) := by
  cases y with
  | s cs =>
    obtain ⟨h1, h⟩ := iff_no h
    exact ⟨s, _, _, rfl, rfl, h, .inl ⟨cs, rfl, Nat.eq_of_beq_eq_true h1, rfl, rfl⟩⟩
  | sn => exact ⟨s, _, _, rfl, rfl, h, .inr (.inl ⟨rfl, rfl, .inl rfl⟩)⟩
  | se => exact ⟨s, _, _, rfl, rfl, h, .inr (.inl ⟨rfl, rfl, .inr (.inl rfl)⟩)⟩
  | sl b off len z =>
    obtain ⟨h1, h⟩ := iff_no h
    have h1 : z = sz := Nat.eq_of_beq_eq_true h1
    subst h1
    unfold rowN at h
    rcases nrec_ok h with ⟨hz, h⟩ | ⟨m, hz, h⟩
    · exact ⟨s, _, _, rfl, rfl, h, .inr (.inl ⟨rfl, rfl, .inr (.inr ⟨b, off, by rw [hz]⟩)⟩)⟩
    · obtain ⟨s1, e1, e2, h⟩ := look_same h
      obtain ⟨h2, h⟩ := iff_no h
      have h2 : off + (m + 1) * z ≤ (get5 b s.h).n := ble_t h2
      exact ⟨s1, _, _, e1, e2, h, .inr (.inr ⟨b, off, by rw [hz], Nat.succ_pos _, h2, rfl⟩)⟩
  | _ => exact no_ok h
theorem byteCells_V {sb : ByteArray} {cs : List Nat} (h : sb.data.toList.map (·.toNat) = cs) : All2 (VS env ρ) (cs.map fun c => .i .u8 (.ofNat c)) (byteCells sb) := by
  unfold byteCells
  rw [← h, List.map_map]
  generalize sb.data.toList = l
  induction l with
  | nil => exact .nil
  | cons u l ih => exact .cons rfl ih
/-- what an append's second argument yields -/
theorem row_src (hn : EnvOk env) (hr : HR env ρ h w) {y : Sc} {sz n : Nat} {l : List Sc} {vy : Value} (hy : VS env ρ y vy) {tx : TypeId}
    (hc : (∃ cs, y = .s cs ∧ sz = 1 ∧ n = cs.length ∧ l = cs.map fun c => .i .u8 (.ofNat c)) ∨ (n = 0 ∧ l = [] ∧ (y = .sn ∨ y = .se ∨ ∃ b off, y = .sl b off 0 sz)) ∨ ∃ b off, y = .sl b off n sz ∧ 0 < n ∧ off + n * sz ≤ (get5 b h).n ∧ l = cellsF (get5 b h).t (n * sz) off) (hz : 0 < sz)
    (htx : (∃ e', T.P.underlying tx = some (.slice e')) ∨ T.P.underlying tx = some .string) : ∃ news, Src T.P sz tx vy n news w ∧ All2 (VS env ρ) l news := by
  rcases hc with ⟨cs, rfl, rfl, rfl, rfl⟩ | ⟨rfl, rfl, hc⟩ | ⟨b, off, rfl, h0, h1, rfl⟩
  · obtain ⟨sb, rfl, hl⟩ := hy
    have hs := Go.firstCells_string (P := T.P) sb
    have hbl := byteCells_length sb
    have hss := str_size hl
    refine ⟨byteCells sb, ⟨htx, fun _ => by rw [← hss]; rfl, by rw [← hss]; exact hs w, by rw [← hss]; exact hs w.drew, by rw [hbl, hss, Nat.mul_one], fun u hu => ?_⟩, byteCells_V hl⟩
    obtain ⟨_, _, rfl⟩ := List.mem_map.1 hu
    rfl
  · have : ∃ a cap, vy = .slice a 0 cap := by
      rcases hc with rfl | rfl | ⟨b, off, rfl⟩
      · exact ⟨_, _, hy⟩
      · exact hy
      · obtain ⟨k, z, cap, _, e, _⟩ := hy; exact ⟨_, _, e⟩
    obtain ⟨a, cap, rfl⟩ := this
    refine ⟨[], ⟨htx, fun _ => rfl, ?_, ?_, by simp, fun u hu => by cases hu⟩, .nil⟩
    all_goals cases a <;> simp [Builtin.firstCells, loadCells, loadCellsFrom]
  · obtain ⟨k, z, cap, hb, rfl, _⟩ := hy
    obtain ⟨cs, c1, c2, c3⟩ := hr.cells hb (m := n * sz) (Nat.mul_pos h0 hz) h1
    refine ⟨cs, ⟨htx, fun _ => rfl, run_firstCells_some w sz n _ n cap cs c1 (c3 w rfl), run_firstCells_some w.drew sz n _ n cap cs c1 (c3 w.drew rfl), c1, fun u hu => ?_⟩, c2⟩
    obtain ⟨j, hj⟩ := List.getElem?_of_mem hu
    have hj' : j < (cellsF (get5 b h).t (n * sz) off).length := by rw [c2.len]; exact (List.getElem?_eq_some_iff.1 hj).1
    obtain ⟨u', q1, q2⟩ := c2.at (List.getElem?_eq_getElem hj')
    rw [hj] at q1
    cases q1
    exact q2.one hn
end
end Ev
end Go.Proofs.YtjmifcnfnihhnaaGreatDoor
set_option linter.unusedVariables false
set_option linter.unusedSimpArgs false
namespace Go.Proofs.YtjmifcnfnihhnaaGreatDoor
namespace Ev
open Go.RowKit
theorem rowK_t {T : Tab} {t : Nat} (h : rowK T t = true) : (∃ e', T.P.underlying t = some (.slice e')) ∨ T.P.underlying t = some .string := by
  unfold rowK at h
  cases h1 : isK T t 1 with
  | true => exact .inl ⟨_, k1 h1⟩
  | false => rw [h1] at h; exact .inr (k4 h)
section
variable {T : Tab} {env : Nat → Value} {ρ : Rh} {w : World} {tm : Tm} {call : Cal} {s s' : St} {v : AV} {rc : Operand → Value} {h : Hp}
/-- the zero cells of an element, in memory -/
theorem zero_cells {e : Nat} {z : List Sc} (hn : EnvOk env) (hz : ezE T e = some z) : ∃ i u, T.P.info? e = some i ∧ i.zero = some u ∧ i.size = szT T e ∧ i.bytes = bsT T e ∧ u.cells.size = szT T e ∧ 0 < szT T e := by
  obtain ⟨g1, g2, g3⟩ := ezE_some hz
  obtain ⟨i, u, hi, hu, hc, g4, g5⟩ := zeT_some g1
  have hzv : All2 (VS (fun _ => .bool true) (fun _ => none)) z u.cells.toList := cellsOf_V (fun _ => rfl) (ofV_V u) hc
  have hus : z.length = u.cells.size := hzv.len.trans Array.length_toList
  exact ⟨i, u, hi, hu, g4, g5, by omega, by omega⟩
/-- a row that must grow: into a new block -/
theorem grow_new (hn : EnvOk env) (hr : HR env ρ h w) {n0 : Nat} (hx : n0 < 32768) (hf : ρ n0 = none) {ts tx ty : TypeId} (hk : isK T ts 1 = true) {base : Option Addr} {len cap n sz : Nat} (hsz : sz = ezT T ts) {olds news : List Value} {lo l : List Sc}
    (hold : ∀ w' : World, w'.heap = w.heap → (Builtin.firstCells sz len (.slice base len cap)).run T.P w' = .ok olds.toArray w') (hol : olds.length = len * sz) (ho : All2 (VS env ρ) lo olds) {vx : Value} (hs : Src T.P sz tx vx n news w) (hl : All2 (VS env ρ) l news) (hg : cap < len + n) (hlim : len + n ≤ limT T (elT T ts))
    {B : Bk} (hB0 : 0 < B.t.room) (hB1 : B.n ≤ (len + n) * sz) (hB2 : B.n ≤ B.t.room) (hB3 : ∀ j x, j < B.n → (lo ++ l)[j]? = some x → B.t.get j = x) (hBp : ∀ arr : Array Value, (∀ (j : Nat) (u : Value), (olds ++ news)[j]? = some u → arr[j]? = some u) → PlOk env B.t arr) :
    ∃ v' ρ' w', (Builtin.append_ #[ts, tx] ty #[.slice base len cap, vx]).run T.P w = .ok v' w' ∧ VS env ρ' (.sl n0 0 (len + n) sz) v' ∧ Post env ρ h n0 w ρ' (hset h n0 B) (n0 + 1) w' := by
  obtain ⟨z, hz, p1, p2⟩ := limT_pos hlim (by omega)
  obtain ⟨i, u, hi, hu, q1, q2, q3, q4⟩ := zero_cells (T := T) hn hz
  have q1 : i.size = sz := by rw [hsz]; exact q1
  have q3 : u.cells.size = sz := by rw [hsz]; exact q3
  have q4 : 0 < sz := by rw [hsz]; exact q4
  subst q1
  have hby : (len + n) * i.bytes ≤ 10000000000 := by rw [q2]; exact Nat.mul_le_mul p1 p2
  have hfit := growslice_fits (bytes := i.bytes) hg (by omega)
  have hrun := run_append_grow_src (P := T.P) w ts tx ty (elT T ts) i u (k1 hk) hi hu base len cap olds (hold w.drew rfl) vx n news hs hg (by omega) hfit
  refine ⟨_, _, _, hrun, ?_, Post.make hr hx hf hB0 (ty := elT T ts) (arr := (olds ++ news).toArray ++ Builtin.zeroCells u.cells (grownCap w (len + n) cap (elT T ts) - (len + n))) (by show (w.heap.push _)[w.heap.size]? = _; simp) (fun j hj => by show ((w.drew.heap).push _)[j]? = _; rw [Array.getElem?_push, if_neg (by show j ≠ w.heap.size; omega)]; rfl) ((Below.refl 0 w).drew.alloc (Nat.zero_le _) _) ?_ hB2 (fun j hj => ?_) (hBp _ fun j u hj => by rw [Array.getElem?_append_left (by rw [List.size_toArray]; exact (List.getElem?_eq_some_iff.1 hj).1)]; simpa using hj)⟩
  · have hge := grownCap_ge w (len + n) cap (elT T ts)
    refine ⟨_, _, _, upR_new _ _ _, rfl, hge, ?_⟩
    simp only [Array.size_append, List.size_toArray, List.length_append, hol, hs.newsLen, Builtin.zeroCells, Array.size_map, Array.size_range, q3, Nat.zero_add]
    rw [← Nat.add_mul, ← Nat.add_mul, show len + n + (grownCap w (len + n) cap (elT T ts) - (len + n)) = grownCap w (len + n) cap (elT T ts) by omega]
    exact Nat.le_refl _
  · refine Nat.le_trans hB1 ?_
    simp only [Array.size_append, List.size_toArray, List.length_append, hol, hs.newsLen]
    rw [Nat.add_mul]
    exact Nat.le_add_right _ _
  · have hall := ho.app hl
    have hjl : j < (lo ++ l).length := by rw [hall.len, List.length_append, hol, hs.newsLen, ← Nat.add_mul]; exact Nat.lt_of_lt_of_le hj hB1
    obtain ⟨y, e1, e2⟩ := hall.at (List.getElem?_eq_getElem hjl)
    refine ⟨y, ?_, by rw [hB3 j _ hj (List.getElem?_eq_getElem hjl)]; exact e2⟩
    rw [Array.getElem?_append_left (by rw [List.size_toArray, ← hall.len]; exact hjl)]
    simpa using e1
/-- a row that has room: where it lies -/
theorem grow_here (hn : EnvOk env) (hr : HR env ρ h w) {n0 : Nat} (hx : n0 < 32768) (hf : ρ n0 = none) {ts tx ty : TypeId} (hk : isK T ts 1 = true) {b k z len cap n sz : Nat} (hez : ezB T ts = true) (hsz : sz = ezT T ts) (hb : ρ b = some (k, z)) (h8 : 8 ≤ b) (hlv : Live h b) (hz : cap * sz ≤ z) {news : List Value} {l : List Sc} {vx : Value} (hs : Src T.P sz tx vx n news w) (hl : All2 (VS env ρ) l news) (hn0 : 0 < n) (hg : len + n ≤ cap)
    {B : Bk} (hB0 : 0 < B.t.room) (hB1 : B.n ≤ (len + n) * sz) (hn1 : ∀ j, j < B.n → j < len * sz → j < (get5 b h).n) (hB2 : B.n ≤ B.t.room) (hB3 : ∀ j x, j < B.n → (cellsF (get5 b h).t (len * sz) 0 ++ l)[j]? = some x → B.t.get j = x) (hBp : ∀ arr : Array Value, PlOk env (get5 b h).t arr → len * sz + news.length ≤ arr.size → PlOk env B.t (ovr arr (len * sz) news)) :
    ∃ v' ρ' w', (Builtin.append_ #[ts, tx] ty #[.slice (some ⟨k, 0, none⟩) len cap, vx]).run T.P w = .ok v' w' ∧ VS env ρ' (.sl n0 0 (len + n) sz) v' ∧ Post env ρ h n0 w ρ' (hset (hset h b dead) n0 B) (n0 + 1) w' := by
  obtain ⟨i, hi, q1, q4⟩ := ez_info hez
  have q1 : i.size = sz := by rw [hsz]; exact q1
  have q4 : 0 < sz := by rw [hsz]; exact q4
  subst q1
  obtain ⟨k', arr, tyb, lo, hi', e, g1, g2, g3, g4, g5, g6⟩ := (hr.blk b hlv).ex
  rw [hb] at e
  cases e
  have g2 : lo = hi' ∨ arr.size ≤ lo := g2.resolve_left (by omega)
  have hcap : (len + n) * i.size ≤ arr.size := Nat.le_trans (Nat.mul_le_mul_right _ hg) hz
  have hnl := hs.newsLen
  have hcap' : len * i.size + news.length ≤ arr.size := by rw [hnl, ← Nat.add_mul]; exact hcap
  have hrun := run_append_room_src (P := T.P) w ts tx ty (elT T ts) i (k1 hk) hi k 0 len cap vx n news hs hg (fun j hj => by rw [cell_of g1, Array.getElem?_eq_getElem (by omega)]; rfl) (fun j hj => frozen_of g1 g2 (by omega))
  rw [Nat.zero_add] at hrun
  obtain ⟨b1, b2, b3⟩ := setCells_blk k news (len * i.size) w g1
  obtain ⟨c1, c2⟩ := cellsF_get (get5 b h).t (len * i.size) 0
  refine ⟨_, _, _, hrun, ?_, Post.move hr hx hf h8 hlv hB0 (by rw [ovr_size]; exact hb) b1 (by rw [ovr_size]; exact g2) b3 (setCells_low _ _ _ _) (by rw [ovr_size]; exact Nat.le_trans hB1 hcap) hB2 (fun j hj => ?_) (hBp arr g6 hcap')⟩
  · refine ⟨_, _, _, upR_new _ _ _, rfl, hg, ?_⟩
    rw [Nat.zero_add, ovr_size]
    exact hz
  · have hj0 := hj
    replace hj := Nat.lt_of_lt_of_le hj hB1
    rw [Nat.add_mul] at hj
    rw [ovr_at news _ _ _ hcap']
    by_cases hin : len * i.size ≤ j ∧ j < len * i.size + news.length
    · rw [if_pos hin]
      have hjl : j - len * i.size < l.length := by rw [hl.len]; omega
      obtain ⟨y, e1, e2⟩ := hl.at (List.getElem?_eq_getElem hjl)
      refine ⟨y, e1, ?_⟩
      rw [hB3 j l[j - len * i.size] hj0 (by rw [List.getElem?_append_right (by omega), c1, List.getElem?_eq_getElem hjl])]
      exact e2
    · rw [if_neg hin]
      have hjl : j < len * i.size := by omega
      obtain ⟨y, e1, e2⟩ := g5 j (hn1 j hj0 hjl)
      refine ⟨y, e1, ?_⟩
      have hq := c2 j hjl
      rw [Nat.zero_add] at hq
      rw [hB3 j _ hj0 (by rw [List.getElem?_append_left (by omega), hq])]
      exact e2
theorem s_append {ts tx : TypeId} {d x : Operand} {o : Oper} (ho : o.op = .call { callee := .builtin .append, args := #[d, x], argTypes := #[ts, tx] }) (hn : EnvOk env) (hk : isK T ts 1 = true) (htx : rowK T tx = true) (hez : ezB T ts = true) (h : oAppend d x (limT T (elT T ts)) (ezT T ts) tm s = .ok v s') (hd : VA env ρ (evo d tm) (rc d)) (hx : VA env ρ (evo x tm) (rc x)) (hr : HR env ρ s.h w) (hf : Free ρ s.nx s'.nx) : Dn T env ρ s s' w v ((execOp rc o).run T.P w) := by
  obtain ⟨a, ea, h⟩ := avC_ok h
  obtain ⟨y, ey, h⟩ := avC_ok h
  rw [ea] at hd
  rw [ey] at hx
  have hd : VS env ρ a (rc d) := hd
  have hx : VS env ρ y (rc x) := hx
  obtain ⟨s1, n, l, e1, e2, h, hc⟩ := row_ok h
  obtain ⟨i, hi, q1, q4⟩ := ez_info hez
  obtain ⟨news, hs, hl⟩ := row_src (T := T) (tx := tx) hn hr hx hc q4 (rowK_t htx)
  have fin : ∀ {x' : Sc} {v' : Value} {ρ' : Rh} {w' : World}, v = .c x' → (Builtin.append_ #[ts, tx] o.type #[rc d, rc x]).run T.P w = .ok v' w' → VS env ρ' x' v' → Post env ρ s.h s.nx w ρ' s'.h s'.nx w' → Dn T env ρ s s' w v ((execOp rc o).run T.P w) := by
    rintro x' v' ρ' w' rfl hrun hv hp
    exact ⟨v', ρ', w', _, by simp [execOp, ho, resolve, invoke, builtin, hrun] <;> exact rfl, .inl rfl, hv, hp⟩
  rcases nrec_ok h with ⟨hz, h⟩ | ⟨m, hz, h⟩
  · subst hz
    have hnw : news = [] := List.eq_nil_of_length_eq_zero (by rw [hs.newsLen, Nat.zero_mul])
    subst hnw
    rw [← q1] at hs
    have go : ∀ {base : Option Addr} {sl sc : Nat}, sl ≤ sc → rc d = .slice base sl sc → (Builtin.append_ #[ts, tx] o.type #[rc d, rc x]).run T.P w = .ok (rc d) w := fun hle e => by
      rw [e]
      exact run_append_nothing w ts tx o.type (elT T ts) i (k1 hk) hi _ _ _ hle _ hs
    have hp : s' = s1 → Post env ρ s.h s.nx w ρ s'.h s'.nx w := fun e => by rw [e, e1, e2]; exact Post.refl hr _
    cases a with
    | sl b off len z =>
      cases h
      obtain ⟨k, zz, cap, hb, hrc, hcl, _⟩ := hd
      exact fin rfl (go hcl hrc) ⟨k, zz, cap, hb, hrc, hcl, by assumption⟩ (hp rfl)
    | sn =>
      cases h
      exact fin rfl (go (Nat.le_refl _) hd) hd (hp rfl)
    | se =>
      cases h
      obtain ⟨ad, cap, hrc⟩ := hd
      exact fin rfl (go (Nat.zero_le _) hrc) ⟨ad, cap, hrc⟩ (hp rfl)
    | _ => exact no_ok h
  · subst hz
    have hll : l.length = (m + 1) * ezT T ts := by rw [hl.len, hs.newsLen]
    have h : appS a (limT T (elT T ts)) (ezT T ts) (m + 1) l s1 = .ok v s' := h
    cases a with
    | sl b off len z =>
      obtain ⟨h1, hA⟩ := iff_no h
      obtain ⟨h2, hB⟩ := iff_no hA
      clear h hA
      have h1 : off = 0 := Nat.eq_of_beq_eq_true h1
      have h2 : z = ezT T ts := Nat.eq_of_beq_eq_true h2
      subst h1
      subst h2
      obtain ⟨s2, e3, e4, hC⟩ := look_same hB
      obtain ⟨h3, hD⟩ := iff_no hC
      obtain ⟨h4, hE⟩ := iff_no hD
      obtain ⟨h5, hF⟩ := iff_no hE
      clear hB hC hD hE
      rw [e1] at h3 h4 hF e3
      have h3 : len * ezT T ts ≤ (get5 b s.h).n := ble_t h3
      have h4 := blt_t h4
      have h5 : len + (m + 1) ≤ limT T (elT T ts) := ble_t h5
      obtain ⟨k, zz, cap, hb, hrc, hcl, hcz⟩ := hd
      have hlv : Live s.h b := ⟨hr.dom b _ hb, h4⟩
      obtain ⟨h8, h⟩ := put_ok hF
      have hnx : s2.nx = s.nx := e4.trans e2
      have hlne : l ≠ [] := fun e => by
        rw [e] at hll
        obtain ⟨i, hi, q1, q4⟩ := ez_info hez
        have hm := Nat.mul_pos (Nat.succ_pos m) q4
        rw [show m.succ * ezT T ts = 0 from hll.symm] at hm
        exact Nat.lt_irrefl _ hm
      have hez0 : 0 < ezT T ts := by obtain ⟨i, hi, q1, q4⟩ := ez_info hez; exact q4
      have key : ∃ B : Bk, s.nx < 32768 ∧ s'.nx = s.nx + 1 ∧ s'.h = hset (hset s.h b dead) s.nx B ∧ v = .c (.sl s.nx 0 (len + (m + 1)) (ezT T ts)) ∧ B.n = (len + (m + 1)) * ezT T ts ∧ B.n ≤ B.t.room ∧ plI B.t = none ∧ ∀ j x, (cellsF (get5 b s.h).t (len * ezT T ts) 0 ++ l)[j]? = some x → B.t.get j = x := by
        obtain ⟨c1, c2⟩ := cellsF_get (get5 b s.h).t (len * ezT T ts) 0
        rcases iff_ok h with ⟨h6, h⟩ | ⟨h6, h⟩
        · have h6 : (len + (m + 1)) * ezT T ts ≤ (get5 b s.h).t.room := ble_t h6
          rw [storeF_K] at h
          obtain ⟨h7, h⟩ := fresh_ok h
          cases h
          simp only at h7 ⊢
          rw [hnx] at h7 ⊢
          rw [e3]
          refine ⟨_, h7, rfl, rfl, rfl, rfl, ?_, plI_store l _ _ hlne, fun j x hj => ?_⟩
          · show (len + (m + 1)) * ezT T ts ≤ (storeF l (len * ezT T ts) (get5 b s.h).t id).room
            rw [storeF_room]; exact h6
          · show (storeF l (len * ezT T ts) (get5 b s.h).t id).get j = x
            have hjl : j < (len + (m + 1)) * ezT T ts := by
              have := (List.getElem?_eq_some_iff.1 hj).1
              rw [List.length_append, c1, hll, ← Nat.add_mul] at this
              exact this
            rw [storeF_get l _ _ (by omega) (by rw [hll, ← Nat.add_mul]; exact h6)]
            by_cases hin : len * ezT T ts ≤ j ∧ j < len * ezT T ts + l.length
            · rw [if_pos hin]
              rw [List.getElem?_append_right (by omega), c1] at hj
              rw [List.getD_eq_getElem?_getD, hj]; rfl
            · rw [if_neg hin]
              have : j < len * ezT T ts := by rw [hll, ← Nat.add_mul] at hin; omega
              rw [List.getElem?_append_left (by omega), c2 j this, Nat.zero_add] at hj
              cases hj; rfl
        · obtain ⟨h8, h7, h⟩ := newBlk_ok h
          cases h
          simp only at h7 ⊢
          rw [hnx] at h7 ⊢
          rw [e3]
          have hlen : (cellsF (get5 b s.h).t (len * ezT T ts) 0 ++ l).length = (len + (m + 1)) * ezT T ts := by rw [List.length_append, c1, hll, ← Nat.add_mul]
          refine ⟨_, h7, rfl, rfl, rfl, hlen, (ofC_room _ _).2 h8, plI_of _ _, fun j x hj => ?_⟩
          have hjl := (List.getElem?_eq_some_iff.1 hj).1
          show (ofC (cellsF (get5 b s.h).t (len * ezT T ts) 0 ++ l).length (cellsF (get5 b s.h).t (len * ezT T ts) 0 ++ l)).get j = x
          rw [ofC_get _ hjl h8, List.getD_eq_getElem?_getD, hj]; rfl
      obtain ⟨B, hx0, hnx', hh', rfl, hB1, hB2, hBp, hB3⟩ := key
      have hf0 : ρ s.nx = none := hf s.nx (Nat.le_refl _) (by omega)
      have hB0 : 0 < B.t.room := Nat.lt_of_lt_of_le (by rw [hB1]; exact Nat.mul_pos (by omega) hez0) hB2
      by_cases hg : len + (m + 1) ≤ cap
      · obtain ⟨v', ρ', w', hrun, hv, hp⟩ := grow_here (ty := o.type) hn hr hx0 hf0 hk hez rfl hb h8 hlv (by omega) hs hl (Nat.succ_pos m) hg hB0 (Nat.le_of_eq hB1) (fun j _ hj => by omega) hB2 (fun j x _ => hB3 j x) (fun _ _ _ => PlOk.no hBp)
        exact fin rfl (by rw [hrc]; exact hrun) hv (by rw [hnx', hh']; exact hp)
      · have hkl := Post.kill hr s.nx h8 hlv.1
        by_cases hl0 : len * ezT T ts = 0
        · have hl0' : len = 0 := by
            rcases Nat.mul_eq_zero.1 hl0 with e | e
            · exact e
            · omega
          subst hl0'
          obtain ⟨v', ρ', w', hrun, hv, hp⟩ := grow_new (ty := o.type) (base := some ⟨k, 0, none⟩) (len := 0) (cap := cap) (olds := []) (lo := []) hn hkl.hr hx0 hf0 hk rfl (fun w' _ => by simp [Builtin.firstCells, loadCells, loadCellsFrom]) (by simp) .nil hs hl (by omega) h5 hB0 (Nat.le_of_eq hB1) hB2 (fun j x _ hj => hB3 j x (by rw [hl0]; exact hj)) (fun _ _ => PlOk.no hBp)
          exact fin rfl (by rw [hrc]; exact hrun) hv (by rw [hnx', hh']; exact hkl.trans hp (Nat.le_refl _) (Nat.le_succ _))
        · obtain ⟨cs, c1, c2, c3⟩ := hr.cells hb (m := len * ezT T ts) (off := 0) (by omega) (by omega)
          obtain ⟨v', ρ', w', hrun, hv, hp⟩ := grow_new (ty := o.type) (base := some ⟨k, 0, none⟩) (len := len) (cap := cap) (olds := cs) hn hkl.hr hx0 hf0 hk rfl (fun w' hw => run_firstCells_some w' _ _ _ _ _ cs c1 (c3 w' hw)) c1 c2 hs hl (by omega) h5 hB0 (Nat.le_of_eq hB1) hB2 (fun j x _ => hB3 j x) (fun _ _ => PlOk.no hBp)
          exact fin rfl (by rw [hrc]; exact hrun) hv (by rw [hnx', hh']; exact hkl.trans hp (Nat.le_refl _) (Nat.le_succ _))
    | sn =>
      obtain ⟨h5, h⟩ := iff_no h
      obtain ⟨h8, h7, h⟩ := newBlk_ok h
      cases h
      rw [e2] at h7
      have h5 : m + 1 ≤ limT T (elT T ts) := ble_t h5
      have hf0 : ρ s.nx = none := hf s.nx (Nat.le_refl _) (by show s.nx < s1.nx + 1; omega)
      have hd : rc d = .slice none 0 0 := hd
      obtain ⟨v', ρ', w', hrun, hv, hp⟩ := grow_new (ty := o.type) (base := none) (len := 0) (cap := 0) (olds := []) (lo := []) (B := Bk.of l) hn hr h7 hf0 hk rfl (fun w' _ => by simp [Builtin.firstCells]) (by simp) .nil hs hl (by omega) (by omega) (ofC_room _ _).1 (by show l.length ≤ _; rw [hll, Nat.zero_add]; exact Nat.le_refl _) ((ofC_room _ _).2 h8) (fun j x _ hj => by
        have hj : l[j]? = some x := hj
        show (ofC _ _).get j = x
        rw [ofC_get _ (List.getElem?_eq_some_iff.1 hj).1 h8, List.getD_eq_getElem?_getD, hj]; rfl) (fun _ _ => PlOk.no (plI_of _ _))
      rw [Nat.zero_add] at hv
      exact fin (by rw [e2]) (by rw [hd]; exact hrun) hv (by show Post _ _ _ _ _ _ (hset s1.h s1.nx _) (s1.nx + 1) _; rw [e1, e2]; exact hp)
    | _ => exact no_ok h
end
end Ev
end Go.Proofs.YtjmifcnfnihhnaaGreatDoor
set_option linter.unusedVariables false
set_option linter.unusedSimpArgs false
namespace Go.Proofs.YtjmifcnfnihhnaaGreatDoor
namespace Ev
open Go.RowKit
section
variable {T : Tab} {env : Nat → Value} {ρ : Rh} {w : World} {tm : Tm} {call : Cal} {s s' : St} {v : AV} {rc : Operand → Value} {h : Hp}
theorem isB_t {t : Nat} (h : isB T t = true) : T.P.underlying t = some (.int .u8) := by
  unfold isB at h
  cases h1 : isK T t 5 with
  | false => rw [h1] at h; cases h
  | true =>
    rw [h1] at h
    have h : Nat.beq (kN (ikT T t)) 4 = true := h
    have := kN_inj (k' := .u8) (Nat.eq_of_beq_eq_true h)
    rw [k5 h1, this]
theorem bytes_V : ∀ {l : List Sc} {cs : List Nat} {us : List Value}, bytesOf l = some cs → All2 (VS env ρ) l us → us = cs.map (fun c => Value.int .u8 ((c : Nat) : Int)) ∧ ∀ c ∈ cs, c < 256
  | [], cs, us, h, ha => by cases h; cases ha; exact ⟨rfl, fun c hc => by cases hc⟩
  | x :: l, cs, us, h, ha => by
    have h : @Option.rec _ (fun _ => Option (List Nat)) none (fun c => @Option.rec _ (fun _ => Option (List Nat)) none (fun m => some (c :: m)) (bytesOf l)) (byteOf x) = some cs := h
    cases h1 : byteOf x with
    | none => rw [h1] at h; cases h
    | some c =>
      rw [h1] at h
      simp only at h
      cases h2 : bytesOf l with
      | none => rw [h2] at h; cases h
      | some m =>
        rw [h2] at h
        cases h
        cases ha with
        | cons hx ha =>
          obtain ⟨e1, e2⟩ := bytes_V h2 ha
          have : ∃ k, x = .i .u8 ((k : Nat) : Int) ∧ c = k ∧ k < 256 := by
            cases x with
            | i k n =>
              have h1 : iff (Nat.beq (kN k) 4) (@Int.rec (fun _ => Option Nat) (fun m => iff (Nat.blt m 256) (some m) none) (fun _ => none) n) none = some c := h1
              cases h3 : Nat.beq (kN k) 4 with
              | false => rw [h3] at h1; cases h1
              | true =>
                rw [h3] at h1
                have hk := kN_inj (k' := .u8) (Nat.eq_of_beq_eq_true h3)
                cases n with
                | ofNat q =>
                  have h1 : iff (Nat.blt q 256) (some q) none = some c := h1
                  cases h4 : Nat.blt q 256 with
                  | false => rw [h4] at h1; cases h1
                  | true => rw [h4] at h1; cases h1; exact ⟨_, by rw [hk]; rfl, rfl, blt_t h4⟩
                | negSucc q => cases h1
            | _ => cases h1
          obtain ⟨k, rfl, rfl, hk⟩ := this
          refine ⟨by rw [List.map_cons, ← e1]; congr 1, fun q hq => ?_⟩
          rcases List.mem_cons.1 hq with rfl | hq
          · exact hk
          · exact e2 q hq
theorem push_bytes : ∀ (cs : List Nat) (a : ByteArray), (∀ c ∈ cs, c < 256) → ((cs.map fun (c : Nat) => (c : Int)).foldl (fun r n => r.push (UInt8.ofNat n.toNat)) a).data.toList.map (·.toNat) = a.data.toList.map (·.toNat) ++ cs
  | [], a, _ => by simp
  | c :: cs, a, h => by
    rw [List.map_cons, List.foldl_cons, push_bytes cs _ (fun q hq => h q (List.mem_cons_of_mem _ hq))]
    have := h c (List.mem_cons_self ..)
    simp [ByteArray.push, Nat.mod_eq_of_lt this]
theorem s_convert {src dst : TypeId} {x : Operand} {o : Oper} (ho : o.op = .convert src dst x) (hn : EnvOk env) (hO : OcvOk T env) (hO2 : OstOk T env) (h : oConvert src dst x T call tm s = .ok v s') (hx : VA env ρ (evo x tm) (rc x)) (hr : HR env ρ s.h w) : Dn T env ρ s s' w v ((execOp rc o).run T.P w) := by
  obtain ⟨y, ey, h⟩ := avC_ok h
  rw [ey] at hx
  have hx : VS env ρ y (rc x) := hx
  obtain ⟨hk0, h⟩ := iff_on h
  obtain ⟨_, d0, _, hu0, _⟩ := ti_inv T.P src (isK_ne hk0)
  rcases iff_ok h with ⟨hk, h⟩ | ⟨_, h⟩
  · rcases scIy_ok h with ⟨k, n, rfl, h⟩ | ⟨j, r, rfl, hj, h⟩
    case' inr =>
      cases h
      obtain ⟨k, n, h1, h2⟩ := hO dst j r hj
      have hx : rc x = env j := hx
      rw [h1] at hx
      exact Dn.val (v' := .int (ikT T dst) ((ikT T dst).wrap n)) hr (by simp [execOp, ho, convert, run_underlying hu0, run_underlying (k5 hk), hx, Conv.intToInt]) (h2 ρ) rfl rfl
    obtain ⟨r, hr', h⟩ := optm_ok h
    rw [mkI_eq, wr_eq] at hr'
    cases hr'
    cases h
    have hx : rc x = .int k n := hx
    exact Dn.val (v' := .int (ikT T dst) ((ikT T dst).wrap n)) hr (by simp [execOp, ho, convert, run_underlying hu0, run_underlying (k5 hk), hx, Conv.intToInt]) rfl rfl rfl
  · rcases iff_ok h with ⟨hk, h⟩ | ⟨_, h⟩
    · obtain ⟨hs1, h⟩ := iff_no h
      obtain ⟨hb, h⟩ := iff_no h
      have hcv := fun (a : Option Addr) (l c : Nat) => run_convert_bytes_string (P := T.P) w src dst (elT T src) a l c (k1 hs1) (isB_t hb) (k4 hk)
      rcases scL_ok h with ⟨b, off, len, sz, hy0, h9⟩ | ⟨hy, h⟩
      · subst hy0
        obtain ⟨s1, n, l, e1, e2, h8, hc⟩ := row_ok h9
        obtain ⟨k, z, cap, hbk, hrc, _⟩ := hx
        cases hcs : bytesOf l with
        | none =>
          rw [hcs] at h8
          obtain ⟨r, hr9, h7⟩ := optm_ok h8
          cases h7
          rcases hc with ⟨_, e, _⟩ | ⟨rfl, rfl, hc⟩ | ⟨b', off', e, h0, h1, rfl⟩
          · cases e
          · cases hcs
          · cases e
            obtain ⟨us, c1, c2, c3⟩ := hr.cells hbk (m := len * 1) (by omega) h1
            obtain ⟨cs, q1, q2⟩ := hO2 _ _ ρ us hr9 c2
            have hl := run_loadCells_list (P := T.P) w _ us (c3 w rfl)
            rw [c1, Nat.mul_one] at hl
            have hb' := run_bytesToString (P := T.P) w ⟨k, off, none⟩ len cap (cs.map fun (c : Nat) => (c : Int)) (by rw [hl, q1, List.map_map]; rfl)
            exact Dn.val hr (by simp [execOp, ho, hrc, hcv, hb']) q2 e1 e2
        | some cs =>
        rw [hcs] at h8
        cases h8
        rcases hc with ⟨_, e, _⟩ | ⟨rfl, rfl, hc⟩ | ⟨b', off', e, h0, h1, rfl⟩
        · cases e
        · cases hcs
          have hl0 : len = 0 := by
            rcases hc with e | e | ⟨_, _, e⟩
            · cases e
            · cases e
            · cases e; rfl
          subst hl0
          have hb' := run_bytesToString (P := T.P) w ⟨k, off, none⟩ 0 cap [] (by simp [loadCells, loadCellsFrom])
          exact Dn.val (v' := .string ByteArray.empty) hr (by simp [execOp, ho, hrc, hcv, hb']) ⟨_, rfl, rfl⟩ e1 e2
        · cases e
          obtain ⟨us, c1, c2, c3⟩ := hr.cells hbk (m := len * 1) (by omega) h1
          obtain ⟨q1, q2⟩ := bytes_V hcs c2
          have hl := run_loadCells_list (P := T.P) w _ us (c3 w rfl)
          rw [c1, Nat.mul_one] at hl
          have hb' := run_bytesToString (P := T.P) w ⟨k, off, none⟩ len cap (cs.map fun (c : Nat) => (c : Int)) (by rw [hl, q1, List.map_map]; rfl)
          refine Dn.val (v' := .string _) hr (by simp [execOp, ho, hrc, hcv, hb']; rfl) ⟨_, rfl, ?_⟩ e1 e2
          rw [push_bytes cs _ q2]
          rfl
      · cases h
        have : ∃ a cap, rc x = .slice a 0 cap := by
          rcases hy with rfl | rfl
          · exact ⟨_, _, hx⟩
          · exact hx
        obtain ⟨a, cap, hrc⟩ := this
        refine Dn.val (v' := .string ByteArray.empty) hr ?_ ⟨_, rfl, rfl⟩ rfl rfl
        cases a with
        | none => simp [execOp, ho, hrc, hcv, Conv.bytesToString]
        | some ad =>
          have hb' := run_bytesToString (P := T.P) w ad 0 cap [] (by simp [loadCells, loadCellsFrom])
          simp [execOp, ho, hrc, hcv, hb']
    · obtain ⟨hsd, hA⟩ := iff_no h
      obtain ⟨hk, hB⟩ := iff_no hA
      obtain ⟨hb, hC⟩ := iff_no hB
      have hsd : src = dst := Nat.eq_of_beq_eq_true hsd
      subst hsd
      rcases scL_ok hC with ⟨b, off, len, sz, hy0, hD⟩ | ⟨hy, hD⟩
      · subst hy0
        obtain ⟨s1, e1, e2, hE⟩ := look_same hD
        obtain ⟨h4, hF⟩ := iff_no hE
        obtain ⟨h8, hG⟩ := put_ok hF
        cases hG
        obtain ⟨k, z, cap, hbk, hrc, hcl, hcz⟩ := hx
        have hlv : Live s.h b := ⟨hr.dom b _ hbk, blt_t h4⟩
        obtain ⟨k', arr, tyb, lo, hi', e, g1, g2, g3, g4, g5, g6⟩ := (hr.blk b hlv).ex
        rw [hbk] at e
        cases e
        have g2 : lo = hi' ∨ arr.size ≤ lo := g2.resolve_left (by omega)
        have hsh : w.shape? k = some (tyb, arr.size) := by simp [World.shape?, g1]
        refine ⟨.slice (some ⟨k, off, none⟩) len cap, ρ, w.freeze ⟨k, arr.size, none⟩ 1, _, ?_, .inl rfl, ⟨k, _, cap, hbk, rfl, hcl, hcz⟩, ?_⟩
        · simp [execOp, ho, hrc, convert, run_underlying (k1 hk), run_underlying (isB_t hb), markStringish, hsh]
        · show Post env ρ s.h s.nx w ρ (hset s1.h b (get5 b s.h)) s1.nx _
          rw [e1, e2]
          have hfz : ∀ j, (w.freeze ⟨k, arr.size, none⟩ 1).heap[j]? = if k = j then (w.heap[j]?).map (fun
              | .cells c elem (lo, hi) => .cells c elem (if lo == hi then (arr.size, arr.size + 1) else (min lo arr.size, max hi (arr.size + 1)))
              | o => o) else w.heap[j]? := fun j => by
            unfold World.freeze
            rw [if_neg (by decide)]
            exact Array.getElem?_modify
          refine Post.write hr _ (k := k) h8 hlv rfl ⟨_, hbk⟩ ?_ (fun j hj => by rw [hfz, if_neg (fun e => hj e.symm)]) ⟨by unfold World.freeze; rw [if_neg (by decide)], by unfold World.freeze; rw [if_neg (by decide)], by unfold World.freeze; rw [if_neg (by decide)], by unfold World.freeze; rw [if_neg (by decide)]; simp, fun j hj => by omega⟩
          by_cases hll : lo = hi'
          · exact ⟨k, arr, tyb, arr.size, arr.size + 1, hbk, by rw [hfz, if_pos rfl, g1]; simp [hll], .inr (.inr (Nat.le_refl _)), g3, g4, g5, g6⟩
          · exact ⟨k, arr, tyb, min lo arr.size, max hi' (arr.size + 1), hbk, by rw [hfz, if_pos rfl, g1]; simp [hll], .inr (.inr (by omega)), g3, g4, g5, g6⟩
      · exact no_ok hD
theorem s_copy {ts tx : TypeId} {d x : Operand} {o : Oper} (ho : o.op = .call { callee := .builtin .copy, args := #[d, x], argTypes := #[ts, tx] }) (hn : EnvOk env) (hk : isK T ts 1 = true) (hez : ezB T ts = true) (h : oCopy d x (ezT T ts) tm s = .ok v s') (hd : VA env ρ (evo d tm) (rc d)) (hx : VA env ρ (evo x tm) (rc x)) (hr : HR env ρ s.h w) : Dn T env ρ s s' w v ((execOp rc o).run T.P w) := by
  obtain ⟨a, ea, h⟩ := avC_ok h
  obtain ⟨y, ey, h⟩ := avC_ok h
  rw [ea] at hd
  rw [ey] at hx
  have hd : VS env ρ a (rc d) := hd
  have hx : VS env ρ y (rc x) := hx
  obtain ⟨s1, n, l, e1, e2, h, hc⟩ := row_ok h
  obtain ⟨i, hi, q1, q4⟩ := ez_info hez
  have hsrc : (Builtin.lenOf (rc x)).run T.P w = .ok n w ∧ ∀ m, m ≤ n → ∃ news, (Builtin.firstCells (ezT T ts) m (rc x)).run T.P w = .ok news.toArray w ∧ All2 (VS env ρ) (l.take (m * ezT T ts)) news := by
    rcases hc with ⟨cs, rfl, h1, rfl, rfl⟩ | ⟨rfl, rfl, hc⟩ | ⟨b, off, rfl, h0, h1, rfl⟩
    · obtain ⟨sb, hrc, hl⟩ := hx
      have hss := str_size hl
      rw [hrc]
      refine ⟨by rw [← hss]; rfl, fun m hm => ⟨(byteCells sb).take m, ?_, ?_⟩⟩
      · simp only [Builtin.firstCells, Sem.run_pure]
        congr 1
        apply Array.ext'
        simp [byteCells]
      · rw [h1, Nat.mul_one]
        exact (byteCells_V hl).take m
    · have : ∃ a cap, rc x = .slice a 0 cap := by
        rcases hc with rfl | rfl | ⟨b, off, rfl⟩
        · exact ⟨_, _, hx⟩
        · exact hx
        · obtain ⟨k, z, cap, _, e, _⟩ := hx; exact ⟨_, _, e⟩
      obtain ⟨ad, cap, hrc⟩ := this
      rw [hrc]
      refine ⟨rfl, fun m hm => ⟨[], ?_, by rw [List.take_nil]; exact .nil⟩⟩
      have : m = 0 := by omega
      subst this
      cases ad <;> simp [Builtin.firstCells, loadCells, loadCellsFrom]
    · obtain ⟨k, z, cap, hb, hrc, _⟩ := hx
      obtain ⟨cs, c1, c2, c3⟩ := hr.cells hb (m := n * ezT T ts) (Nat.mul_pos h0 q4) h1
      rw [hrc]
      refine ⟨rfl, fun m hm => ⟨cs.take (m * ezT T ts), run_firstCells_some w _ m _ n cap _ (by rw [List.length_take, c1]; exact Nat.min_eq_left (Nat.mul_le_mul_right _ hm)) (fun j u hu => c3 w rfl j u ?_), c2.take _⟩⟩
      rw [List.getElem?_take] at hu
      split at hu
      · exact hu
      · cases hu
  obtain ⟨hlen, hcells⟩ := hsrc
  rcases scL_ok h with ⟨b, off, len, z, ha0, hA⟩ | ⟨hy, h⟩
  · obtain ⟨hz, hB⟩ := iff_no hA
    have hz : z = ezT T ts := Nat.eq_of_beq_eq_true hz
    subst ha0
    subst hz
    obtain ⟨k, zz, cap, hb, hrc, hcl, hcz⟩ := hd
    have hmin : iff (Nat.ble n len) n len = Nat.min n len := by
      cases hb : Nat.ble n len with
      | true => exact (Nat.min_eq_left (ble_t hb)).symm
      | false => exact (Nat.min_eq_right (Nat.le_of_lt (ble_f hb))).symm
    rw [hmin] at hB
    obtain ⟨news, hf1, hf2⟩ := hcells (Nat.min n len) (Nat.min_le_left _ _)
    unfold copyR at hB
    rcases nrec_ok hB with ⟨hm, hC⟩ | ⟨m, hm, hC⟩
    · cases hC
      rw [hm] at hf1
      rw [hm, Nat.zero_mul, List.take_zero] at hf2
      cases hf2
      refine Dn.val (v' := .int .i64 0) hr ?_ rfl e1 e2
      simp only [execOp, ho, resolve, invoke, builtin, Sem.run_bind, Sem.run_pure, Result.andThen_ok, List.map_toArray, List.map_cons, List.map_nil, hrc]
      simp [Builtin.copy_, run_underlying (k1 hk), hlen, sizeOf, typeInfo, hi, q1, hf1, storeCells, hm, goInt]
    · obtain ⟨s2, e3, e4, hD⟩ := look_same hC
      obtain ⟨h2, hE⟩ := iff_no hD
      rw [storeF_K] at hE
      obtain ⟨h8, hF⟩ := put_ok hE
      cases hF
      rw [e1] at h2 e3
      have h2 : off + (m + 1) * ezT T ts ≤ (get5 b s.h).n := ble_t h2
      rw [hm] at hf1 hf2
      have hnl := hf2.len
      have hpos : 0 < (m + 1) * ezT T ts := Nat.mul_pos (Nat.succ_pos _) q4
      obtain ⟨hlv, arr, ty, lo, hi', g0, g1, g2, g3, g4, g5⟩ := hr.get hb (by omega)
      have g2 : lo = hi' ∨ arr.size ≤ lo := g2.resolve_left (by omega)
      have hnle : news.length ≤ (m + 1) * ezT T ts := by rw [← hnl, List.length_take]; omega
      have hst := run_storeCells_cells (P := T.P) k off news 0 w (fun j hj => by rw [cell_of g1, Array.getElem?_eq_getElem (by omega)]; rfl) (fun j hj => frozen_of g1 g2 (by omega)) (fun u hu => by
        obtain ⟨j, hj⟩ := List.getElem?_of_mem hu
        have hj' : j < (l.take ((m + 1) * ezT T ts)).length := by rw [hnl]; exact (List.getElem?_eq_some_iff.1 hj).1
        obtain ⟨u', p1, p2⟩ := hf2.at (List.getElem?_eq_getElem hj')
        rw [hj] at p1
        cases p1
        exact p2.one hn)
      have hst' : (storeCells ⟨k, off, none⟩ news).run T.P w = .ok () (w.setCells k off news) := by simpa using hst
      obtain ⟨b1, b2, b3⟩ := setCells_blk k news off w g1
      refine ⟨.int .i64 ((m + 1 : Nat) : Int), ρ, w.setCells k off news, _, ?_, .inl rfl, rfl, ?_⟩
      · simp only [execOp, ho, resolve, invoke, builtin, Sem.run_bind, Sem.run_pure, Result.andThen_ok, List.map_toArray, List.map_cons, List.map_nil, hrc]
        simp [Builtin.copy_, run_underlying (k1 hk), hlen, sizeOf, typeInfo, hi, q1, hf1, hst', hm, goInt]
      · show Post env ρ s.h s.nx w ρ (hset s2.h b _) s2.nx _
        rw [e3, e4, e2, e1]
        have hPl : PlOk env (storeF (l.take ((m + 1) * ezT T ts)) off (get5 b s.h).t id) (ovr arr off news) := by
          cases hl' : l.take ((m + 1) * ezT T ts) with
          | cons x r => exact PlOk.no (plI_store _ off _ (by simp))
          | nil =>
            rw [hl'] at hnl
            have hnn : news = [] := List.length_eq_zero_iff.1 hnl.symm
            obtain ⟨k', arr', tyb, lo', hi2, e, p1, _, _, _, _, p6⟩ := (hr.blk b hlv).ex
            rw [hb] at e
            have ek : k = k' := congrArg Prod.fst (Option.some.inj e)
            rw [← ek, g1] at p1
            cases p1
            rw [hnn]
            exact p6
        refine Post.write hr _ (k := k) h8 hlv (storeF_room _ off _) ⟨zz, hb⟩ ⟨k, _, ty, lo, hi', by rw [ovr_size, ← g0]; exact hb, b1, .inr (by rw [ovr_size]; exact g2), by rw [ovr_size]; exact g3, by show (get5 b s.h).n ≤ (storeF _ off (get5 b s.h).t id).room; rw [storeF_room]; exact g4, fun j hj => ?_, hPl⟩ b3 (setCells_low _ _ _ _)
        have hj : j < (get5 b s.h).n := hj
        show ∃ u, _ ∧ VS env ρ ((storeF (l.take ((m + 1) * ezT T ts)) off (get5 b s.h).t id).get j) u
        rw [storeF_get _ off _ (by omega) (by rw [hnl]; omega), ovr_at _ _ _ _ (by omega), hnl]
        by_cases hin : off ≤ j ∧ j < off + news.length
        · rw [if_pos hin, if_pos hin]
          have hj' : j - off < (l.take ((m + 1) * ezT T ts)).length := by omega
          obtain ⟨u, p1, p2⟩ := hf2.at (List.getElem?_eq_getElem hj')
          exact ⟨u, p1, by rw [List.getD_eq_getElem?_getD, List.getElem?_eq_getElem hj']; exact p2⟩
        · rw [if_neg hin, if_neg hin]
          exact g5 j hj
  · cases h
    obtain ⟨news, hf1, hf2⟩ := hcells 0 (Nat.zero_le _)
    have : ∃ a cap, rc d = .slice a 0 cap := by
      rcases hy with rfl | rfl
      · exact ⟨_, _, hd⟩
      · exact hd
    obtain ⟨ad, cap, hrc⟩ := this
    rw [Nat.zero_mul, List.take_zero] at hf2
    cases hf2
    refine Dn.val (v' := .int .i64 0) hr ?_ rfl e1 e2
    simp only [execOp, ho, resolve, invoke, builtin, Sem.run_bind, Sem.run_pure, Result.andThen_ok, List.map_toArray, List.map_cons, List.map_nil, hrc]
    cases ad <;> simp [Builtin.copy_, run_underlying (k1 hk), hlen, sizeOf, typeInfo, hi, q1, hf1, storeCells, goInt]
end
end Ev
end Go.Proofs.YtjmifcnfnihhnaaGreatDoor
set_option linter.unusedVariables false
set_option linter.unusedSimpArgs false
namespace Go.Proofs.YtjmifcnfnihhnaaGreatDoor
namespace Ev
theorem arr1 {α : Type} {a : Array α} {x : α} (h : a.toList = [x]) : a = #[x] := Array.ext' h
theorem arr2 {α : Type} {a : Array α} {x y : α} (h : a.toList = [x, y]) : a = #[x, y] := Array.ext' h
structure Ok (T : Tab) (env : Nat → Value) : Prop where
  en : EnvOk env
  orc : OrcOk T env
  ouc : OucOk T env
  dec : DecOk T env
  oln : OlnOk T env
  ocv : OcvOk T env
  oix : OixOk T env
  osl : OslOk T env
  ost : OstOk T env
section
variable {T : Tab} {env : Nat → Value} {ρ : Rh} {w : World} {tm : Tm} {call : Cal} {s s' : St} {v : AV} {rc : Operand → Value} {h : Hp}
theorem mem_pair {ps : Array (Nat × Operand)} {q : Nat × Operand} (h : q ∈ ps.toList) {l : List Operand} (hl : l = ps.toList.map (·.2)) : q.2 ∈ l := by rw [hl]; exact List.mem_map.2 ⟨q, h, rfl⟩
def isFn : Op → Bool
  | .call ⟨.value (.func _), _, _⟩ => true
  | _ => false
theorem op_sim (hk : Ok T env) {o : Oper} (hfn : isFn o.op = false) (h : evOp o.op T call tm s = .ok v s') (hx : ∀ x ∈ o.op.operands.toList, VA env ρ (evo x tm) (rc x)) (hr : HR env ρ s.h w) (hf : Free ρ s.nx s'.nx) : Dn T env ρ s s' w v ((execOp rc o).run T.P w) := by
  cases ho : o.op with
  | move x => rw [ho] at h hx; exact s_move (call := call) (.inl ho) h (hx x (by simp [Op.operands])) hr
  | assign x => rw [ho] at h hx; exact s_move (call := call) (.inr ho) h (hx x (by simp [Op.operands])) hr
  | pick c a b => rw [ho] at h hx; exact s_pick (call := call) ho h (hx c (by simp [Op.operands])) (hx a (by simp [Op.operands])) (hx b (by simp [Op.operands])) hr
  | alloc t => rw [ho] at h hx; exact s_alloc (call := call) (tm := tm) ho hk.en h hr hf
  | box t x => rw [ho] at h hx; exact s_box (call := call) ho hk.en h (hx x (by simp [Op.operands])) hr hf
  | build t ps => rw [ho] at h hx; exact s_build (call := call) ho hk.en h (fun q hq => hx q.2 (mem_pair hq (by simp [Op.operands]))) hr
  | buildSlice t n ps => rw [ho] at h hx; exact s_buildSlice (call := call) ho hk.en h (fun q hq => hx q.2 (mem_pair hq (by simp [Op.operands]))) hr hf
  | load t a => rw [ho] at h hx; exact s_load (call := call) ho h (hx a (by simp [Op.operands])) hr
  | store t a x => rw [ho] at h hx; exact s_store (call := call) ho hk.en h (hx a (by simp [Op.operands])) (hx x (by simp [Op.operands])) hr
  | nilCheck x => rw [ho] at h hx; exact s_nil (call := call) ho h (hx x (by simp [Op.operands])) hr
  | binOp op t x y t' => rw [ho] at h hx; exact s_bin (call := call) ho hk.orc h (hx x (by simp [Op.operands])) (hx y (by simp [Op.operands])) hr
  | unOp op t x => rw [ho] at h hx; exact s_un (call := call) ho hk.ouc h (hx x (by simp [Op.operands])) hr
  | convert a b x => rw [ho] at h hx; exact s_convert (call := call) ho hk.en hk.ocv hk.ost h (hx x (by simp [Op.operands])) hr
  | makeSlice t l c => rw [ho] at h hx; exact s_makeSlice (call := call) ho hk.en h (hx l (by simp [Op.operands])) (hx c (by simp [Op.operands])) hr hf
  | slice t x lo hi mx => rw [ho] at h hx; exact s_slice (call := call) ho hk.osl h (hx x (by simp [Op.operands])) (fun y hy => hx y (by simp [Op.operands, hy])) (fun y hy => hx y (by simp [Op.operands, hy])) hr
  | fieldAddr t x f => rw [ho] at h hx; exact s_fieldAddr (call := call) ho h (hx x (by simp [Op.operands])) hr
  | field t x f => rw [ho] at h hx; exact s_field (call := call) ho h (hx x (by simp [Op.operands])) hr
  | indexAddr t x i => rw [ho] at h hx; exact s_indexAddr (call := call) ho h (hx x (by simp [Op.operands])) (hx i (by simp [Op.operands])) hr
  | index t x i => rw [ho] at h hx; exact s_index (call := call) ho hk.oix h (hx x (by simp [Op.operands])) (hx i (by simp [Op.operands])) hr
  | extract x k => rw [ho] at h hx; exact s_extract (call := call) ho h (hx x (by simp [Op.operands])) hr
  | call c =>
    rw [ho] at h hx hfn
    obtain ⟨callee, args, tys⟩ := c
    cases callee with
    | builtin bt =>
      have h : oBi bt args.toList tys.toList T call tm s = .ok v s' := h
      cases ea : args.toList with
      | nil => rw [ea] at h; cases tys.toList <;> exact no_ok h
      | cons x l =>
        rw [ea] at h
        cases l with
        | nil =>
          cases et : tys.toList with
          | nil => rw [et] at h; exact no_ok h
          | cons t lt =>
            rw [et] at h
            cases lt with
            | nil =>
              have ea := arr1 ea
              have et := arr1 et
              subst ea
              subst et
              cases bt with
              | len => exact s_len (call := call) (ty := #[]) ho hk.oln h (hx x (by simp [Op.operands, Call.operands])) hr
              | _ => exact no_ok h
            | cons t2 lt => cases lt <;> exact no_ok h
        | cons x2 l =>
          cases l with
          | nil =>
            cases et : tys.toList with
            | nil => rw [et] at h; exact no_ok h
            | cons ts lt =>
              rw [et] at h
              cases lt with
              | nil => exact no_ok h
              | cons tx lt =>
                cases lt with
                | nil =>
                  have ea := arr2 ea
                  have et := arr2 et
                  subst ea
                  subst et
                  have hd := hx x (by simp [Op.operands, Call.operands])
                  have hx' := hx x2 (by simp [Op.operands, Call.operands])
                  cases bt with
                  | append =>
                    obtain ⟨h1, hA⟩ := iff_no h
                    obtain ⟨h2, hB⟩ := iff_no hA
                    obtain ⟨h3, hC⟩ := iff_no hB
                    exact s_append ho hk.en h1 h2 h3 hC hd hx' hr hf
                  | copy =>
                    obtain ⟨h1, hA⟩ := iff_no h
                    obtain ⟨h2, hB⟩ := iff_no hA
                    exact s_copy ho hk.en h1 h2 hB hd hx' hr
                  | _ => exact no_ok h
                | cons t3 lt => exact no_ok h
          | cons x3 l => cases tys.toList <;> exact no_ok h
    | invoke r m => exact no_ok h
    | value f =>
      cases f with
      | func f => cases hfn
      | _ => exact no_ok h
  | _ => rw [ho] at h; exact no_ok h
end
/-! an answer hangs on what was looked at alone -/
def Loc {α : Type} (m : M α) : Prop := ∀ s a s', m s = .ok a s' → s.nx ≤ 32768 → ∃ dr dw : Nat, s.nx ≤ s'.nx ∧ s'.nx ≤ 32768 ∧ (∀ i, dr.testBit i = true ∨ dw.testBit i = true → i < s'.nx) ∧ s'.rd = s.rd ||| dr ∧ s'.wr = s.wr ||| dw ∧
  (∀ i, i < 32768 → dw.testBit i = false → ¬ (s.nx ≤ i ∧ i < s'.nx) → get5 i s'.h = get5 i s.h) ∧
  ∀ t : St, t.nx = s.nx → (∀ i, i < 32768 → (dr.testBit i = true ∨ dw.testBit i = true ∨ (s.nx ≤ i ∧ i < s'.nx)) → get5 i t.h = get5 i s.h) →
    ∃ t', m t = .ok a t' ∧ t'.nx = s'.nx ∧ t'.rd = t.rd ||| dr ∧ t'.wr = t.wr ||| dw ∧ ∀ i, i < 32768 → get5 i t'.h = if dw.testBit i = true ∨ (s.nx ≤ i ∧ i < s'.nx) then get5 i s'.h else get5 i t.h
section
variable {α β : Type}
theorem loc_no (n : Nat) : Loc (no n : M α) := fun s a s' h => no_ok h
theorem zb (i : Nat) : ¬ (Nat.testBit 0 i = true) := by rw [Nat.zero_testBit]; exact fun h => by cases h
theorem loc_ret (b : α) : Loc (ret b) := fun s a s' h hs => by
  cases h
  refine ⟨0, 0, Nat.le_refl _, hs, fun i hi => absurd hi (not_or.2 ⟨zb i, zb i⟩), (Nat.or_zero _).symm, (Nat.or_zero _).symm, fun _ _ _ _ => rfl, fun t ht hg => ⟨t, rfl, ht, (Nat.or_zero _).symm, (Nat.or_zero _).symm, fun i hi => ?_⟩⟩
  rw [if_neg]
  rintro (h | h)
  · exact zb i h
  · omega
theorem loc_bnd {m : M α} {f : α → M β} (hm : Loc m) (hf : ∀ a, Loc (f a)) : Loc (bnd m f) := fun s b s2 h hs => by
  obtain ⟨a, s1, h1, h2⟩ := bnd_ok h
  obtain ⟨dr1, dw1, n1, m1, b1, r1, w1, k1, f1⟩ := hm s a s1 h1 hs
  obtain ⟨dr2, dw2, n2, m2, b2, r2, w2, k2, f2⟩ := hf a s1 b s2 h2 m1
  refine ⟨dr1 ||| dr2, dw1 ||| dw2, Nat.le_trans n1 n2, m2, fun i hi => ?_, by rw [r2, r1, Nat.or_assoc], by rw [w2, w1, Nat.or_assoc], fun i hi hw hn => ?_, fun t ht hg => ?_⟩
  · rw [Nat.testBit_or, Nat.testBit_or, Bool.or_eq_true, Bool.or_eq_true] at hi
    rcases hi with (hi | hi) | (hi | hi)
    · exact Nat.lt_of_lt_of_le (b1 i (.inl hi)) n2
    · exact b2 i (.inl hi)
    · exact Nat.lt_of_lt_of_le (b1 i (.inr hi)) n2
    · exact b2 i (.inr hi)
  · rw [Nat.testBit_or, Bool.or_eq_false_iff] at hw
    rw [k2 i hi hw.2 (by omega), k1 i hi hw.1 (by omega)]
  · obtain ⟨t1, e1, e2, e3, e4, e5⟩ := f1 t ht (fun i hi hd => hg i hi (by
      rw [Nat.testBit_or, Nat.testBit_or]
      rcases hd with hd | hd | hd
      · exact .inl (by rw [hd]; rfl)
      · exact .inr (.inl (by rw [hd]; rfl))
      · exact .inr (.inr ⟨hd.1, by omega⟩)))
    obtain ⟨t2, g1, g2, g3, g4, g5⟩ := f2 t1 e2 (fun i hi hd => by
      rw [e5 i hi]
      split
      · rfl
      · rename_i hn
        rw [k1 i hi (Bool.eq_false_iff.2 fun e => hn (.inl e)) (fun e => hn (.inr e))]
        refine hg i hi ?_
        rw [Nat.testBit_or, Nat.testBit_or]
        rcases hd with hd | hd | hd
        · exact .inl (by rw [hd, Bool.or_true])
        · exact .inr (.inl (by rw [hd, Bool.or_true]))
        · exact .inr (.inr ⟨by omega, hd.2⟩))
    refine ⟨t2, by unfold bnd; rw [e1]; exact g1, g2, by rw [g3, e3, Nat.or_assoc], by rw [g4, e4, Nat.or_assoc], fun i hi => ?_⟩
    rw [g5 i hi, e5 i hi, Nat.testBit_or]
    by_cases hw2 : dw2.testBit i = true ∨ (s1.nx ≤ i ∧ i < s2.nx)
    · rw [if_pos hw2, if_pos (hw2.elim (fun e => .inl (by rw [e, Bool.or_true])) (fun e => .inr ⟨by omega, e.2⟩))]
    · rw [if_neg hw2]
      have hk2 := k2 i hi (Bool.eq_false_iff.2 fun e => hw2 (.inl e)) (fun e => hw2 (.inr e))
      by_cases hw1 : dw1.testBit i = true ∨ (s.nx ≤ i ∧ i < s1.nx)
      · rw [if_pos hw1, if_pos (hw1.elim (fun e => .inl (by rw [e, Bool.true_or])) (fun e => .inr ⟨e.1, by omega⟩)), hk2]
      · rw [if_neg hw1, if_neg]
        rintro (e | e)
        · rw [Bool.or_eq_true] at e
          exact e.elim (fun e => hw1 (.inl e)) (fun e => hw2 (.inl e))
        · by_cases hi' : i < s1.nx
          · exact hw1 (.inr ⟨e.1, hi'⟩)
          · exact hw2 (.inr ⟨by omega, e.2⟩)
theorem bit_test (id i : Nat) : (bit id).testBit i = decide (i = id) := by
  show (1 <<< id).testBit i = _
  rw [Nat.one_shiftLeft, Nat.testBit_two_pow]
  exact decide_eq_decide.2 eq_comm
theorem look_bnd (id : Nat) (K : Bk → M α) : look id K = bnd (look id ret) K := by
  funext s
  cases s with
  | mk h nx rd wr =>
    show @Bool.rec (fun _ => R α) (.no 1) (K (get5 id h) ⟨h, nx, Nat.lor rd (bit id), wr⟩) (Nat.blt id nx) = @R.rec Bk (fun _ => R α) K R.no (@Bool.rec (fun _ => R Bk) (.no 1) (.ok (get5 id h) ⟨h, nx, Nat.lor rd (bit id), wr⟩) (Nat.blt id nx))
    cases Nat.blt id nx <;> rfl
theorem look_run {id : Nat} (s : St) (hid : id < s.nx) : look id ret s = .ok (get5 id s.h) ⟨s.h, s.nx, s.rd ||| bit id, s.wr⟩ := by
  cases s with
  | mk h nx rd wr =>
    show @Bool.rec (fun _ => R Bk) (.no 1) (.ok (get5 id h) ⟨h, nx, Nat.lor rd (bit id), wr⟩) (Nat.blt id nx) = _
    rw [show Nat.blt id nx = true from Nat.ble_eq_true_of_le hid]
    rfl
theorem loc_look {id : Nat} {K : Bk → M α} (hK : ∀ B, Loc (K B)) : Loc (look id K) := by
  rw [look_bnd]
  refine loc_bnd (fun s a s' h hs => ?_) hK
  obtain ⟨hid, h⟩ := look_ok' h
  cases h
  refine ⟨bit id, 0, Nat.le_refl _, hs, fun i hi => ?_, rfl, (Nat.or_zero _).symm, fun _ _ _ _ => rfl, fun t ht hg => ⟨⟨t.h, t.nx, t.rd ||| bit id, t.wr⟩, ?_, ht, rfl, (Nat.or_zero _).symm, fun i hi => ?_⟩⟩
  · rcases hi with hi | hi
    · rw [bit_test] at hi; rw [of_decide_eq_true hi]; exact hid
    · exact absurd hi (zb i)
  · rw [look_run t (by omega), hg id (by omega) (.inl (by rw [bit_test]; exact decide_eq_true rfl))]
  · rw [if_neg]
    rintro (h | h)
    · exact zb i h
    · have := h.1; have := h.2; simp only at *; omega
theorem put_bnd (id : Nat) (b : Bk) (K : M α) : put id b K = bnd (put id b (ret ())) fun _ => K := by
  funext s
  cases s with
  | mk h nx rd wr =>
    show @Bool.rec (fun _ => R α) (.no 1) (@Bool.rec (fun _ => R α) (.no 1) (set5 id b h fun h => K ⟨h, nx, rd, Nat.lor wr (bit id)⟩) (Nat.blt id nx)) (Nat.ble 8 id) = @R.rec Unit (fun _ => R α) (fun _ => K) R.no (@Bool.rec (fun _ => R Unit) (.no 1) (@Bool.rec (fun _ => R Unit) (.no 1) (set5 id b h fun h => .ok () ⟨h, nx, rd, Nat.lor wr (bit id)⟩) (Nat.blt id nx)) (Nat.ble 8 id))
    cases Nat.ble 8 id with
    | false => rfl
    | true =>
     show @Bool.rec (fun _ => R α) (.no 1) (set5 id b h fun h => K ⟨h, nx, rd, Nat.lor wr (bit id)⟩) (Nat.blt id nx) = @R.rec Unit (fun _ => R α) (fun _ => K) R.no (@Bool.rec (fun _ => R Unit) (.no 1) (set5 id b h fun h => .ok () ⟨h, nx, rd, Nat.lor wr (bit id)⟩) (Nat.blt id nx))
     cases Nat.blt id nx with
     | false => rfl
     | true =>
      show (set5 id b h fun h => K ⟨h, nx, rd, Nat.lor wr (bit id)⟩) = @R.rec Unit (fun _ => R α) (fun _ => K) R.no (set5 id b h fun h => .ok () ⟨h, nx, rd, Nat.lor wr (bit id)⟩)
      rw [l5.1, l5.1 (K := fun h => R.ok () ⟨h, nx, rd, Nat.lor wr (bit id)⟩)]
theorem put_run {id : Nat} (b : Bk) (s : St) (h8 : 8 ≤ id) (hid : id < s.nx) : put id b (ret ()) s = .ok () ⟨hset s.h id b, s.nx, s.rd, s.wr ||| bit id⟩ := by
  cases s with
  | mk h nx rd wr =>
    show @Bool.rec (fun _ => R Unit) (.no 1) (@Bool.rec (fun _ => R Unit) (.no 1) (set5 id b h fun h => .ok () ⟨h, nx, rd, Nat.lor wr (bit id)⟩) (Nat.blt id nx)) (Nat.ble 8 id) = _
    rw [Nat.ble_eq_true_of_le h8, show Nat.blt id nx = true from Nat.ble_eq_true_of_le hid]
    show (set5 id b h fun h => R.ok () ⟨h, nx, rd, Nat.lor wr (bit id)⟩) = _
    rw [l5.1]
    rfl
theorem loc_put {id : Nat} {b : Bk} {K : M α} (hK : Loc K) : Loc (put id b K) := by
  rw [put_bnd]
  refine loc_bnd (fun s a s' h hs => ?_) fun _ => hK
  obtain ⟨h8, hid, h⟩ := put_ok' h
  cases h
  have hid' : id < 32768 := by omega
  refine ⟨0, bit id, Nat.le_refl _, hs, fun i hi => ?_, (Nat.or_zero _).symm, rfl, fun i hi hw _ => ?_, fun t ht hg => ⟨_, put_run b t h8 (by omega), ht, (Nat.or_zero _).symm, rfl, fun i hi => ?_⟩⟩
  · rcases hi with hi | hi
    · exact absurd hi (zb i)
    · rw [bit_test] at hi; rw [of_decide_eq_true hi]; exact hid
  · rw [bit_test] at hw
    rw [get_hset hi hid', if_neg (of_decide_eq_false hw)]
  · show get5 i (hset t.h id b) = _
    rw [get_hset hi hid', bit_test]
    by_cases e : i = id
    · rw [if_pos e, if_pos (.inl (decide_eq_true e)), get_hset hi hid', if_pos e]
    · rw [if_neg e, if_neg]
      rintro (h | h)
      · exact e (of_decide_eq_true h)
      · have := h.1; have := h.2; simp only at *; omega
theorem fresh_bnd (b : Bk) (K : Nat → M α) : fresh b K = bnd (fresh b ret) K := by
  funext s
  cases s with
  | mk h nx rd wr =>
    show @Bool.rec (fun _ => R α) (.no 2) (set5 nx b h fun h => K nx ⟨h, Nat.succ nx, rd, wr⟩) (Nat.blt nx 32768) = @R.rec Nat (fun _ => R α) K R.no (@Bool.rec (fun _ => R Nat) (.no 2) (set5 nx b h fun h => .ok nx ⟨h, Nat.succ nx, rd, wr⟩) (Nat.blt nx 32768))
    cases Nat.blt nx 32768 with
    | false => rfl
    | true =>
      show (set5 nx b h fun h => K nx ⟨h, Nat.succ nx, rd, wr⟩) = @R.rec Nat (fun _ => R α) K R.no (set5 nx b h fun h => .ok nx ⟨h, Nat.succ nx, rd, wr⟩)
      rw [l5.1, l5.1 (K := fun h => R.ok nx ⟨h, Nat.succ nx, rd, wr⟩)]
theorem fresh_run (b : Bk) (s : St) (hx : s.nx < 32768) : fresh b ret s = .ok s.nx ⟨hset s.h s.nx b, s.nx + 1, s.rd, s.wr⟩ := by
  cases s with
  | mk h nx rd wr =>
    show @Bool.rec (fun _ => R Nat) (.no 2) (set5 nx b h fun h => .ok nx ⟨h, Nat.succ nx, rd, wr⟩) (Nat.blt nx 32768) = _
    rw [show Nat.blt nx 32768 = true from Nat.ble_eq_true_of_le hx]
    show (set5 nx b h fun h => R.ok nx ⟨h, Nat.succ nx, rd, wr⟩) = _
    rw [l5.1]
    rfl
theorem loc_fresh {b : Bk} {K : Nat → M α} (hK : ∀ n, Loc (K n)) : Loc (fresh b K) := by
  rw [fresh_bnd]
  refine loc_bnd (fun s a s' h hs => ?_) hK
  obtain ⟨hx, h⟩ := fresh_ok h
  cases h
  refine ⟨0, 0, Nat.le_succ _, hx, fun i hi => absurd hi (not_or.2 ⟨zb i, zb i⟩), (Nat.or_zero _).symm, (Nat.or_zero _).symm, fun i hi _ hn => ?_, fun t ht hg => ⟨⟨hset t.h s.nx b, s.nx + 1, t.rd, t.wr⟩, by rw [fresh_run b t (by omega), ht], rfl, (Nat.or_zero _).symm, (Nat.or_zero _).symm, fun i hi => ?_⟩⟩
  · simp only at hn
    rw [get_hset hi hx, if_neg (by omega)]
  · show get5 i (hset t.h s.nx b) = _
    rw [get_hset hi hx]
    by_cases e : i = s.nx
    · rw [if_pos e, if_pos (.inr ⟨by omega, by simp only; omega⟩), get_hset hi hx, if_pos e]
    · rw [if_neg e, if_neg]
      rintro (h | h)
      · exact zb i h
      · have := h.1; have := h.2; simp only at *; omega
theorem loc_newBlk {l : List Sc} {K : Nat → M α} (hK : ∀ n, Loc (K n)) : Loc (newBlk l K) := by
  unfold newBlk
  cases Nat.ble l.length 4096
  · exact loc_no _
  · exact loc_fresh hK
theorem loc_optm {n : Nat} {o : Option β} {f : β → M α} (hf : ∀ x, Loc (f x)) : Loc (optm n o f) := by
  cases o
  · exact loc_no _
  · exact hf _
theorem loc_iff {c : Bool} {m n : M α} (hm : Loc m) (hn : Loc n) : Loc (iff c m n) := by
  cases c
  · exact hn
  · exact hm
theorem loc_brec {c : Bool} {m n : M α} (hm : Loc m) (hn : Loc n) : Loc (@Bool.rec (fun _ => M α) m n c) := by
  cases c
  · exact hm
  · exact hn
theorem loc_orec {o : Option β} {m : M α} {f : β → M α} (hm : Loc m) (hf : ∀ b, Loc (f b)) : Loc (@Option.rec β (fun _ => M α) m f o) := by
  cases o
  · exact hm
  · exact hf _
theorem loc_nrec {n : Nat} {m : M α} {f : Nat → M α} (hm : Loc m) (hf : ∀ k, Loc (f k)) : Loc (@Nat.rec (fun _ => M α) m (fun k _ => f k) n) := by
  cases n
  · exact hm
  · exact hf _
theorem loc_avC {n : Nat} {v : AV} {f : Sc → M α} (hf : ∀ x, Loc (f x)) : Loc (avC n v f) := by
  cases v
  case c => exact hf _
  all_goals exact loc_no _
theorem loc_avA {n : Nat} {v : AV} {f : List Sc → M α} (hf : ∀ x, Loc (f x)) : Loc (avA n v f) := by
  cases v
  case ag => exact hf _
  all_goals exact loc_no _
theorem loc_scP {n : Nat} {v : Sc} {f : Nat → Nat → M α} (hf : ∀ x y, Loc (f x y)) : Loc (scP n v f) := by
  cases v
  case p => exact hf _ _
  all_goals exact loc_no _
theorem loc_scI {n : Nat} {v : Sc} {f : IntKind → Int → M α} (hf : ∀ x y, Loc (f x y)) : Loc (scI n v f) := by
  cases v
  case i => exact hf _ _
  all_goals exact loc_no _
theorem loc_scB {n : Nat} {v : Sc} {f : Bool → M α} (hf : ∀ x, Loc (f x)) : Loc (scB n v f) := by
  cases v
  case b => exact hf _
  all_goals exact loc_no _
theorem loc_scSz {n : Nat} {v : Sc} {g : Nat → M α} {f : List Nat → M α} (hg : ∀ x, Loc (g x)) (hf : ∀ x, Loc (f x)) : Loc (scSz n v g f) := by
  cases v
  case s => exact hf _
  case y => exact hg _
  all_goals exact loc_no _
theorem loc_scBy {n : Nat} {v : Sc} {d : Nat → Option Bool} {f : Bool → M α} (hf : ∀ x, Loc (f x)) : Loc (scBy n v d f) := by
  cases v
  case b => exact hf _
  case y j =>
    show Loc (optm n (d j) f)
    cases d j with
    | none => exact loc_no _
    | some b => exact hf _
  all_goals exact loc_no _
theorem loc_scSy {n : Nat} {v : Sc} {d : Nat → Option Sc} {f : List Nat → M AV} (hf : ∀ x, Loc (f x)) : Loc (scSy n v d f) := by
  cases v
  case s => exact hf _
  case y j =>
    show Loc (optm n (d j) retC)
    cases d j with
    | none => exact loc_no _
    | some b => exact loc_ret _
  all_goals exact loc_no _
theorem loc_scIy {n : Nat} {v : Sc} {d : Nat → Option Sc} {f : IntKind → Int → M AV} (hf : ∀ x y, Loc (f x y)) : Loc (scIy n v d f) := by
  cases v
  case i => exact hf _ _
  case y j =>
    show Loc (optm n (d j) retC)
    cases d j with
    | none => exact loc_no _
    | some b => exact loc_ret _
  all_goals exact loc_no _
theorem loc_scS {n : Nat} {v : Sc} {f : List Nat → M α} (hf : ∀ x, Loc (f x)) : Loc (scS n v f) := by
  cases v
  case s => exact hf _
  all_goals exact loc_no _
theorem loc_scL {n : Nat} {v : Sc} {f : Nat → Nat → Nat → Nat → M α} {z : M α} (hf : ∀ a b c d, Loc (f a b c d)) (hz : Loc z) : Loc (scL n v f z) := by
  cases v
  case sl => exact hf _ _ _ _
  case sn => exact hz
  case se => exact hz
  all_goals exact loc_no _
theorem loc_intN {n : Nat} {z : Int} {f : Nat → M α} (hf : ∀ x, Loc (f x)) : Loc (intN n z f) := by
  cases z
  · exact hf _
  · exact loc_no _
theorem loc_atP {n : Nat} {x : Operand} {tm : Tm} {f : Nat → Nat → M AV} (hf : ∀ a b, Loc (f a b)) : Loc (atP n x tm f) := loc_avC fun _ => loc_scP hf
theorem loc_atN {n : Nat} {x : Operand} {tm : Tm} {f : Nat → M AV} (hf : ∀ a, Loc (f a)) : Loc (atN n x tm f) := loc_avC fun _ => loc_scI fun _ _ => loc_intN hf
theorem loc_storeF {l : List Sc} {off : Nat} {t : Cl} {K : Cl → M α} (hK : ∀ t, Loc (K t)) : Loc (storeF l off t K) := by rw [storeF_K]; exact hK _
theorem loc_rowOf {v : Sc} {sz : Nat} {K : Nat → List Sc → M α} (hK : ∀ n l, Loc (K n l)) : Loc (rowOf v sz K) := by
  cases v
  case s l => exact loc_iff (hK _ _) (loc_no _)
  case sl b off len s => exact loc_iff (loc_nrec (hK _ _) fun m => loc_look fun B => loc_iff (hK _ _) (loc_no _)) (loc_no _)
  case sn => exact hK _ _
  case se => exact hK _ _
  all_goals exact loc_no _
theorem loc_retC (x : Sc) : Loc (retC x) := loc_ret _
end
end Ev
end Go.Proofs.YtjmifcnfnihhnaaGreatDoor
set_option linter.unusedVariables false
set_option linter.unusedSimpArgs false
namespace Go.Proofs.YtjmifcnfnihhnaaGreatDoor
namespace Ev
section
variable {T : Tab} {tm : Tm} {call : Cal} {α β : Type}
theorem loc_load (t : TypeId) (a : Operand) : Loc (oLoad t a T call tm) := loc_brec (loc_atP fun b off => loc_brec (loc_look fun B => by cases B; exact loc_brec (loc_no _) (loc_retC _)) (loc_nrec (loc_ret _) fun m => loc_look fun B => loc_iff (loc_ret _) (loc_no _))) (loc_no _)
theorem loc_two (lo hi : Option Operand) (z : Nat) (f : Nat → Nat → Option Sc) : Loc (two lo hi tm z f) := by
  have hb : ∀ (o : Option Operand) (z : Nat) (g : Nat → M AV), (∀ n, Loc (g n)) → Loc (bound o tm z g) := fun o z g hg => loc_orec (hg z) fun x => loc_atN hg
  exact hb lo 0 _ fun a => hb hi z _ fun b => loc_optm loc_retC
theorem loc_part (t : TypeId) (l : List Sc) (o : Nat) : Loc (partA T t l o) := loc_iff (loc_no _) (loc_iff (loc_ret _) (loc_optm loc_retC))
theorem loc_len (t : TypeId) (x : Operand) : Loc (oLen t x T call tm) := by
  have hA : ∀ t, Loc (lenA T t) := fun t => loc_iff (loc_retC _) (loc_no _)
  show Loc (@AV.rec (fun _ => M AV) (lenC T t) (fun _ => lenA T t) (fun _ => no 72) (no 72) (evo x tm))
  cases evo x tm with
  | c y => exact loc_iff (loc_scL (fun _ _ _ _ => loc_retC _) (loc_retC _)) (loc_iff (loc_scSy fun _ => loc_retC _) (loc_iff (hA _) (loc_iff (hA _) (loc_no _))))
  | ag l => exact hA _
  | tp l => exact loc_no _
  | u => exact loc_no _
theorem loc_append (d x : Operand) (lim sz : Nat) : Loc (oAppend d x lim sz tm) := loc_avC fun a => loc_avC fun y => loc_rowOf fun n l => loc_nrec
  (by cases a <;> first | exact loc_retC _ | exact loc_no _)
  (fun m => by
    cases a with
    | sl b off len z => exact loc_iff (loc_iff (loc_look fun B => loc_iff (loc_iff (loc_iff (loc_put (loc_iff (loc_storeF fun t => loc_fresh fun _ => loc_retC _) (loc_newBlk fun _ => loc_retC _))) (loc_no _)) (loc_no _)) (loc_no _)) (loc_no _)) (loc_no _)
    | sn => exact loc_iff (loc_newBlk fun _ => loc_retC _) (loc_no _)
    | _ => exact loc_no _)
theorem loc_copy (d x : Operand) (sz : Nat) : Loc (oCopy d x sz tm) := loc_avC fun a => loc_avC fun y => loc_rowOf fun n l => loc_scL (fun b off len z => loc_iff (loc_nrec (loc_retC _) fun m => loc_look fun B => loc_iff (loc_storeF fun t => loc_put (loc_retC _)) (loc_no _)) (loc_no _)) (loc_retC _)
theorem loc_op (hc : ∀ f args, Loc (call f args)) (op : Op) : Loc (evOp op T call tm) := by
  cases op with
  | move x => exact loc_ret _
  | assign x => exact loc_ret _
  | pick c a b => exact loc_avC fun _ => loc_scB fun _ => loc_brec (loc_ret _) (loc_ret _)
  | alloc t => exact loc_optm fun _ => loc_newBlk fun _ => loc_retC _
  | box t x => exact loc_optm fun _ => loc_newBlk fun _ => loc_retC _
  | build t ps => exact loc_optm fun _ => loc_iff (loc_optm fun _ => loc_optm fun _ => loc_ret _) (loc_iff (loc_iff (loc_optm fun _ => loc_ret _) (loc_no _)) (loc_no _))
  | buildSlice t n ps => exact loc_iff (loc_optm fun _ => loc_iff (loc_optm fun _ => loc_newBlk fun _ => loc_retC _) (loc_no _)) (loc_no _)
  | load t a => exact loc_load (call := call) t a
  | store t a x => exact loc_brec (loc_atP fun b off => loc_optm fun l => loc_brec (loc_no _) (loc_nrec (loc_ret _) fun _ => loc_look fun B => by cases B; exact loc_brec (loc_no _) (loc_storeF fun t => loc_put (loc_ret _)))) (loc_no _)
  | nilCheck x => exact loc_atP fun _ _ => loc_retC _
  | binOp op t x y t' => exact loc_avC fun _ => loc_avC fun _ => loc_orec (loc_orec (loc_optm loc_retC) loc_retC) loc_retC
  | unOp op t x => exact loc_avC fun _ => loc_orec (loc_optm loc_retC) loc_retC
  | convert a b x => exact loc_avC fun v => loc_iff (loc_no _) (loc_iff (loc_scIy fun _ _ => loc_optm loc_retC) (loc_iff (loc_iff (loc_iff (loc_scL (fun _ _ _ _ => loc_rowOf fun _ _ => loc_orec (loc_optm loc_retC) fun _ => loc_retC _) (loc_retC _)) (loc_no _)) (loc_no _)) (loc_iff (loc_iff (loc_iff (loc_scL (fun _ _ _ _ => loc_look fun B => loc_iff (loc_put (loc_retC _)) (loc_no _)) (loc_no _)) (loc_no _)) (loc_no _)) (loc_no _))))
  | makeSlice t l c => exact loc_atN fun _ => loc_atN fun _ => loc_iff (loc_iff (loc_iff (loc_optm fun _ => loc_newBlk fun _ => loc_retC _) (loc_no _)) (loc_no _)) (loc_no _)
  | slice t x lo hi mx => exact loc_orec (loc_avC fun v => loc_iff (loc_scSz (fun _ => loc_two _ _ _ _) fun _ => loc_two _ _ _ _) (loc_iff (loc_scL (fun _ _ _ _ => loc_iff (loc_iff (loc_two _ _ _ _) (loc_no _)) (loc_no _)) (loc_no _)) (loc_no _))) fun _ => loc_no _
  | fieldAddr t x f => exact loc_atP fun _ _ => loc_orec (loc_no _) fun _ => loc_retC _
  | field t x f => exact loc_avA fun _ => loc_optm fun _ => loc_part _ _ _
  | indexAddr t x i => exact loc_atN fun _ => loc_iff (loc_avC fun _ => loc_scL (fun _ _ _ _ => loc_iff (loc_no _) (loc_iff (loc_iff (loc_retC _) (loc_no _)) (loc_no _))) (loc_no _)) (loc_iff (loc_iff (loc_atP fun _ _ => loc_iff (loc_no _) (loc_retC _)) (loc_no _)) (loc_no _))
  | index t x i => exact loc_atN fun _ => loc_iff (loc_avC fun _ => loc_scSz (fun _ => loc_optm loc_retC) fun _ => loc_optm fun _ => loc_retC _) (loc_iff (loc_iff (loc_no _) (loc_avA fun _ => loc_part _ _ _)) (loc_no _))
  | extract x k =>
    show Loc (@AV.rec (fun _ => M AV) (fun _ => no 67) (fun _ => no 67) (fun l => optm 67 (nth l k) fun c => ret (tcV c)) (no 67) (evo x tm))
    cases evo x tm with
    | tp l => exact loc_optm fun _ => loc_ret _
    | _ => exact loc_no _
  | call c =>
    obtain ⟨callee, args, tys⟩ := c
    cases callee with
    | builtin bt =>
      show Loc (oBi bt args.toList tys.toList T call tm)
      cases args.toList with
      | nil => cases tys.toList <;> exact loc_no _
      | cons x l =>
        cases l with
        | nil =>
          cases tys.toList with
          | nil => exact loc_no _
          | cons t lt =>
            cases lt with
            | nil =>
              cases bt with
              | len => exact loc_len (call := call) t x
              | _ => exact loc_no _
            | cons t2 lt => cases lt <;> exact loc_no _
        | cons x2 l =>
          cases l with
          | nil =>
            cases tys.toList with
            | nil => exact loc_no _
            | cons ts lt =>
              cases lt with
              | nil => exact loc_no _
              | cons tx lt =>
                cases lt with
                | nil =>
                  cases bt with
                  | append => exact loc_iff (loc_iff (loc_iff (loc_append _ _ _ _) (loc_no _)) (loc_no _)) (loc_no _)
                  | copy => exact loc_iff (loc_iff (loc_copy _ _ _) (loc_no _)) (loc_no _)
                  | _ => exact loc_no _
                | cons t3 lt => exact loc_no _
          | cons x3 l => cases tys.toList <;> exact loc_no _
    | invoke r m => exact loc_no _
    | value f =>
      cases f with
      | func f => exact hc f _
      | _ => exact loc_no _
  | _ => exact loc_no _
/-! temps -/
noncomputable def tputP (kp : Nat) (dst : Option Tmp) (v : AV) (tm : Tm) : Tm := tput kp dst v id tm
theorem tput_K (kp : Nat) (dst : Option Tmp) (v : AV) (K : Tm → α) (tm : Tm) : tput kp dst v K tm = K (tputP kp dst v tm) := by
  cases dst with
  | none => rfl
  | some d =>
    cases tm with
    | mk l vs =>
      show @Nat.rec (fun _ => α) (K ⟨.cs d v l, vs⟩) (fun _ _ => set3 d v vs fun vs => K ⟨.cs d v l, vs⟩) (kept kp d) = K (@Nat.rec (fun _ => Tm) ⟨.cs d v l, vs⟩ (fun _ _ => set3 d v vs fun vs => ⟨.cs d v l, vs⟩) (kept kp d))
      cases kept kp d with
      | zero => rfl
      | succ k =>
        show (set3 d v vs fun vs => K ⟨.cs d v l, vs⟩) = K (set3 d v vs fun vs => ⟨.cs d v l, vs⟩)
        rw [l3.1, l3.1 (K := fun vs => (⟨.cs d v l, vs⟩ : Tm))]
theorem tput_ret (kp : Nat) (dst : Option Tmp) (v : AV) (tm : Tm) : tput kp dst v okTm tm = ret (tputP kp dst v tm) := by
  rw [tput_K]; rfl
/-! steps -/
theorem runO_eq (dst : Option Tmp) (op : Op) (kp : Nat) (ops : List Oper) : runO dst op T call kp ops tm = bnd (evOp op T call tm) fun v => ret (tputP kp dst v tm) := by
  funext s
  show @R.rec AV (fun _ => R Tm) (fun v s => tput kp dst v okTm tm s) R.no (evOp op T call tm s) = @R.rec AV (fun _ => R Tm) (fun v s => ret (tputP kp dst v tm) s) R.no (evOp op T call tm s)
  simp only [tput_ret]
theorem loc_runO (hc : ∀ f args, Loc (call f args)) (dst : Option Tmp) (op : Op) (kp : Nat) (ops : List Oper) : Loc (runO dst op T call kp ops tm) := by
  rw [runO_eq]
  exact loc_bnd (loc_op hc op) fun v => loc_ret _
theorem skipO_eq (dst : Option Tmp) (kp : Nat) (ops : List Oper) : skipO dst T call kp ops tm = ret (tputP kp dst und tm) := tput_ret kp dst und tm
theorem loc_stepO (hc : ∀ f args, Loc (call f args)) (o : Oper) (kp : Nat) (ops : List Oper) : Loc (stepO o T call kp ops tm) := by
  cases o with
  | mk dst op type pos after guard =>
    cases guard with
    | none => exact loc_runO hc dst op kp ops
    | some q =>
      have hs : Loc (skipO dst T call kp ops tm) := by rw [skipO_eq]; exact loc_ret _
      exact loc_orec (loc_no _) fun d => loc_iff (loc_no _) (loc_orec hs fun b => loc_iff (loc_runO hc dst op kp ops) hs)
theorem loc_stepsL (hc : ∀ f args, Loc (call f args)) (kp : Nat) (ops : List Oper) : ∀ (l : List Oper) (tm : Tm), Loc (stepsL T call kp ops l tm)
  | [], tm => loc_ret tm
  | o :: l, tm => loc_bnd (f := stepsL T call kp ops l) (loc_stepO hc o kp ops) (loc_stepsL hc kp ops l)
theorem oneD_eq (again : DF) (bf : List Nat) (j : Nat) (lg : List Lg) (rd wr nx : Nat) (tm : Tm) (s' : St) : oneD again bf j lg rd wr nx tm s' = iff (apart (headOr bf 0) s'.rd s'.wr lg) (again bf.tail (j + 1) (⟨j, s'.rd, s'.wr ||| news nx s'.nx⟩ :: lg) tm ⟨s'.h, s'.nx, rd ||| s'.rd, wr ||| s'.wr⟩) (.no (1000 + j)) := by
  cases s' with
  | mk h nx' rd' wr' =>
    unfold oneD
    simp only [forceN_eq]
    rfl
theorem stepD_ok {kp : Nat} {ops : List Oper} {o : Oper} {again : DF} {bf : List Nat} {j : Nat} {lg : List Lg} {s s' : St} {tm' : Tm} (h : stepD T call kp ops o again bf j lg tm s = .ok tm' s') : ∃ tm1 s1, stepO o T call kp ops tm ⟨s.h, s.nx, 0, 0⟩ = .ok tm1 s1 ∧ apart (headOr bf 0) s1.rd s1.wr lg = true ∧ again bf.tail (j + 1) (⟨j, s1.rd, s1.wr ||| news s.nx s1.nx⟩ :: lg) tm1 ⟨s1.h, s1.nx, s.rd ||| s1.rd, s.wr ||| s1.wr⟩ = .ok tm' s' := by
  cases s with
  | mk hh nx rd wr =>
    obtain ⟨tm1, s1, h1, h2⟩ := rrec_ok (f := oneD again bf j lg rd wr nx) h
    rw [oneD_eq] at h2
    cases ha : apart (headOr bf 0) s1.rd s1.wr lg with
    | false => rw [ha] at h2; cases h2
    | true => rw [ha] at h2; exact ⟨tm1, s1, h1, ha, h2⟩
theorem stepD_run {kp : Nat} {ops : List Oper} {o : Oper} {again : DF} {bf : List Nat} {j : Nat} {lg : List Lg} {s s1 : St} {tm1 : Tm} (h1 : stepO o T call kp ops tm ⟨s.h, s.nx, 0, 0⟩ = .ok tm1 s1) (h2 : apart (headOr bf 0) s1.rd s1.wr lg = true) : stepD T call kp ops o again bf j lg tm s = again bf.tail (j + 1) (⟨j, s1.rd, s1.wr ||| news s.nx s1.nx⟩ :: lg) tm1 ⟨s1.h, s1.nx, s.rd ||| s1.rd, s.wr ||| s1.wr⟩ := by
  cases s with
  | mk hh nx rd wr =>
    show @R.rec Tm (fun _ => R Tm) (oneD again bf j lg rd wr nx) R.no (stepO o T call kp ops tm ⟨hh, nx, 0, 0⟩) = _
    rw [h1]
    show oneD again bf j lg rd wr nx tm1 s1 = _
    rw [oneD_eq, h2]
    rfl
/-- with no log behind it, and the log told -/
def listen (m : M α) : M (α × Nat × Nat × Nat × Nat) := fun s => match m ⟨s.h, s.nx, 0, 0⟩ with
  | .ok a u => .ok (a, u.rd, u.wr, s.nx, u.nx) ⟨u.h, u.nx, s.rd ||| u.rd, s.wr ||| u.wr⟩
  | .no n => .no n
theorem loc_listen {m : M α} (hm : Loc m) : Loc (listen m) := fun s a s' h hs => by
  unfold listen at h
  cases h1 : m ⟨s.h, s.nx, 0, 0⟩ with
  | no n => rw [h1] at h; cases h
  | ok b u =>
    rw [h1] at h
    cases h
    obtain ⟨dr, dw, n1, m1, b1, r1, w1, k1, f1⟩ := hm _ _ _ h1 hs
    rw [Nat.zero_or] at r1 w1
    refine ⟨dr, dw, n1, m1, b1, by rw [r1], by rw [w1], k1, fun t ht hg => ?_⟩
    obtain ⟨t', e1, e2, e3, e4, e5⟩ := f1 ⟨t.h, t.nx, 0, 0⟩ ht hg
    rw [Nat.zero_or] at e3 e4
    exact ⟨⟨t'.h, t'.nx, t.rd ||| t'.rd, t.wr ||| t'.wr⟩, by unfold listen; rw [e1]; simp only [e2, e3, e4, r1, w1, ht], e2, by rw [e3], by rw [e4], e5⟩
theorem stepD_eq (o : Oper) (kp : Nat) (ops : List Oper) (again : DF) (bf : List Nat) (j : Nat) (lg : List Lg) (tm : Tm) : stepD T call kp ops o again bf j lg tm = bnd (listen (stepO o T call kp ops tm)) fun r => iff (apart (headOr bf 0) r.2.1 r.2.2.1 lg) (again bf.tail (j + 1) (⟨j, r.2.1, r.2.2.1 ||| news r.2.2.2.1 r.2.2.2.2⟩ :: lg) r.1) (no (1000 + j)) := by
  funext s
  cases s with
  | mk hh nx rd wr =>
    show @R.rec Tm (fun _ => R Tm) (oneD again bf j lg rd wr nx) R.no (stepO o T call kp ops tm ⟨hh, nx, 0, 0⟩) = _
    unfold bnd listen
    simp only
    cases stepO o T call kp ops tm ⟨hh, nx, 0, 0⟩ with
    | no n => rfl
    | ok tm1 s1 =>
      show oneD again bf j lg rd wr nx tm1 s1 = _
      rw [oneD_eq]
      simp only
      cases apart (headOr bf 0) s1.rd s1.wr lg <;> rfl
theorem loc_stepsD (hc : ∀ f args, Loc (call f args)) (kp : Nat) (ops : List Oper) : ∀ (l : List Oper) (bf : List Nat) (j : Nat) (lg : List Lg) (tm : Tm), Loc (stepsD T call kp ops l bf j lg tm)
  | [], bf, j, lg, tm => loc_ret tm
  | o :: l, bf, j, lg, tm => by
    show Loc (stepD T call kp ops o (stepsD T call kp ops l) bf j lg tm)
    rw [stepD_eq]
    exact loc_bnd (loc_listen (loc_stepO hc o kp ops)) fun r => loc_iff (loc_stepsD hc kp ops l _ _ _ _) (loc_no _)
theorem forceS_eq (s : St) (f : St → α) : forceS s f = f s := by
  cases s with
  | mk h nx rd wr =>
    show (forceN rd fun rd => forceN wr fun wr => f ⟨h, nx, rd, wr⟩) = _
    rw [forceN_eq, forceN_eq]
theorem cRegion_eq (ops : Array Oper) (dr : Bool) (kp : Nat) : cRegion ops dr T call kp tm = bnd (@Bool.rec (fun _ => M Tm) (stepsL T call kp ops.toList ops.toList (clr tm)) (stepsD T call kp ops.toList ops.toList (aheads ops.toList []) 0 [] (clr tm)) dr) fun tm => ret (.nm tm) := rfl
theorem cSeq_eq (a b : CF) (kp : Nat) : cSeq a b T call kp tm = bnd (a T call kp tm) fun r => onNm r (b T call kp) := rfl
theorem cBlock_eq (id : Nat) (a : CF) (kp : Nat) : cBlock id a T call kp tm = bnd (a T call kp tm) (outOf id) := rfl
theorem loopF_eq (a : Tm → M EX) (n : Nat) (tm : Tm) : loopF a (n + 1) tm = bnd (a tm) fun r => onNm r (loopF a n) := by
  funext s
  show @R.rec EX (fun _ => R EX) (fun r s => forceS s (onNm r (loopF a n))) R.no (a tm s) = _
  simp only [forceS_eq]
  rfl
theorem loc_onNm {r : EX} {f : Tm → M EX} (hf : ∀ tm, Loc (f tm)) : Loc (onNm r f) := by
  cases r with
  | nm tm => exact hf tm
  | ex i tm => exact loc_ret _
  | rt tm => exact loc_ret _
theorem loc_loop {a : Tm → M EX} (ha : ∀ tm, Loc (a tm)) : ∀ (n : Nat) (tm : Tm), Loc (loopF a n tm)
  | 0, tm => loc_no _
  | n + 1, tm => by rw [loopF_eq]; exact loc_bnd (ha tm) fun r => loc_onNm (loc_loop ha n)
theorem loc_code (hc : ∀ f args, Loc (call f args)) (kp : Nat) (c : Code) : ∀ tm, Loc (evC c T call kp tm) := by
  induction c with
  | skip => intro tm; exact loc_ret _
  | region id ops dr =>
    intro tm
    show Loc (cRegion ops dr T call kp tm)
    rw [cRegion_eq]
    refine loc_bnd (loc_brec (loc_stepsL hc kp _ _ _) (loc_stepsD hc kp _ _ _ _ _ _)) fun tm => loc_ret _
  | seq a b iha ihb => intro tm; exact loc_bnd (iha tm) fun r => loc_onNm ihb
  | cond x a b iha ihb => intro tm; exact loc_avC fun s => loc_scBy fun t => loc_brec (ihb tm) (iha tm)
  | block id a ih =>
    intro tm
    refine loc_bnd (ih tm) fun r => ?_
    cases r with
    | nm tm => exact loc_ret _
    | ex i tm => exact loc_brec (loc_ret _) (loc_ret _)
    | rt tm => exact loc_ret _
  | loop a ih => intro tm; exact loc_loop ih 5000 tm
  | exit id => intro tm; exact loc_ret _
  | ret => intro tm; exact loc_ret _
  | _ => intro tm; exact loc_no _
theorem loc_resV (r : ResultVar) (tm : Tm) : Loc (resV r T tm) := by
  cases r with
  | tmp t => exact loc_ret _
  | cell a t => exact loc_load (call := fun _ _ => no 93) t _
theorem loc_resVs (tm : Tm) : ∀ l, Loc (resVs T tm l)
  | [] => loc_ret _
  | r :: l => loc_bnd (loc_resV r tm) fun v => loc_optm fun c => loc_bnd (loc_resVs tm l) fun vs => loc_ret _
theorem loc_results (rs : List ResultVar) (tm : Tm) : Loc (results rs T tm) := by
  unfold results
  split
  · exact loc_resV _ _
  · exact loc_bnd (loc_resVs tm _) fun l => loc_ret _
theorem setAll_K : ∀ (l : List AV) (i : Nat) (t : Vs) (K : Vs → α), setAll l i t K = K (setAll l i t id)
  | [], i, t, K => rfl
  | v :: l, i, t, K => by
    show (set3 i v t fun t => setAll l (i + 1) t K) = K (set3 i v t fun t => setAll l (i + 1) t id)
    rw [l3.1, setAll_K l, l3.1 (K := fun t => setAll l (i + 1) t id)]
theorem bodyF_eq (args : List AV) (kp : Nat) (fn : Func) : bodyF T call args kp fn = optm 95 fn.body fun c => iff (keeps kp args.length) (iff (Nat.ble args.length fn.ntmps) (iff (Nat.ble fn.ntmps 512) (bnd (evC c T call kp ⟨.nl, setAll args 0 (full3 .u) id⟩) (endF T fn.results.toList)) (no 98)) (no 98)) (no 99) := by
  unfold bodyF
  congr 1
  funext c
  congr 3
  rw [setAll_K]
  rfl
theorem loc_body (hc : ∀ f args, Loc (call f args)) (args : List AV) (kp : Nat) (fn : Func) : Loc (bodyF T call args kp fn) := by
  rw [bodyF_eq]
  refine loc_optm fun c => loc_iff (loc_iff (loc_iff (loc_bnd (loc_code hc kp c _) fun r => ?_) (loc_no _)) (loc_no _)) (loc_no _)
  cases r with
  | nm tm => exact loc_results _ _
  | ex i tm => exact loc_no _
  | rt tm => exact loc_results _ _
/-- hooks log what they look at -/
def HkLoc (T : Tab) : Prop := ∀ f args m, T.hk f args = some m → Loc m
theorem loc_fn (hh : HkLoc T) : ∀ (n f : Nat) (args : List AV), Loc (evF T n f args)
  | 0, f, args => loc_no _
  | n + 1, f, args => by
    show Loc (@Option.rec _ (fun _ => M AV) (optm (Nat.add 10000 f) (T.f f) (bodyF T (evF T n) args (T.kp f))) (fun m => m) (T.hk f args))
    cases e : T.hk f args with
    | none => exact loc_optm fun fn => loc_body (loc_fn hh n) args _ fn
    | some m => exact hh f args m e
end
end Ev
end Go.Proofs.YtjmifcnfnihhnaaGreatDoor
