import Derived.Test.YtgfhddhkillchaaGreatDoorEvJ
set_option linter.unusedVariables false
set_option linter.unusedSimpArgs false
namespace Go.Proofs.YtgfhddhkillchaaGreatDoor
namespace Ev
open Go.RowKit
section
variable {T : Tab} {env : Nat → Value} {ρ : Rh} {w : World} {tm : Tm} {call : Cal} {s s' : St} {v : AV} {rc : Operand → Value} {h : Hp}
theorem isB_t {t : Nat} (h : isB T t = true) : T.P.underlying t = some (.int .u8) := by
  unfold isB at h
  cases h1 : isK T t 5 with
  | false => rw [h1] at h; cases h
  | true =>
    rw [h1] at h
    have h : Nat.beq (kN (ikT T t)) 4 = true := h
    have := kN_inj (k' := .u8) (Nat.eq_of_beq_eq_true h)
    rw [k5 h1, this]
theorem bytes_V : ∀ {l : List Sc} {cs : List Nat} {us : List Value}, bytesOf l = some cs → All2 (VS env ρ) l us → us = cs.map (fun c => Value.int .u8 ((c : Nat) : Int)) ∧ ∀ c ∈ cs, c < 256
  | [], cs, us, h, ha => by cases h; cases ha; exact ⟨rfl, fun c hc => by cases hc⟩
  | x :: l, cs, us, h, ha => by
    have h : @Option.rec _ (fun _ => Option (List Nat)) none (fun c => @Option.rec _ (fun _ => Option (List Nat)) none (fun m => some (c :: m)) (bytesOf l)) (byteOf x) = some cs := h
    cases h1 : byteOf x with
    | none => rw [h1] at h; cases h
    | some c =>
      rw [h1] at h
      simp only at h
      cases h2 : bytesOf l with
      | none => rw [h2] at h; cases h
      | some m =>
        rw [h2] at h
        cases h
        cases ha with
        | cons hx ha =>
          obtain ⟨e1, e2⟩ := bytes_V h2 ha
          have : ∃ k, x = .i .u8 ((k : Nat) : Int) ∧ c = k ∧ k < 256 := by
            cases x with
            | i k n =>
              have h1 : iff (Nat.beq (kN k) 4) (@Int.rec (fun _ => Option Nat) (fun m => iff (Nat.blt m 256) (some m) none) (fun _ => none) n) none = some c := h1
              cases h3 : Nat.beq (kN k) 4 with
              | false => rw [h3] at h1; cases h1
              | true =>
                rw [h3] at h1
                have hk := kN_inj (k' := .u8) (Nat.eq_of_beq_eq_true h3)
                cases n with
                | ofNat q =>
                  have h1 : iff (Nat.blt q 256) (some q) none = some c := h1
                  cases h4 : Nat.blt q 256 with
                  | false => rw [h4] at h1; cases h1
                  | true => rw [h4] at h1; cases h1; exact ⟨_, by rw [hk]; rfl, rfl, blt_t h4⟩
                | negSucc q => cases h1
            | _ => cases h1
          obtain ⟨k, rfl, rfl, hk⟩ := this
          refine ⟨by rw [List.map_cons, ← e1]; congr 1, fun q hq => ?_⟩
          rcases List.mem_cons.1 hq with rfl | hq
          · exact hk
          · exact e2 q hq
theorem push_bytes : ∀ (cs : List Nat) (a : ByteArray), (∀ c ∈ cs, c < 256) → ((cs.map fun (c : Nat) => (c : Int)).foldl (fun r n => r.push (UInt8.ofNat n.toNat)) a).data.toList.map (·.toNat) = a.data.toList.map (·.toNat) ++ cs
  | [], a, _ => by simp
  | c :: cs, a, h => by
    rw [List.map_cons, List.foldl_cons, push_bytes cs _ (fun q hq => h q (List.mem_cons_of_mem _ hq))]
    have := h c (List.mem_cons_self ..)
    simp [ByteArray.push, Nat.mod_eq_of_lt this]
theorem s_convert {src dst : TypeId} {x : Operand} {o : Oper} (ho : o.op = .convert src dst x) (hn : EnvOk env) (h : oConvert src dst x T call tm s = .ok v s') (hx : VA env ρ (evo x tm) (rc x)) (hr : HR env ρ s.h w) : Dn T env ρ s s' w v ((execOp rc o).run T.P w) := by
  obtain ⟨y, ey, h⟩ := avC_ok h
  rw [ey] at hx
  have hx : VS env ρ y (rc x) := hx
  obtain ⟨hk0, h⟩ := iff_on h
  obtain ⟨_, d0, _, hu0, _⟩ := ti_inv T.P src (isK_ne hk0)
  rcases iff_ok h with ⟨hk, h⟩ | ⟨_, h⟩
  · obtain ⟨k, n, rfl, h⟩ := scI_ok h
    obtain ⟨r, hr', h⟩ := optm_ok h
    rw [mkI_eq, wr_eq] at hr'
    cases hr'
    cases h
    have hx : rc x = .int k n := hx
    exact Dn.val (v' := .int (ikT T dst) ((ikT T dst).wrap n)) hr (by simp [execOp, ho, convert, run_underlying hu0, run_underlying (k5 hk), hx, Conv.intToInt]) rfl rfl rfl
  · rcases iff_ok h with ⟨hk, h⟩ | ⟨_, h⟩
    · obtain ⟨hs1, h⟩ := iff_no h
      obtain ⟨hb, h⟩ := iff_no h
      have hcv := fun (a : Option Addr) (l c : Nat) => run_convert_bytes_string (P := T.P) w src dst (elT T src) a l c (k1 hs1) (isB_t hb) (k4 hk)
      rcases scL_ok h with ⟨b, off, len, sz, hy0, h9⟩ | ⟨hy, h⟩
      · subst hy0
        obtain ⟨s1, n, l, e1, e2, h8, hc⟩ := row_ok h9
        obtain ⟨cs, hcs, h7⟩ := optm_ok h8
        cases h7
        obtain ⟨k, z, cap, hbk, hrc, _⟩ := hx
        rcases hc with ⟨_, e, _⟩ | ⟨rfl, rfl, hc⟩ | ⟨b', off', e, h0, h1, rfl⟩
        · cases e
        · cases hcs
          have hl0 : len = 0 := by
            rcases hc with e | e | ⟨_, _, e⟩
            · cases e
            · cases e
            · cases e; rfl
          subst hl0
          have hb' := run_bytesToString (P := T.P) w ⟨k, off, none⟩ 0 cap [] (by simp [loadCells, loadCellsFrom])
          exact Dn.val (v' := .string ByteArray.empty) hr (by simp [execOp, ho, hrc, hcv, hb']) ⟨_, rfl, rfl⟩ e1 e2
        · cases e
          obtain ⟨us, c1, c2, c3⟩ := hr.cells hbk (m := len * 1) (by omega) h1
          obtain ⟨q1, q2⟩ := bytes_V hcs c2
          have hl := run_loadCells_list (P := T.P) w _ us (c3 w rfl)
          rw [c1, Nat.mul_one] at hl
          have hb' := run_bytesToString (P := T.P) w ⟨k, off, none⟩ len cap (cs.map fun (c : Nat) => (c : Int)) (by rw [hl, q1, List.map_map]; rfl)
          refine Dn.val (v' := .string _) hr (by simp [execOp, ho, hrc, hcv, hb']; rfl) ⟨_, rfl, ?_⟩ e1 e2
          rw [push_bytes cs _ q2]
          rfl
      · cases h
        have : ∃ a cap, rc x = .slice a 0 cap := by
          rcases hy with rfl | rfl
          · exact ⟨_, _, hx⟩
          · exact hx
        obtain ⟨a, cap, hrc⟩ := this
        refine Dn.val (v' := .string ByteArray.empty) hr ?_ ⟨_, rfl, rfl⟩ rfl rfl
        cases a with
        | none => simp [execOp, ho, hrc, hcv, Conv.bytesToString]
        | some ad =>
          have hb' := run_bytesToString (P := T.P) w ad 0 cap [] (by simp [loadCells, loadCellsFrom])
          simp [execOp, ho, hrc, hcv, hb']
    · obtain ⟨hsd, hA⟩ := iff_no h
      obtain ⟨hk, hB⟩ := iff_no hA
      obtain ⟨hb, hC⟩ := iff_no hB
      have hsd : src = dst := Nat.eq_of_beq_eq_true hsd
      subst hsd
      rcases scL_ok hC with ⟨b, off, len, sz, hy0, hD⟩ | ⟨hy, hD⟩
      · subst hy0
        obtain ⟨s1, e1, e2, hE⟩ := look_same hD
        obtain ⟨h4, hF⟩ := iff_no hE
        obtain ⟨h8, hG⟩ := put_ok hF
        cases hG
        obtain ⟨k, z, cap, hbk, hrc, hcl, hcz⟩ := hx
        have hlv : Live s.h b := ⟨hr.dom b _ hbk, blt_t h4⟩
        obtain ⟨k', arr, tyb, lo, hi', e, g1, g2, g3, g4, g5⟩ := (hr.blk b hlv).ex
        rw [hbk] at e
        cases e
        have g2 : lo = hi' ∨ arr.size ≤ lo := g2.resolve_left (by omega)
        have hsh : w.shape? k = some (tyb, arr.size) := by simp [World.shape?, g1]
        refine ⟨.slice (some ⟨k, off, none⟩) len cap, ρ, w.freeze ⟨k, arr.size, none⟩ 1, _, ?_, .inl rfl, ⟨k, _, cap, hbk, rfl, hcl, hcz⟩, ?_⟩
        · simp [execOp, ho, hrc, convert, run_underlying (k1 hk), run_underlying (isB_t hb), markStringish, hsh]
        · show Post env ρ s.h s.nx w ρ (hset s1.h b (get5 b s.h)) s1.nx _
          rw [e1, e2]
          have hfz : ∀ j, (w.freeze ⟨k, arr.size, none⟩ 1).heap[j]? = if k = j then (w.heap[j]?).map (fun
              | .cells c elem (lo, hi) => .cells c elem (if lo == hi then (arr.size, arr.size + 1) else (min lo arr.size, max hi (arr.size + 1)))
              | o => o) else w.heap[j]? := fun j => by
            unfold World.freeze
            rw [if_neg (by decide)]
            exact Array.getElem?_modify
          refine Post.write hr _ (k := k) h8 hlv rfl ⟨_, hbk⟩ ?_ (fun j hj => by rw [hfz, if_neg (fun e => hj e.symm)]) ⟨by unfold World.freeze; rw [if_neg (by decide)], by unfold World.freeze; rw [if_neg (by decide)], by unfold World.freeze; rw [if_neg (by decide)], by unfold World.freeze; rw [if_neg (by decide)]; simp, fun j hj => by omega⟩
          by_cases hll : lo = hi'
          · exact ⟨k, arr, tyb, arr.size, arr.size + 1, hbk, by rw [hfz, if_pos rfl, g1]; simp [hll], .inr (.inr (Nat.le_refl _)), g3, g4, g5⟩
          · exact ⟨k, arr, tyb, min lo arr.size, max hi' (arr.size + 1), hbk, by rw [hfz, if_pos rfl, g1]; simp [hll], .inr (.inr (by omega)), g3, g4, g5⟩
      · exact no_ok hD
theorem s_copy {ts tx : TypeId} {d x : Operand} {o : Oper} (ho : o.op = .call { callee := .builtin .copy, args := #[d, x], argTypes := #[ts, tx] }) (hn : EnvOk env) (hk : isK T ts 1 = true) (hez : ezB T ts = true) (h : oCopy d x (ezT T ts) tm s = .ok v s') (hd : VA env ρ (evo d tm) (rc d)) (hx : VA env ρ (evo x tm) (rc x)) (hr : HR env ρ s.h w) : Dn T env ρ s s' w v ((execOp rc o).run T.P w) := by
  obtain ⟨a, ea, h⟩ := avC_ok h
  obtain ⟨y, ey, h⟩ := avC_ok h
  rw [ea] at hd
  rw [ey] at hx
  have hd : VS env ρ a (rc d) := hd
  have hx : VS env ρ y (rc x) := hx
  obtain ⟨s1, n, l, e1, e2, h, hc⟩ := row_ok h
  obtain ⟨i, hi, q1, q4⟩ := ez_info hez
  have hsrc : (Builtin.lenOf (rc x)).run T.P w = .ok n w ∧ ∀ m, m ≤ n → ∃ news, (Builtin.firstCells (ezT T ts) m (rc x)).run T.P w = .ok news.toArray w ∧ All2 (VS env ρ) (l.take (m * ezT T ts)) news := by
    rcases hc with ⟨cs, rfl, h1, rfl, rfl⟩ | ⟨rfl, rfl, hc⟩ | ⟨b, off, rfl, h0, h1, rfl⟩
    · obtain ⟨sb, hrc, hl⟩ := hx
      have hss := str_size hl
      rw [hrc]
      refine ⟨by rw [← hss]; rfl, fun m hm => ⟨(byteCells sb).take m, ?_, ?_⟩⟩
      · simp only [Builtin.firstCells, Sem.run_pure]
        congr 1
        apply Array.ext'
        simp [byteCells]
      · rw [h1, Nat.mul_one]
        exact (byteCells_V hl).take m
    · have : ∃ a cap, rc x = .slice a 0 cap := by
        rcases hc with rfl | rfl | ⟨b, off, rfl⟩
        · exact ⟨_, _, hx⟩
        · exact hx
        · obtain ⟨k, z, cap, _, e, _⟩ := hx; exact ⟨_, _, e⟩
      obtain ⟨ad, cap, hrc⟩ := this
      rw [hrc]
      refine ⟨rfl, fun m hm => ⟨[], ?_, by rw [List.take_nil]; exact .nil⟩⟩
      have : m = 0 := by omega
      subst this
      cases ad <;> simp [Builtin.firstCells, loadCells, loadCellsFrom]
    · obtain ⟨k, z, cap, hb, hrc, _⟩ := hx
      obtain ⟨cs, c1, c2, c3⟩ := hr.cells hb (m := n * ezT T ts) (Nat.mul_pos h0 q4) h1
      rw [hrc]
      refine ⟨rfl, fun m hm => ⟨cs.take (m * ezT T ts), run_firstCells_some w _ m _ n cap _ (by rw [List.length_take, c1]; exact Nat.min_eq_left (Nat.mul_le_mul_right _ hm)) (fun j u hu => c3 w rfl j u ?_), c2.take _⟩⟩
      rw [List.getElem?_take] at hu
      split at hu
      · exact hu
      · cases hu
  obtain ⟨hlen, hcells⟩ := hsrc
  rcases scL_ok h with ⟨b, off, len, z, ha0, hA⟩ | ⟨hy, h⟩
  · obtain ⟨hz, hB⟩ := iff_no hA
    have hz : z = ezT T ts := Nat.eq_of_beq_eq_true hz
    subst ha0
    subst hz
    obtain ⟨k, zz, cap, hb, hrc, hcl, hcz⟩ := hd
    have hmin : iff (Nat.ble n len) n len = Nat.min n len := by
      cases hb : Nat.ble n len with
      | true => exact (Nat.min_eq_left (ble_t hb)).symm
      | false => exact (Nat.min_eq_right (Nat.le_of_lt (ble_f hb))).symm
    rw [hmin] at hB
    obtain ⟨news, hf1, hf2⟩ := hcells (Nat.min n len) (Nat.min_le_left _ _)
    unfold copyR at hB
    rcases nrec_ok hB with ⟨hm, hC⟩ | ⟨m, hm, hC⟩
    · cases hC
      rw [hm] at hf1
      rw [hm, Nat.zero_mul, List.take_zero] at hf2
      cases hf2
      refine Dn.val (v' := .int .i64 0) hr ?_ rfl e1 e2
      simp only [execOp, ho, resolve, invoke, builtin, Sem.run_bind, Sem.run_pure, Result.andThen_ok, List.map_toArray, List.map_cons, List.map_nil, hrc]
      simp [Builtin.copy_, run_underlying (k1 hk), hlen, sizeOf, typeInfo, hi, q1, hf1, storeCells, hm, goInt]
    · obtain ⟨s2, e3, e4, hD⟩ := look_same hC
      obtain ⟨h2, hE⟩ := iff_no hD
      rw [storeF_K] at hE
      obtain ⟨h8, hF⟩ := put_ok hE
      cases hF
      rw [e1] at h2 e3
      have h2 : off + (m + 1) * ezT T ts ≤ (get5 b s.h).n := ble_t h2
      rw [hm] at hf1 hf2
      have hnl := hf2.len
      have hpos : 0 < (m + 1) * ezT T ts := Nat.mul_pos (Nat.succ_pos _) q4
      obtain ⟨hlv, arr, ty, lo, hi', g0, g1, g2, g3, g4, g5⟩ := hr.get hb (by omega)
      have g2 : lo = hi' ∨ arr.size ≤ lo := g2.resolve_left (by omega)
      have hnle : news.length ≤ (m + 1) * ezT T ts := by rw [← hnl, List.length_take]; omega
      have hst := run_storeCells_cells (P := T.P) k off news 0 w (fun j hj => by rw [cell_of g1, Array.getElem?_eq_getElem (by omega)]; rfl) (fun j hj => frozen_of g1 g2 (by omega)) (fun u hu => by
        obtain ⟨j, hj⟩ := List.getElem?_of_mem hu
        have hj' : j < (l.take ((m + 1) * ezT T ts)).length := by rw [hnl]; exact (List.getElem?_eq_some_iff.1 hj).1
        obtain ⟨u', p1, p2⟩ := hf2.at (List.getElem?_eq_getElem hj')
        rw [hj] at p1
        cases p1
        exact p2.one hn)
      have hst' : (storeCells ⟨k, off, none⟩ news).run T.P w = .ok () (w.setCells k off news) := by simpa using hst
      obtain ⟨b1, b2, b3⟩ := setCells_blk k news off w g1
      refine ⟨.int .i64 ((m + 1 : Nat) : Int), ρ, w.setCells k off news, _, ?_, .inl rfl, rfl, ?_⟩
      · simp only [execOp, ho, resolve, invoke, builtin, Sem.run_bind, Sem.run_pure, Result.andThen_ok, List.map_toArray, List.map_cons, List.map_nil, hrc]
        simp [Builtin.copy_, run_underlying (k1 hk), hlen, sizeOf, typeInfo, hi, q1, hf1, hst', hm, goInt]
      · show Post env ρ s.h s.nx w ρ (hset s2.h b _) s2.nx _
        rw [e3, e4, e2, e1]
        refine Post.write hr _ (k := k) h8 hlv (storeF_room _ off _) ⟨zz, hb⟩ ⟨k, _, ty, lo, hi', by rw [ovr_size, ← g0]; exact hb, b1, .inr (by rw [ovr_size]; exact g2), by rw [ovr_size]; exact g3, by show (get5 b s.h).n ≤ (storeF _ off (get5 b s.h).t id).room; rw [storeF_room]; exact g4, fun j hj => ?_⟩ b3 (setCells_low _ _ _ _)
        have hj : j < (get5 b s.h).n := hj
        show ∃ u, _ ∧ VS env ρ ((storeF (l.take ((m + 1) * ezT T ts)) off (get5 b s.h).t id).get j) u
        rw [storeF_get _ off _ (by omega) (by rw [hnl]; omega), ovr_at _ _ _ _ (by omega), hnl]
        by_cases hin : off ≤ j ∧ j < off + news.length
        · rw [if_pos hin, if_pos hin]
          have hj' : j - off < (l.take ((m + 1) * ezT T ts)).length := by omega
          obtain ⟨u, p1, p2⟩ := hf2.at (List.getElem?_eq_getElem hj')
          exact ⟨u, p1, by rw [List.getD_eq_getElem?_getD, List.getElem?_eq_getElem hj']; exact p2⟩
        · rw [if_neg hin, if_neg hin]
          exact g5 j hj
  · cases h
    obtain ⟨news, hf1, hf2⟩ := hcells 0 (Nat.zero_le _)
    have : ∃ a cap, rc d = .slice a 0 cap := by
      rcases hy with rfl | rfl
      · exact ⟨_, _, hd⟩
      · exact hd
    obtain ⟨ad, cap, hrc⟩ := this
    rw [Nat.zero_mul, List.take_zero] at hf2
    cases hf2
    refine Dn.val (v' := .int .i64 0) hr ?_ rfl e1 e2
    simp only [execOp, ho, resolve, invoke, builtin, Sem.run_bind, Sem.run_pure, Result.andThen_ok, List.map_toArray, List.map_cons, List.map_nil, hrc]
    cases ad <;> simp [Builtin.copy_, run_underlying (k1 hk), hlen, sizeOf, typeInfo, hi, q1, hf1, storeCells, goInt]
end
end Ev
end Go.Proofs.YtgfhddhkillchaaGreatDoor
