import Derived.Test.YtgfhddhkillchaaGreatDoorEvG
set_option linter.unusedVariables false
set_option linter.unusedSimpArgs false
namespace Go.Proofs.YtgfhddhkillchaaGreatDoor
namespace Ev
/-! rows of cells, filled -/
theorem overlay0_at : ∀ (vs l : List Sc), vs.length ≤ l.length → (overlay0 vs l).length = l.length ∧ ∀ j : Nat, (overlay0 vs l)[j]? = if j < vs.length then vs[j]? else l[j]?
  | [], l, h => ⟨rfl, fun j => by rw [if_neg (by simp)]; rfl⟩
  | v :: vs, [], h => by simp at h
  | v :: vs, c :: l, h => by
    obtain ⟨h1, h2⟩ := overlay0_at vs l (by simpa using h)
    have e : overlay0 (v :: vs) (c :: l) = v :: overlay0 vs l := rfl
    rw [e]
    refine ⟨by rw [List.length_cons, h1, List.length_cons], fun j => ?_⟩
    cases j with
    | zero => rw [if_pos (by simp)]; rfl
    | succ j =>
      rw [List.getElem?_cons_succ, h2 j, List.length_cons]
      by_cases hj : j < vs.length
      · rw [if_pos hj, if_pos (by omega)]; rfl
      · rw [if_neg hj, if_neg (by omega)]; rfl
theorem overlay_at (vs : List Sc) : ∀ (n : Nat) (l : List Sc), n + vs.length ≤ l.length → (overlay n vs l).length = l.length ∧ ∀ j : Nat, (overlay n vs l)[j]? = if n ≤ j ∧ j < n + vs.length then vs[j - n]? else l[j]? := by
  intro n
  induction n with
  | zero =>
    intro l h
    obtain ⟨h1, h2⟩ := overlay0_at vs l (by omega)
    refine ⟨h1, fun j => (h2 j).trans ?_⟩
    by_cases hj : j < vs.length
    · rw [if_pos hj, if_pos (by omega)]; rfl
    · rw [if_neg hj, if_neg (by omega)]
  | succ n ih =>
    intro l h
    cases l with
    | nil => simp at h
    | cons c l =>
      rw [List.length_cons] at h
      obtain ⟨h1, h2⟩ := ih l (by omega)
      have e : overlay (n + 1) vs (c :: l) = c :: overlay n vs l := rfl
      rw [e]
      refine ⟨by rw [List.length_cons, h1, List.length_cons], fun j => ?_⟩
      cases j with
      | zero => rw [if_neg (by omega)]; rfl
      | succ j =>
        rw [List.getElem?_cons_succ, h2 j]
        by_cases hj : n ≤ j ∧ j < n + vs.length
        · rw [if_pos hj, if_pos (by omega), show j + 1 - (n + 1) = j - n by omega]
        · rw [if_neg hj, if_neg (by omega)]; rfl
theorem foldl_ovr : ∀ (vs : List Value) (i off : Nat) (cells : Array Value), (vs.zipIdx i).foldl (fun cs (p : Value × Nat) => cs.setIfInBounds (off + p.2) p.1) cells = ovr cells (off + i) vs
  | [], i, off, cells => rfl
  | v :: vs, i, off, cells => by
    rw [List.zipIdx_cons, List.foldl_cons, foldl_ovr vs (i + 1) off]
    rfl
section
variable {T : Tab} {env : Nat → Value} {ρ : Rh} {w : World} {tm : Tm} {call : Cal} {s s' : St} {v : AV} {rc : Operand → Value} {h : Hp}
theorem overlay_V {cells vs : List Sc} {arr : Array Value} {us : List Value} {off : Nat} (hc : All2 (VS env ρ) cells arr.toList) (hv : All2 (VS env ρ) vs us) (hl : off + vs.length ≤ cells.length) : All2 (VS env ρ) (overlay off vs cells) (ovr arr off us).toList := by
  obtain ⟨h1, h2⟩ := overlay_at vs off cells hl
  have hsz : cells.length = arr.size := hc.len.trans Array.length_toList
  have hus := hv.len
  refine All2.of ((h1.trans hsz).trans ((ovr_size us off arr).symm.trans Array.length_toList.symm)) fun j x u hx hu => ?_
  rw [h2 j] at hx
  rw [Array.getElem?_toList, ovr_at us off arr j (by omega), ← hus] at hu
  by_cases hj : off ≤ j ∧ j < off + vs.length
  · rw [if_pos hj] at hx hu
    obtain ⟨u', e1, e2⟩ := hv.at hx
    rw [hu] at e1; cases e1; exact e2
  · rw [if_neg hj] at hx hu
    obtain ⟨u', e1, e2⟩ := hc.at hx
    rw [Array.getElem?_toList, hu] at e1; cases e1; exact e2
theorem fill_V (hn : EnvOk env) (place : Nat → Option (Nat × Nat)) : ∀ (ps : List (Nat × Operand)) (cells l : List Sc) (arr : Array Value), (∀ q ∈ ps, VA env ρ (evo q.2 tm) (rc q.2)) → All2 (VS env ρ) cells arr.toList → fillA place (ps.map fun q => (q.1, cellsOf (evo q.2 tm))) cells = some l → ∃ arr' : Array Value, Instr.fill place arr (ps.map fun q => (q.1, rc q.2)) = some arr' ∧ All2 (VS env ρ) l arr'.toList
  | [], cells, l, arr, _, hc, hf => by cases hf; exact ⟨arr, rfl, hc⟩
  | q :: ps, cells, l, arr, hq, hc, hf => by
    have hf : @Option.rec _ (fun _ => Option (List Sc)) none (fun vs => @Option.rec _ (fun _ => Option (List Sc)) none (fun os => @Bool.rec (fun _ => Option (List Sc)) none (@Bool.rec (fun _ => Option (List Sc)) none (fillA place (ps.map fun q => (q.1, cellsOf (evo q.2 tm))) (overlay os.1 vs cells)) (Nat.ble (Nat.add os.1 os.2) cells.length)) (Nat.beq vs.length os.2)) (place q.1)) (cellsOf (evo q.2 tm)) = some l := hf
    cases h1 : cellsOf (evo q.2 tm) with
    | none => rw [h1] at hf; cases hf
    | some vs =>
      rw [h1] at hf
      simp only at hf
      cases h2 : place q.1 with
      | none => rw [h2] at hf; cases hf
      | some os =>
        rw [h2] at hf
        simp only at hf
        cases h3 : Nat.beq vs.length os.2 with
        | false => rw [h3] at hf; cases hf
        | true =>
          rw [h3] at hf
          simp only at hf
          cases h4 : Nat.ble (Nat.add os.1 os.2) cells.length with
          | false => rw [h4] at hf; cases hf
          | true =>
            rw [h4] at hf
            simp only at hf
            have h3 : vs.length = os.2 := Nat.eq_of_beq_eq_true h3
            have h4 : os.1 + os.2 ≤ cells.length := ble_t h4
            have hv := cellsOf_V hn (hq q (List.mem_cons_self ..)) h1
            have hvl : vs.length = (rc q.2).cells.size := hv.len.trans Array.length_toList
            have hcl : cells.length = arr.size := hc.len.trans Array.length_toList
            obtain ⟨arr', e1, e2⟩ := fill_V hn place ps _ l _ (fun q' hq' => hq q' (List.mem_cons_of_mem _ hq')) (overlay_V hc hv (by omega)) hf
            refine ⟨arr', ?_, e2⟩
            rw [List.map_cons]
            unfold Instr.fill
            obtain ⟨off, sz⟩ := os
            simp only at h3 h4 e1
            simp only [h2]
            rw [if_neg (by simp; omega)]
            have hfo := foldl_ovr (rc q.2).cells.toList 0 off arr
            rw [Nat.add_zero] at hfo
            rw [← Array.foldl_toList, Array.toList_zipIdx]
            rw [hfo]
            exact e1
theorem fp_some : ∀ {l : List (Nat × Nat)} {fp : List (Nat × Nat)}, fpL T l = some fp → fp = l.map (fun q => (q.1, szT T q.2)) ∧ ∀ q ∈ l, isK T q.2 0 = false
  | [], fp, h => by cases h; exact ⟨rfl, fun q hq => by cases hq⟩
  | q :: l, fp, h => by
    have h : @Bool.rec (fun _ => Option (List (Nat × Nat))) (@Option.rec _ (fun _ => Option (List (Nat × Nat))) none (fun m => some ((q.1, szT T q.2) :: m)) (fpL T l)) none (isK T q.2 0) = some fp := h
    cases h1 : isK T q.2 0 with
    | true => rw [h1] at h; cases h
    | false =>
      rw [h1] at h
      simp only at h
      cases h2 : fpL T l with
      | none => rw [h2] at h; cases h
      | some m =>
        rw [h2] at h
        cases h
        obtain ⟨e1, e2⟩ := fp_some h2
        refine ⟨by rw [List.map_cons, e1], fun q' hq' => ?_⟩
        rcases List.mem_cons.1 hq' with rfl | hq'
        · exact h1
        · exact e2 q' hq'
theorem run_mapM {α β : Type} {g : α → Sem β} {r : α → β} (P : Program) : ∀ (l : List α), (∀ a ∈ l, (g a).run P w = .ok (r a) w) → (l.mapM g).run P w = .ok (l.map r) w
  | [], _ => rfl
  | a :: l, h => by
    have ih := run_mapM (r := r) P l (fun b hb => h b (List.mem_cons_of_mem _ hb))
    rw [List.mapM_cons]
    simp only [Sem.run_bind, h a (List.mem_cons_self ..), Result.andThen_ok, ih, Sem.run_pure, List.map_cons]
theorem run_mapA {α β : Type} {g : α → Sem β} {r : α → β} (P : Program) (l : Array α) (h : ∀ a ∈ l.toList, (g a).run P w = .ok (r a) w) : (l.mapM g).run P w = .ok (l.map r) w := by
  rw [Array.mapM_eq_mapM_toList, Sem.run_map, run_mapM P l.toList h]
  simp only [Result.andThen_ok]
  congr 1
  exact Array.ext' (by simp)
theorem s_build {t : TypeId} {ps : Array (Nat × Operand)} {o : Oper} (ho : o.op = .build t ps) (hn : EnvOk env) (h : oBuild t ps T call tm s = .ok v s') (hp : ∀ q ∈ ps.toList, VA env ρ (evo q.2 tm) (rc q.2)) (hr : HR env ρ s.h w) : Dn T env ρ s s' w v ((execOp rc o).run T.P w) := by
  obtain ⟨z, hz, h⟩ := optm_ok h
  obtain ⟨i, u, hi, hu, hc, _⟩ := zeT_some hz
  have hzv : All2 (VS env ρ) z u.cells.toList := cellsOf_V hn (ofV_V u) hc
  have hpl : (ps.map fun (q : Nat × Operand) => (q.1, rc q.2)).toList = ps.toList.map fun q => (q.1, rc q.2) := by simp
  rcases iff_ok h with ⟨hk, h⟩ | ⟨hk, h⟩
  · obtain ⟨fp, hfp, h⟩ := optm_ok h
    obtain ⟨l, hl, h⟩ := optm_ok h
    cases h
    obtain ⟨fs, h1, h2⟩ := k3 hk
    unfold fpT at hfp
    rw [h2] at hfp
    obtain ⟨e1, e2⟩ := fp_some hfp
    have hm := run_mapA (w := w) (g := fun (f : Field) => (do pure (f.offset, ← sizeOf f.type) : Sem (Nat × Nat))) (r := fun f => (f.offset, szT T f.type)) T.P fs (fun f hf => by
      obtain ⟨i', hi', hsz, _⟩ := kAny (e2 (f.offset, f.type) (List.mem_map.2 ⟨f, hf, rfl⟩))
      simp [sizeOf, typeInfo, hi', hsz])
    obtain ⟨arr', q1, q2⟩ := fill_V hn (nth fp) ps.toList z l u.cells hp hzv hl
    have hpe : (fun (j : Nat) => (fs.map fun f => (f.offset, szT T f.type))[j]?) = nth fp := by
      funext j
      rw [nth_eq, e1, ← Array.getElem?_toList, Array.toList_map, List.map_map]
      rfl
    refine Dn.val (v' := .agg arr') hr ?_ ⟨arr', rfl, q2⟩ rfl rfl
    simp only [execOp, ho, Instr.build, Sem.run_bind, zeroValue, typeInfo, run_program, Result.andThen_ok, hi, Sem.run_pure, hu, run_underlying h1, hm]
    rw [hpe, hpl, q1]
    rfl
  · obtain ⟨hk, h⟩ := iff_no h
    obtain ⟨hz', h⟩ := iff_no h
    obtain ⟨l, hl, h⟩ := optm_ok h
    cases h
    obtain ⟨i', p1, p2, p3⟩ := ez_info hz'
    obtain ⟨arr', q1, q2⟩ := fill_V hn (placeA T t) ps.toList z l u.cells hp hzv hl
    refine Dn.val (v' := .agg arr') hr ?_ ⟨arr', rfl, q2⟩ rfl rfl
    have hpe : (fun (j : Nat) => some (j * i'.size, i'.size)) = placeA T t := by rw [p2]; rfl
    simp only [execOp, ho, Instr.build, Sem.run_bind, zeroValue, typeInfo, run_program, Result.andThen_ok, hi, Sem.run_pure, hu, run_underlying (k2 hk).1, sizeOf, p1]
    rw [hpe, hpl, q1]
    rfl
theorem repl_at (z : List Sc) (hz : 0 < z.length) : ∀ n, (repl z n).length = n * z.length ∧ ∀ j, j < n * z.length → (repl z n)[j]? = z[j % z.length]?
  | 0 => ⟨by show ([] : List Sc).length = _; simp, fun j hj => by omega⟩
  | n + 1 => by
    obtain ⟨h1, h2⟩ := repl_at z hz n
    have e : repl z (n + 1) = z ++ repl z n := rfl
    rw [e]
    refine ⟨by rw [List.length_append, h1, Nat.add_mul, Nat.one_mul, Nat.add_comm], fun j hj => ?_⟩
    rw [Nat.add_mul, Nat.one_mul] at hj
    by_cases hjz : j < z.length
    · rw [List.getElem?_append_left hjz, Nat.mod_eq_of_lt hjz]
    · rw [List.getElem?_append_right (by omega), h2 _ (by omega), ← Nat.mod_eq_sub_mod (by omega)]
theorem repl_V {z : List Sc} {arr : Array Value} (hz : All2 (VS env ρ) z arr.toList) (h0 : 0 < z.length) (n : Nat) : All2 (VS env ρ) (repl z n) ((Array.range (n * arr.size)).map (arr[· % arr.size]!)).toList := by
  have hl : z.length = arr.size := hz.len.trans Array.length_toList
  obtain ⟨h1, h2⟩ := repl_at z h0 n
  refine All2.of (by rw [h1, hl]; simp) fun j x u hx hu => ?_
  have hj : j < n * z.length := by rw [← h1]; exact (List.getElem?_eq_some_iff.1 hx).1
  rw [h2 j hj] at hx
  obtain ⟨u', e1, e2⟩ := hz.at hx
  rw [Array.getElem?_toList, Array.getElem?_map, Array.getElem?_range, if_pos (by rw [← hl]; exact hj)] at hu
  rw [Array.getElem?_toList, hl] at e1
  simp only [Option.map_some] at hu
  cases hu
  rw [getElem!_def, e1]
  exact e2
theorem s_buildSlice {t : TypeId} {len : Nat} {ps : Array (Nat × Operand)} {o : Oper} (ho : o.op = .buildSlice t len ps) (hn : EnvOk env) (h : oBuildSlice t len ps T call tm s = .ok v s') (hp : ∀ q ∈ ps.toList, VA env ρ (evo q.2 tm) (rc q.2)) (hr : HR env ρ s.h w) (hf : Free ρ s.nx s'.nx) : Dn T env ρ s s' w v ((execOp rc o).run T.P w) := by
  obtain ⟨hk, h⟩ := iff_no h
  obtain ⟨z, hz, h⟩ := optm_ok h
  obtain ⟨hb, h⟩ := iff_no h
  obtain ⟨l, hl, h⟩ := optm_ok h
  obtain ⟨hll, hx, h⟩ := newBlk_ok h
  cases h
  obtain ⟨g1, g2, g3⟩ := ezE_some hz
  obtain ⟨i, u, hi, hu, hc, g4, _⟩ := zeT_some g1
  have hzv : All2 (VS env ρ) z u.cells.toList := cellsOf_V hn (ofV_V u) hc
  have hus : z.length = u.cells.size := hzv.len.trans Array.length_toList
  have hb : len * z.length ≤ 16777216 := ble_t hb
  have hpl : (ps.map fun (q : Nat × Operand) => (q.1, rc q.2)).toList = ps.toList.map fun q => (q.1, rc q.2) := by simp
  have hsz : i.size = u.cells.size := by omega
  obtain ⟨arr', q1, q2⟩ := fill_V hn (placeA T t) ps.toList (repl z len) l _ hp (repl_V hzv g3 len) hl
  have hpe : (fun (j : Nat) => some (j * i.size, i.size)) = placeA T t := by rw [g4]; rfl
  have hal : l.length = arr'.size := q2.len.trans Array.length_toList
  have hrep : l.length = len * z.length := by
    have : ∀ (ps : List (Nat × Option (List Sc))) (c l : List Sc), fillA (placeA T t) ps c = some l → l.length = c.length := by
      intro ps
      induction ps with
      | nil => intro c l h; cases h; rfl
      | cons q ps ih =>
        intro c l h
        have h : @Option.rec _ (fun _ => Option (List Sc)) none (fun vs => @Bool.rec (fun _ => Option (List Sc)) none (@Bool.rec (fun _ => Option (List Sc)) none (fillA (placeA T t) ps (overlay (Nat.mul q.1 (ezT T t)) vs c)) (Nat.ble (Nat.add (Nat.mul q.1 (ezT T t)) (ezT T t)) c.length)) (Nat.beq vs.length (ezT T t))) q.2 = some l := h
        cases h1 : q.2 with
        | none => rw [h1] at h; cases h
        | some vs =>
          rw [h1] at h
          simp only at h
          cases h2 : Nat.beq vs.length (ezT T t) with
          | false => rw [h2] at h; cases h
          | true =>
            rw [h2] at h
            simp only at h
            cases h3 : Nat.ble (Nat.add (Nat.mul q.1 (ezT T t)) (ezT T t)) c.length with
            | false => rw [h3] at h; cases h
            | true =>
              rw [h3] at h
              simp only at h
              have h2 : vs.length = ezT T t := Nat.eq_of_beq_eq_true h2
              have h3 : q.1 * ezT T t + ezT T t ≤ c.length := ble_t h3
              have h4 := (overlay_at vs (q.1 * ezT T t) c (by omega)).1
              rw [ih _ _ h]
              exact h4
    rw [this _ _ _ hl, (repl_at z g3 len).1]
  refine ⟨.slice (some ⟨w.heap.size, 0, none⟩) len len, _, { w with heap := w.heap.push (.cells arr' (elT T t)) }, _, ?_, .inl rfl, ⟨_, _, len, upR_new _ _ _, rfl, Nat.le_refl _, ?_⟩, mk_blk hr hx (hf _ (Nat.le_refl _) (Nat.lt_succ_self _)) hll q2 rfl (push_low _ _)⟩
  · have h16 : ¬ (2 ^ 24 < len * i.size) := by rw [hsz, ← hus]; omega
    by_cases h0 : len * i.size = 0
    · have hl0 : len = 0 := by
        rcases Nat.mul_eq_zero.1 h0 with e | e
        · exact e
        · omega
      subst hl0
      have q1' : Instr.fill (placeA T t) #[] (ps.toList.map fun q => (q.1, rc q.2)) = some arr' := by rw [← q1]; congr 1; simp
      simp only [execOp, ho, Instr.buildSlice, Sem.run_bind, run_underlying (k1 hk), Result.andThen_ok, sizeOf, typeInfo, run_program, hi, Sem.run_pure]
      have hr0 : Array.range 0 = #[] := rfl
      simp [hpe, hpl, hr0, q1', newRow]
    · have q1' : Instr.fill (placeA T t) ((Array.range (len * i.size)).map (u.cells[· % u.cells.size]!)) (ps.toList.map fun q => (q.1, rc q.2)) = some arr' := by rw [hsz]; exact q1
      simp only [execOp, ho, Instr.buildSlice, Sem.run_bind, run_underlying (k1 hk), Result.andThen_ok, sizeOf, typeInfo, run_program, hi, Sem.run_pure]
      rw [if_neg h16, if_neg h0]
      simp only [zeroValue, typeInfo, Sem.run_bind, run_program, Result.andThen_ok, hi, hu, Sem.run_pure]
      rw [hpe, hpl, q1']
      simp [newRow]
  · show 0 + len * ezT T t ≤ arr'.size
    have : ezT T t = z.length := g2.symm
    rw [← hal, hrep, this]
    omega
theorem s_makeSlice {t : TypeId} {l c : Operand} {o : Oper} (ho : o.op = .makeSlice t l c) (hn : EnvOk env) (h : oMakeSlice t l c T call tm s = .ok v s') (hl : VA env ρ (evo l tm) (rc l)) (hc : VA env ρ (evo c tm) (rc c)) (hr : HR env ρ s.h w) (hf : Free ρ s.nx s'.nx) : Dn T env ρ s s' w v ((execOp rc o).run T.P w) := by
  obtain ⟨kl, a, e1, h⟩ := atN_ok h
  obtain ⟨kc, b, e2, h⟩ := atN_ok h
  rw [e1] at hl
  rw [e2] at hc
  have hl : rc l = .int kl (a : Nat) := hl
  have hc : rc c = .int kc (b : Nat) := hc
  obtain ⟨hk, h⟩ := iff_no h
  obtain ⟨h1, h⟩ := iff_no h
  obtain ⟨h2, h⟩ := iff_no h
  obtain ⟨z, hz, h⟩ := optm_ok h
  obtain ⟨hll, hx, h⟩ := newBlk_ok h
  cases h
  obtain ⟨g1, g2, g3⟩ := ezE_some hz
  obtain ⟨i, u, hi, hu, hcc, g4, g5⟩ := zeT_some g1
  have hzv : All2 (VS env ρ) z u.cells.toList := cellsOf_V hn (ofV_V u) hcc
  have hus : z.length = u.cells.size := hzv.len.trans Array.length_toList
  have hsz : i.size = u.cells.size := by omega
  have h1 : a ≤ b := ble_t h1
  have h2 : b ≤ limT T (elT T t) := ble_t h2
  have hbb : b ≤ 100000 ∧ b * i.bytes ≤ 10000000000 := by
    rcases Nat.eq_zero_or_pos b with e | e
    · rw [e]; omega
    · obtain ⟨_, _, p1, p2⟩ := limT_pos h2 e
      refine ⟨p1, ?_⟩
      rw [g5]
      exact Nat.mul_le_mul p1 p2
  have w1 : IntKind.i64.wrap (a : Int) = a := wrap_in (by omega) (by omega)
  have w2 : IntKind.i64.wrap (b : Int) = b := wrap_in (by omega) (by omega)
  have w3 : ¬ (281474976710656 < (i.bytes : Int) * (b : Int)) := by
    have := hbb.2
    rw [Nat.mul_comm] at this
    have : ((i.bytes * b : Nat) : Int) ≤ 10000000000 := by omega
    rw [Int.natCast_mul] at this
    omega
  have hv := repl_V hzv g3 b
  refine ⟨.slice (some ⟨w.heap.size, 0, none⟩) a b, _, { w with heap := w.heap.push (.cells ((Array.range (b * u.cells.size)).map (u.cells[· % u.cells.size]!)) (elT T t)) }, _, ?_, .inl rfl, ⟨_, _, b, upR_new _ _ _, rfl, h1, ?_⟩, mk_blk hr hx (hf _ (Nat.le_refl _) (Nat.lt_succ_self _)) hll hv rfl (push_low _ _)⟩
  · have w4 : ¬ ((a : Int) < 0) := by omega
    have w5 : ¬ ((a : Int) > (b : Int)) := by omega
    have w6 : ¬ ((b : Int) < 0) := by omega
    by_cases h0 : b * u.cells.size = 0
    · have hb0 : b = 0 := by
        rcases Nat.mul_eq_zero.1 h0 with e | e
        · exact e
        · omega
      subst hb0
      have ha0 : a = 0 := by omega
      subst ha0
      have w7 : IntKind.i64.wrap 0 = 0 := wrap_in (by omega) (by omega)
      have hr0 : Array.range 0 = #[] := rfl
      simp [execOp, ho, Instr.makeSlice, run_underlying (k1 hk), hl, hc, asInt, asIntOf, typeInfo, hi, w7, sizeOf, newRow, hr0]
      try rfl
    · simp [execOp, ho, Instr.makeSlice, run_underlying (k1 hk), hl, hc, asInt, asIntOf, typeInfo, hi, w1, w2, w3, w4, w5, w6, sizeOf, newRow, hsz, h0, zeroValue, hu]
  · show 0 + b * ezT T t ≤ _
    have : ezT T t = z.length := g2.symm
    simp [this, hus]
end
end Ev
end Go.Proofs.YtgfhddhkillchaaGreatDoor
