import Derived.Test.YtgfhddhkillchaaGreatDoorEvK
set_option linter.unusedVariables false
set_option linter.unusedSimpArgs false
namespace Go.Proofs.YtgfhddhkillchaaGreatDoor
namespace Ev
theorem arr1 {α : Type} {a : Array α} {x : α} (h : a.toList = [x]) : a = #[x] := Array.ext' h
theorem arr2 {α : Type} {a : Array α} {x y : α} (h : a.toList = [x, y]) : a = #[x, y] := Array.ext' h
structure Ok (T : Tab) (env : Nat → Value) : Prop where
  en : EnvOk env
  orc : OrcOk T env
  ouc : OucOk T env
section
variable {T : Tab} {env : Nat → Value} {ρ : Rh} {w : World} {tm : Tm} {call : Cal} {s s' : St} {v : AV} {rc : Operand → Value} {h : Hp}
theorem mem_pair {ps : Array (Nat × Operand)} {q : Nat × Operand} (h : q ∈ ps.toList) {l : List Operand} (hl : l = ps.toList.map (·.2)) : q.2 ∈ l := by rw [hl]; exact List.mem_map.2 ⟨q, h, rfl⟩
def isFn : Op → Bool
  | .call ⟨.value (.func _), _, _⟩ => true
  | _ => false
theorem op_sim (hk : Ok T env) {o : Oper} (hfn : isFn o.op = false) (h : evOp o.op T call tm s = .ok v s') (hx : ∀ x ∈ o.op.operands.toList, VA env ρ (evo x tm) (rc x)) (hr : HR env ρ s.h w) (hf : Free ρ s.nx s'.nx) : Dn T env ρ s s' w v ((execOp rc o).run T.P w) := by
  cases ho : o.op with
  | move x => rw [ho] at h hx; exact s_move (call := call) (.inl ho) h (hx x (by simp [Op.operands])) hr
  | assign x => rw [ho] at h hx; exact s_move (call := call) (.inr ho) h (hx x (by simp [Op.operands])) hr
  | pick c a b => rw [ho] at h hx; exact s_pick (call := call) ho h (hx c (by simp [Op.operands])) (hx a (by simp [Op.operands])) (hx b (by simp [Op.operands])) hr
  | alloc t => rw [ho] at h hx; exact s_alloc (call := call) (tm := tm) ho hk.en h hr hf
  | box t x => rw [ho] at h hx; exact s_box (call := call) ho hk.en h (hx x (by simp [Op.operands])) hr hf
  | build t ps => rw [ho] at h hx; exact s_build (call := call) ho hk.en h (fun q hq => hx q.2 (mem_pair hq (by simp [Op.operands]))) hr
  | buildSlice t n ps => rw [ho] at h hx; exact s_buildSlice (call := call) ho hk.en h (fun q hq => hx q.2 (mem_pair hq (by simp [Op.operands]))) hr hf
  | load t a => rw [ho] at h hx; exact s_load (call := call) ho h (hx a (by simp [Op.operands])) hr
  | store t a x => rw [ho] at h hx; exact s_store (call := call) ho hk.en h (hx a (by simp [Op.operands])) (hx x (by simp [Op.operands])) hr
  | nilCheck x => rw [ho] at h hx; exact s_nil (call := call) ho h (hx x (by simp [Op.operands])) hr
  | binOp op t x y t' => rw [ho] at h hx; exact s_bin (call := call) ho hk.orc h (hx x (by simp [Op.operands])) (hx y (by simp [Op.operands])) hr
  | unOp op t x => rw [ho] at h hx; exact s_un (call := call) ho hk.ouc h (hx x (by simp [Op.operands])) hr
  | convert a b x => rw [ho] at h hx; exact s_convert (call := call) ho hk.en h (hx x (by simp [Op.operands])) hr
  | makeSlice t l c => rw [ho] at h hx; exact s_makeSlice (call := call) ho hk.en h (hx l (by simp [Op.operands])) (hx c (by simp [Op.operands])) hr hf
  | slice t x lo hi mx => rw [ho] at h hx; exact s_slice (call := call) ho h (hx x (by simp [Op.operands])) (fun y hy => hx y (by simp [Op.operands, hy])) (fun y hy => hx y (by simp [Op.operands, hy])) hr
  | fieldAddr t x f => rw [ho] at h hx; exact s_fieldAddr (call := call) ho h (hx x (by simp [Op.operands])) hr
  | field t x f => rw [ho] at h hx; exact s_field (call := call) ho h (hx x (by simp [Op.operands])) hr
  | indexAddr t x i => rw [ho] at h hx; exact s_indexAddr (call := call) ho h (hx x (by simp [Op.operands])) (hx i (by simp [Op.operands])) hr
  | index t x i => rw [ho] at h hx; exact s_index (call := call) ho h (hx x (by simp [Op.operands])) (hx i (by simp [Op.operands])) hr
  | extract x k => rw [ho] at h hx; exact s_extract (call := call) ho h (hx x (by simp [Op.operands])) hr
  | call c =>
    rw [ho] at h hx hfn
    obtain ⟨callee, args, tys⟩ := c
    cases callee with
    | builtin bt =>
      have h : oBi bt args.toList tys.toList T call tm s = .ok v s' := h
      cases ea : args.toList with
      | nil => rw [ea] at h; cases tys.toList <;> exact no_ok h
      | cons x l =>
        rw [ea] at h
        cases l with
        | nil =>
          cases et : tys.toList with
          | nil => rw [et] at h; exact no_ok h
          | cons t lt =>
            rw [et] at h
            cases lt with
            | nil =>
              have ea := arr1 ea
              have et := arr1 et
              subst ea
              subst et
              cases bt with
              | len => exact s_len (call := call) (ty := #[]) ho h (hx x (by simp [Op.operands, Call.operands])) hr
              | _ => exact no_ok h
            | cons t2 lt => cases lt <;> exact no_ok h
        | cons x2 l =>
          cases l with
          | nil =>
            cases et : tys.toList with
            | nil => rw [et] at h; exact no_ok h
            | cons ts lt =>
              rw [et] at h
              cases lt with
              | nil => exact no_ok h
              | cons tx lt =>
                cases lt with
                | nil =>
                  have ea := arr2 ea
                  have et := arr2 et
                  subst ea
                  subst et
                  have hd := hx x (by simp [Op.operands, Call.operands])
                  have hx' := hx x2 (by simp [Op.operands, Call.operands])
                  cases bt with
                  | append =>
                    obtain ⟨h1, hA⟩ := iff_no h
                    obtain ⟨h2, hB⟩ := iff_no hA
                    obtain ⟨h3, hC⟩ := iff_no hB
                    exact s_append ho hk.en h1 h2 h3 hC hd hx' hr hf
                  | copy =>
                    obtain ⟨h1, hA⟩ := iff_no h
                    obtain ⟨h2, hB⟩ := iff_no hA
                    exact s_copy ho hk.en h1 h2 hB hd hx' hr
                  | _ => exact no_ok h
                | cons t3 lt => exact no_ok h
          | cons x3 l => cases tys.toList <;> exact no_ok h
    | invoke r m => exact no_ok h
    | value f =>
      cases f with
      | func f => cases hfn
      | _ => exact no_ok h
  | _ => rw [ho] at h; exact no_ok h
end
/-! an answer hangs on what was looked at alone -/
def Loc {α : Type} (m : M α) : Prop := ∀ s a s', m s = .ok a s' → s.nx ≤ 32768 → ∃ dr dw : Nat, s.nx ≤ s'.nx ∧ s'.nx ≤ 32768 ∧ (∀ i, dr.testBit i = true ∨ dw.testBit i = true → i < s'.nx) ∧ s'.rd = s.rd ||| dr ∧ s'.wr = s.wr ||| dw ∧
  (∀ i, i < 32768 → dw.testBit i = false → ¬ (s.nx ≤ i ∧ i < s'.nx) → get5 i s'.h = get5 i s.h) ∧
  ∀ t : St, t.nx = s.nx → (∀ i, i < 32768 → (dr.testBit i = true ∨ dw.testBit i = true ∨ (s.nx ≤ i ∧ i < s'.nx)) → get5 i t.h = get5 i s.h) →
    ∃ t', m t = .ok a t' ∧ t'.nx = s'.nx ∧ t'.rd = t.rd ||| dr ∧ t'.wr = t.wr ||| dw ∧ ∀ i, i < 32768 → get5 i t'.h = if dw.testBit i = true ∨ (s.nx ≤ i ∧ i < s'.nx) then get5 i s'.h else get5 i t.h
section
variable {α β : Type}
theorem loc_no (n : Nat) : Loc (no n : M α) := fun s a s' h => no_ok h
theorem zb (i : Nat) : ¬ (Nat.testBit 0 i = true) := by rw [Nat.zero_testBit]; exact fun h => by cases h
theorem loc_ret (b : α) : Loc (ret b) := fun s a s' h hs => by
  cases h
  refine ⟨0, 0, Nat.le_refl _, hs, fun i hi => absurd hi (not_or.2 ⟨zb i, zb i⟩), (Nat.or_zero _).symm, (Nat.or_zero _).symm, fun _ _ _ _ => rfl, fun t ht hg => ⟨t, rfl, ht, (Nat.or_zero _).symm, (Nat.or_zero _).symm, fun i hi => ?_⟩⟩
  rw [if_neg]
  rintro (h | h)
  · exact zb i h
  · omega
theorem loc_bnd {m : M α} {f : α → M β} (hm : Loc m) (hf : ∀ a, Loc (f a)) : Loc (bnd m f) := fun s b s2 h hs => by
  obtain ⟨a, s1, h1, h2⟩ := bnd_ok h
  obtain ⟨dr1, dw1, n1, m1, b1, r1, w1, k1, f1⟩ := hm s a s1 h1 hs
  obtain ⟨dr2, dw2, n2, m2, b2, r2, w2, k2, f2⟩ := hf a s1 b s2 h2 m1
  refine ⟨dr1 ||| dr2, dw1 ||| dw2, Nat.le_trans n1 n2, m2, fun i hi => ?_, by rw [r2, r1, Nat.or_assoc], by rw [w2, w1, Nat.or_assoc], fun i hi hw hn => ?_, fun t ht hg => ?_⟩
  · rw [Nat.testBit_or, Nat.testBit_or, Bool.or_eq_true, Bool.or_eq_true] at hi
    rcases hi with (hi | hi) | (hi | hi)
    · exact Nat.lt_of_lt_of_le (b1 i (.inl hi)) n2
    · exact b2 i (.inl hi)
    · exact Nat.lt_of_lt_of_le (b1 i (.inr hi)) n2
    · exact b2 i (.inr hi)
  · rw [Nat.testBit_or, Bool.or_eq_false_iff] at hw
    rw [k2 i hi hw.2 (by omega), k1 i hi hw.1 (by omega)]
  · obtain ⟨t1, e1, e2, e3, e4, e5⟩ := f1 t ht (fun i hi hd => hg i hi (by
      rw [Nat.testBit_or, Nat.testBit_or]
      rcases hd with hd | hd | hd
      · exact .inl (by rw [hd]; rfl)
      · exact .inr (.inl (by rw [hd]; rfl))
      · exact .inr (.inr ⟨hd.1, by omega⟩)))
    obtain ⟨t2, g1, g2, g3, g4, g5⟩ := f2 t1 e2 (fun i hi hd => by
      rw [e5 i hi]
      split
      · rfl
      · rename_i hn
        rw [k1 i hi (Bool.eq_false_iff.2 fun e => hn (.inl e)) (fun e => hn (.inr e))]
        refine hg i hi ?_
        rw [Nat.testBit_or, Nat.testBit_or]
        rcases hd with hd | hd | hd
        · exact .inl (by rw [hd, Bool.or_true])
        · exact .inr (.inl (by rw [hd, Bool.or_true]))
        · exact .inr (.inr ⟨by omega, hd.2⟩))
    refine ⟨t2, by unfold bnd; rw [e1]; exact g1, g2, by rw [g3, e3, Nat.or_assoc], by rw [g4, e4, Nat.or_assoc], fun i hi => ?_⟩
    rw [g5 i hi, e5 i hi, Nat.testBit_or]
    by_cases hw2 : dw2.testBit i = true ∨ (s1.nx ≤ i ∧ i < s2.nx)
    · rw [if_pos hw2, if_pos (hw2.elim (fun e => .inl (by rw [e, Bool.or_true])) (fun e => .inr ⟨by omega, e.2⟩))]
    · rw [if_neg hw2]
      have hk2 := k2 i hi (Bool.eq_false_iff.2 fun e => hw2 (.inl e)) (fun e => hw2 (.inr e))
      by_cases hw1 : dw1.testBit i = true ∨ (s.nx ≤ i ∧ i < s1.nx)
      · rw [if_pos hw1, if_pos (hw1.elim (fun e => .inl (by rw [e, Bool.true_or])) (fun e => .inr ⟨e.1, by omega⟩)), hk2]
      · rw [if_neg hw1, if_neg]
        rintro (e | e)
        · rw [Bool.or_eq_true] at e
          exact e.elim (fun e => hw1 (.inl e)) (fun e => hw2 (.inl e))
        · by_cases hi' : i < s1.nx
          · exact hw1 (.inr ⟨e.1, hi'⟩)
          · exact hw2 (.inr ⟨by omega, e.2⟩)
theorem bit_test (id i : Nat) : (bit id).testBit i = decide (i = id) := by
  show (1 <<< id).testBit i = _
  rw [Nat.one_shiftLeft, Nat.testBit_two_pow]
  exact decide_eq_decide.2 eq_comm
theorem look_bnd (id : Nat) (K : Bk → M α) : look id K = bnd (look id ret) K := by
  funext s
  cases s with
  | mk h nx rd wr =>
    show @Bool.rec (fun _ => R α) (.no 1) (K (get5 id h) ⟨h, nx, Nat.lor rd (bit id), wr⟩) (Nat.blt id nx) = @R.rec Bk (fun _ => R α) K R.no (@Bool.rec (fun _ => R Bk) (.no 1) (.ok (get5 id h) ⟨h, nx, Nat.lor rd (bit id), wr⟩) (Nat.blt id nx))
    cases Nat.blt id nx <;> rfl
theorem look_run {id : Nat} (s : St) (hid : id < s.nx) : look id ret s = .ok (get5 id s.h) ⟨s.h, s.nx, s.rd ||| bit id, s.wr⟩ := by
  cases s with
  | mk h nx rd wr =>
    show @Bool.rec (fun _ => R Bk) (.no 1) (.ok (get5 id h) ⟨h, nx, Nat.lor rd (bit id), wr⟩) (Nat.blt id nx) = _
    rw [show Nat.blt id nx = true from Nat.ble_eq_true_of_le hid]
    rfl
theorem loc_look {id : Nat} {K : Bk → M α} (hK : ∀ B, Loc (K B)) : Loc (look id K) := by
  rw [look_bnd]
  refine loc_bnd (fun s a s' h hs => ?_) hK
  obtain ⟨hid, h⟩ := look_ok' h
  cases h
  refine ⟨bit id, 0, Nat.le_refl _, hs, fun i hi => ?_, rfl, (Nat.or_zero _).symm, fun _ _ _ _ => rfl, fun t ht hg => ⟨⟨t.h, t.nx, t.rd ||| bit id, t.wr⟩, ?_, ht, rfl, (Nat.or_zero _).symm, fun i hi => ?_⟩⟩
  · rcases hi with hi | hi
    · rw [bit_test] at hi; rw [of_decide_eq_true hi]; exact hid
    · exact absurd hi (zb i)
  · rw [look_run t (by omega), hg id (by omega) (.inl (by rw [bit_test]; exact decide_eq_true rfl))]
  · rw [if_neg]
    rintro (h | h)
    · exact zb i h
    · have := h.1; have := h.2; simp only at *; omega
theorem put_bnd (id : Nat) (b : Bk) (K : M α) : put id b K = bnd (put id b (ret ())) fun _ => K := by
  funext s
  cases s with
  | mk h nx rd wr =>
    show @Bool.rec (fun _ => R α) (.no 1) (@Bool.rec (fun _ => R α) (.no 1) (set5 id b h fun h => K ⟨h, nx, rd, Nat.lor wr (bit id)⟩) (Nat.blt id nx)) (Nat.ble 8 id) = @R.rec Unit (fun _ => R α) (fun _ => K) R.no (@Bool.rec (fun _ => R Unit) (.no 1) (@Bool.rec (fun _ => R Unit) (.no 1) (set5 id b h fun h => .ok () ⟨h, nx, rd, Nat.lor wr (bit id)⟩) (Nat.blt id nx)) (Nat.ble 8 id))
    cases Nat.ble 8 id with
    | false => rfl
    | true =>
     show @Bool.rec (fun _ => R α) (.no 1) (set5 id b h fun h => K ⟨h, nx, rd, Nat.lor wr (bit id)⟩) (Nat.blt id nx) = @R.rec Unit (fun _ => R α) (fun _ => K) R.no (@Bool.rec (fun _ => R Unit) (.no 1) (set5 id b h fun h => .ok () ⟨h, nx, rd, Nat.lor wr (bit id)⟩) (Nat.blt id nx))
     cases Nat.blt id nx with
     | false => rfl
     | true =>
      show (set5 id b h fun h => K ⟨h, nx, rd, Nat.lor wr (bit id)⟩) = @R.rec Unit (fun _ => R α) (fun _ => K) R.no (set5 id b h fun h => .ok () ⟨h, nx, rd, Nat.lor wr (bit id)⟩)
      rw [l5.1, l5.1 (K := fun h => R.ok () ⟨h, nx, rd, Nat.lor wr (bit id)⟩)]
theorem put_run {id : Nat} (b : Bk) (s : St) (h8 : 8 ≤ id) (hid : id < s.nx) : put id b (ret ()) s = .ok () ⟨hset s.h id b, s.nx, s.rd, s.wr ||| bit id⟩ := by
  cases s with
  | mk h nx rd wr =>
    show @Bool.rec (fun _ => R Unit) (.no 1) (@Bool.rec (fun _ => R Unit) (.no 1) (set5 id b h fun h => .ok () ⟨h, nx, rd, Nat.lor wr (bit id)⟩) (Nat.blt id nx)) (Nat.ble 8 id) = _
    rw [Nat.ble_eq_true_of_le h8, show Nat.blt id nx = true from Nat.ble_eq_true_of_le hid]
    show (set5 id b h fun h => R.ok () ⟨h, nx, rd, Nat.lor wr (bit id)⟩) = _
    rw [l5.1]
    rfl
theorem loc_put {id : Nat} {b : Bk} {K : M α} (hK : Loc K) : Loc (put id b K) := by
  rw [put_bnd]
  refine loc_bnd (fun s a s' h hs => ?_) fun _ => hK
  obtain ⟨h8, hid, h⟩ := put_ok' h
  cases h
  have hid' : id < 32768 := by omega
  refine ⟨0, bit id, Nat.le_refl _, hs, fun i hi => ?_, (Nat.or_zero _).symm, rfl, fun i hi hw _ => ?_, fun t ht hg => ⟨_, put_run b t h8 (by omega), ht, (Nat.or_zero _).symm, rfl, fun i hi => ?_⟩⟩
  · rcases hi with hi | hi
    · exact absurd hi (zb i)
    · rw [bit_test] at hi; rw [of_decide_eq_true hi]; exact hid
  · rw [bit_test] at hw
    rw [get_hset hi hid', if_neg (of_decide_eq_false hw)]
  · show get5 i (hset t.h id b) = _
    rw [get_hset hi hid', bit_test]
    by_cases e : i = id
    · rw [if_pos e, if_pos (.inl (decide_eq_true e)), get_hset hi hid', if_pos e]
    · rw [if_neg e, if_neg]
      rintro (h | h)
      · exact e (of_decide_eq_true h)
      · have := h.1; have := h.2; simp only at *; omega
theorem fresh_bnd (b : Bk) (K : Nat → M α) : fresh b K = bnd (fresh b ret) K := by
  funext s
  cases s with
  | mk h nx rd wr =>
    show @Bool.rec (fun _ => R α) (.no 2) (set5 nx b h fun h => K nx ⟨h, Nat.succ nx, rd, wr⟩) (Nat.blt nx 32768) = @R.rec Nat (fun _ => R α) K R.no (@Bool.rec (fun _ => R Nat) (.no 2) (set5 nx b h fun h => .ok nx ⟨h, Nat.succ nx, rd, wr⟩) (Nat.blt nx 32768))
    cases Nat.blt nx 32768 with
    | false => rfl
    | true =>
      show (set5 nx b h fun h => K nx ⟨h, Nat.succ nx, rd, wr⟩) = @R.rec Nat (fun _ => R α) K R.no (set5 nx b h fun h => .ok nx ⟨h, Nat.succ nx, rd, wr⟩)
      rw [l5.1, l5.1 (K := fun h => R.ok nx ⟨h, Nat.succ nx, rd, wr⟩)]
theorem fresh_run (b : Bk) (s : St) (hx : s.nx < 32768) : fresh b ret s = .ok s.nx ⟨hset s.h s.nx b, s.nx + 1, s.rd, s.wr⟩ := by
  cases s with
  | mk h nx rd wr =>
    show @Bool.rec (fun _ => R Nat) (.no 2) (set5 nx b h fun h => .ok nx ⟨h, Nat.succ nx, rd, wr⟩) (Nat.blt nx 32768) = _
    rw [show Nat.blt nx 32768 = true from Nat.ble_eq_true_of_le hx]
    show (set5 nx b h fun h => R.ok nx ⟨h, Nat.succ nx, rd, wr⟩) = _
    rw [l5.1]
    rfl
theorem loc_fresh {b : Bk} {K : Nat → M α} (hK : ∀ n, Loc (K n)) : Loc (fresh b K) := by
  rw [fresh_bnd]
  refine loc_bnd (fun s a s' h hs => ?_) hK
  obtain ⟨hx, h⟩ := fresh_ok h
  cases h
  refine ⟨0, 0, Nat.le_succ _, hx, fun i hi => absurd hi (not_or.2 ⟨zb i, zb i⟩), (Nat.or_zero _).symm, (Nat.or_zero _).symm, fun i hi _ hn => ?_, fun t ht hg => ⟨⟨hset t.h s.nx b, s.nx + 1, t.rd, t.wr⟩, by rw [fresh_run b t (by omega), ht], rfl, (Nat.or_zero _).symm, (Nat.or_zero _).symm, fun i hi => ?_⟩⟩
  · simp only at hn
    rw [get_hset hi hx, if_neg (by omega)]
  · show get5 i (hset t.h s.nx b) = _
    rw [get_hset hi hx]
    by_cases e : i = s.nx
    · rw [if_pos e, if_pos (.inr ⟨by omega, by simp only; omega⟩), get_hset hi hx, if_pos e]
    · rw [if_neg e, if_neg]
      rintro (h | h)
      · exact zb i h
      · have := h.1; have := h.2; simp only at *; omega
theorem loc_newBlk {l : List Sc} {K : Nat → M α} (hK : ∀ n, Loc (K n)) : Loc (newBlk l K) := by
  unfold newBlk
  cases Nat.ble l.length 4096
  · exact loc_no _
  · exact loc_fresh hK
theorem loc_optm {n : Nat} {o : Option β} {f : β → M α} (hf : ∀ x, Loc (f x)) : Loc (optm n o f) := by
  cases o
  · exact loc_no _
  · exact hf _
theorem loc_iff {c : Bool} {m n : M α} (hm : Loc m) (hn : Loc n) : Loc (iff c m n) := by
  cases c
  · exact hn
  · exact hm
theorem loc_brec {c : Bool} {m n : M α} (hm : Loc m) (hn : Loc n) : Loc (@Bool.rec (fun _ => M α) m n c) := by
  cases c
  · exact hm
  · exact hn
theorem loc_orec {o : Option β} {m : M α} {f : β → M α} (hm : Loc m) (hf : ∀ b, Loc (f b)) : Loc (@Option.rec β (fun _ => M α) m f o) := by
  cases o
  · exact hm
  · exact hf _
theorem loc_nrec {n : Nat} {m : M α} {f : Nat → M α} (hm : Loc m) (hf : ∀ k, Loc (f k)) : Loc (@Nat.rec (fun _ => M α) m (fun k _ => f k) n) := by
  cases n
  · exact hm
  · exact hf _
theorem loc_avC {n : Nat} {v : AV} {f : Sc → M α} (hf : ∀ x, Loc (f x)) : Loc (avC n v f) := by
  cases v
  case c => exact hf _
  all_goals exact loc_no _
theorem loc_avA {n : Nat} {v : AV} {f : List Sc → M α} (hf : ∀ x, Loc (f x)) : Loc (avA n v f) := by
  cases v
  case ag => exact hf _
  all_goals exact loc_no _
theorem loc_scP {n : Nat} {v : Sc} {f : Nat → Nat → M α} (hf : ∀ x y, Loc (f x y)) : Loc (scP n v f) := by
  cases v
  case p => exact hf _ _
  all_goals exact loc_no _
theorem loc_scI {n : Nat} {v : Sc} {f : IntKind → Int → M α} (hf : ∀ x y, Loc (f x y)) : Loc (scI n v f) := by
  cases v
  case i => exact hf _ _
  all_goals exact loc_no _
theorem loc_scB {n : Nat} {v : Sc} {f : Bool → M α} (hf : ∀ x, Loc (f x)) : Loc (scB n v f) := by
  cases v
  case b => exact hf _
  all_goals exact loc_no _
theorem loc_scS {n : Nat} {v : Sc} {f : List Nat → M α} (hf : ∀ x, Loc (f x)) : Loc (scS n v f) := by
  cases v
  case s => exact hf _
  all_goals exact loc_no _
theorem loc_scL {n : Nat} {v : Sc} {f : Nat → Nat → Nat → Nat → M α} {z : M α} (hf : ∀ a b c d, Loc (f a b c d)) (hz : Loc z) : Loc (scL n v f z) := by
  cases v
  case sl => exact hf _ _ _ _
  case sn => exact hz
  case se => exact hz
  all_goals exact loc_no _
theorem loc_intN {n : Nat} {z : Int} {f : Nat → M α} (hf : ∀ x, Loc (f x)) : Loc (intN n z f) := by
  cases z
  · exact hf _
  · exact loc_no _
theorem loc_atP {n : Nat} {x : Operand} {tm : Tm} {f : Nat → Nat → M AV} (hf : ∀ a b, Loc (f a b)) : Loc (atP n x tm f) := loc_avC fun _ => loc_scP hf
theorem loc_atN {n : Nat} {x : Operand} {tm : Tm} {f : Nat → M AV} (hf : ∀ a, Loc (f a)) : Loc (atN n x tm f) := loc_avC fun _ => loc_scI fun _ _ => loc_intN hf
theorem loc_storeF {l : List Sc} {off : Nat} {t : Cl} {K : Cl → M α} (hK : ∀ t, Loc (K t)) : Loc (storeF l off t K) := by rw [storeF_K]; exact hK _
theorem loc_rowOf {v : Sc} {sz : Nat} {K : Nat → List Sc → M α} (hK : ∀ n l, Loc (K n l)) : Loc (rowOf v sz K) := by
  cases v
  case s l => exact loc_iff (hK _ _) (loc_no _)
  case sl b off len s => exact loc_iff (loc_nrec (hK _ _) fun m => loc_look fun B => loc_iff (hK _ _) (loc_no _)) (loc_no _)
  case sn => exact hK _ _
  case se => exact hK _ _
  all_goals exact loc_no _
theorem loc_retC (x : Sc) : Loc (retC x) := loc_ret _
end
end Ev
end Go.Proofs.YtgfhddhkillchaaGreatDoor
