import Derived.Test.YtgfhddhkillchaaGreatDoorEvA
set_option linter.unusedVariables false
namespace Go.Proofs.YtgfhddhkillchaaGreatDoor
namespace Ev
section
variable {α β : Type}
theorem upd_K (i : Nat) (v : α) (K : N8 α → β) (t : N8 α) : upd i v K t = K (upd i v id t) := by
  obtain ⟨c0, c1, c2, c3, c4, c5, c6, c7⟩ := t
  rcases i with _ | _ | _ | _ | _ | _ | _ | i <;> rfl
theorem sel_upd {i j : Nat} (hi : i < 8) (hj : j < 8) (v : α) (t : N8 α) : sel j (upd i v id t) = if j = i then v else sel j t := by
  obtain ⟨c0, c1, c2, c3, c4, c5, c6, c7⟩ := t
  rcases i with _ | _ | _ | _ | _ | _ | _ | _ | i <;> rcases j with _ | _ | _ | _ | _ | _ | _ | _ | j <;> first | rfl | omega
theorem lvl {τ : Type} {g : Nat → τ → α} {st : ∀ {β : Type}, Nat → α → τ → (τ → β) → β} {m : Nat} (hm : 0 < m) (hK : ∀ {β : Type} (k : Nat) (v : α) (t : τ) (K : τ → β), st k v t K = K (st k v t id)) (hg : ∀ (j k : Nat) (v : α) (t : τ), j < m → k < m → g j (st k v t id) = if j = k then v else g j t) :
    (∀ {β : Type} (k : Nat) (v : α) (t : N8 τ) (K : N8 τ → β), st (k % m) v (sel (k / m) t) (fun c => upd (k / m) c K t) = K (st (k % m) v (sel (k / m) t) (fun c => upd (k / m) c id t))) ∧
    (∀ (j k : Nat) (v : α) (t : N8 τ), j < 8 * m → k < 8 * m → g (j % m) (sel (j / m) (st (k % m) v (sel (k / m) t) (fun c => upd (k / m) c id t))) = if j = k then v else g (j % m) (sel (j / m) t)) := by
  refine ⟨fun k v t K => ?_, fun j k v t hj hk => ?_⟩
  · rw [hK, hK (K := fun c => upd (k / m) c id t), upd_K]
  · rw [hK (K := fun c => upd (k / m) c id t)]
    have h1 : j / m < 8 := Nat.div_lt_of_lt_mul (by rw [Nat.mul_comm]; exact hj)
    have h2 : k / m < 8 := Nat.div_lt_of_lt_mul (by rw [Nat.mul_comm]; exact hk)
    rw [sel_upd h2 h1]
    by_cases hd : j / m = k / m
    · rw [if_pos hd, hg _ _ _ _ (Nat.mod_lt _ hm) (Nat.mod_lt _ hm)]
      by_cases hq : j % m = k % m
      · have : j = k := by rw [← Nat.div_add_mod j m, ← Nat.div_add_mod k m, hd, hq]
        rw [if_pos hq, if_pos this]
      · rw [if_neg hq, if_neg (fun e => hq (by rw [e])), hd]
    · rw [if_neg hd, if_neg (fun e => hd (by rw [e]))]
theorem l1 : (∀ {β : Type} (k : Nat) (v : α) (t : N8 α) (K : N8 α → β), set1 k v t K = K (set1 k v t id)) ∧ (∀ (j k : Nat) (v : α) (t : N8 α), j < 8 → k < 8 → get1 j (set1 k v t id) = if j = k then v else get1 j t) :=
  ⟨fun k v t K => upd_K k v K t, fun j k v t hj hk => sel_upd hk hj v t⟩
theorem l2 : (∀ {β : Type} (k : Nat) (v : α) (t : N8 (N8 α)) (K : N8 (N8 α) → β), set2 k v t K = K (set2 k v t id)) ∧ (∀ (j k : Nat) (v : α) (t : N8 (N8 α)), j < 64 → k < 64 → get2 j (set2 k v t id) = if j = k then v else get2 j t) :=
  lvl (g := get1) (st := set1) (m := 8) (by decide) l1.1 l1.2
theorem l3 : (∀ {β : Type} (k : Nat) (v : α) (t : N8 (N8 (N8 α))) (K : N8 (N8 (N8 α)) → β), set3 k v t K = K (set3 k v t id)) ∧ (∀ (j k : Nat) (v : α) (t : N8 (N8 (N8 α))), j < 512 → k < 512 → get3 j (set3 k v t id) = if j = k then v else get3 j t) :=
  lvl (g := get2) (st := set2) (m := 64) (by decide) l2.1 l2.2
theorem l4 : (∀ {β : Type} (k : Nat) (v : α) (t : N8 (N8 (N8 (N8 α)))) (K : N8 (N8 (N8 (N8 α))) → β), set4 k v t K = K (set4 k v t id)) ∧ (∀ (j k : Nat) (v : α) (t : N8 (N8 (N8 (N8 α)))), j < 4096 → k < 4096 → get4 j (set4 k v t id) = if j = k then v else get4 j t) :=
  lvl (g := get3) (st := set3) (m := 512) (by decide) l3.1 l3.2
theorem l5 : (∀ {β : Type} (k : Nat) (v : α) (t : N8 (N8 (N8 (N8 (N8 α))))) (K : N8 (N8 (N8 (N8 (N8 α)))) → β), set5 k v t K = K (set5 k v t id)) ∧ (∀ (j k : Nat) (v : α) (t : N8 (N8 (N8 (N8 (N8 α))))), j < 32768 → k < 32768 → get5 j (set5 k v t id) = if j = k then v else get5 j t) :=
  lvl (g := get4) (st := set4) (m := 4096) (by decide) l4.1 l4.2
theorem sel_all (j : Nat) (a : α) : sel j (all8 a) = a := by rcases j with _ | _ | _ | _ | _ | _ | _ | j <;> rfl
theorem full3_get (j : Nat) (a : α) : get3 j (full3 a) = a := by
  unfold get3 get2 get1 full3 full2; rw [sel_all, sel_all, sel_all]
theorem full5_get (j : Nat) (a : α) : get5 j (full5 a) = a := by
  unfold get5 get4 get3 get2 get1 full5 full4 full3 full2; rw [sel_all, sel_all, sel_all, sel_all, sel_all]
/-! lists as cells -/
theorem drp_eq (n : Nat) : ∀ l : List α, drp n l = l.drop n := by
  induction n with
  | zero => intro l; rfl
  | succ n ih =>
    intro l
    show drp n l.tail = _
    rw [ih]
    cases l <;> simp
theorem headOr_eq (l : List α) (a : α) : headOr l a = l.headD a := by cases l <;> rfl
theorem at_drop (l : List α) (z : α) (j : Nat) : headOr (drp j l) z = l.getD j z := by
  rw [drp_eq, headOr_eq, List.getD_eq_getElem?_getD, List.headD_eq_head?_getD, List.head?_drop]
theorem drp_drp (i j : Nat) (l : List α) : drp i (drp j l) = drp (j + i) l := by rw [drp_eq, drp_eq, drp_eq, List.drop_drop]
theorem ofL1_get {j : Nat} (hj : j < 8) (z : α) (l : List α) : get1 j (ofL1 z l) = l.getD j z := by
  rw [← at_drop]
  rcases j with _ | _ | _ | _ | _ | _ | _ | _ | j <;> first | rfl | omega
theorem sel_of {τ : Type} (f : Nat → τ) {j : Nat} (hj : j < 8) : sel j ⟨f 0, f 1, f 2, f 3, f 4, f 5, f 6, f 7⟩ = f j := by
  rcases j with _ | _ | _ | _ | _ | _ | _ | _ | j <;> first | rfl | omega
theorem ofL2_get {j : Nat} (hj : j < 64) (z : α) (l : List α) : get2 j (ofL2 z l) = l.getD j z := by
  show get1 (j % 8) (sel (j / 8) (ofL2 z l)) = _
  have h : sel (j / 8) (ofL2 z l) = ofL1 z (drp (8 * (j / 8)) l) := sel_of (fun i => ofL1 z (drp (8 * i) l)) (by omega)
  rw [h, ofL1_get (by omega), ← at_drop, drp_drp, at_drop, Nat.div_add_mod]
theorem ofL3_get {j : Nat} (hj : j < 512) (z : α) (l : List α) : get3 j (ofL3 z l) = l.getD j z := by
  show get2 (j % 64) (sel (j / 64) (ofL3 z l)) = _
  have h : sel (j / 64) (ofL3 z l) = ofL2 z (drp (64 * (j / 64)) l) := sel_of (fun i => ofL2 z (drp (64 * i) l)) (by omega)
  rw [h, ofL2_get (by omega), ← at_drop, drp_drp, at_drop, Nat.div_add_mod]
theorem ofL4_get {j : Nat} (hj : j < 4096) (z : α) (l : List α) : get4 j (ofL4 z l) = l.getD j z := by
  show get3 (j % 512) (sel (j / 512) (ofL4 z l)) = _
  have h : sel (j / 512) (ofL4 z l) = ofL3 z (drp (512 * (j / 512)) l) := sel_of (fun i => ofL3 z (drp (512 * i) l)) (by omega)
  rw [h, ofL3_get (by omega), ← at_drop, drp_drp, at_drop, Nat.div_add_mod]
end
/-! a block's cells -/
section
variable {β : Type}
theorem Cl.set_K (k : Nat) (v : Sc) (c : Cl) (K : Cl → β) : c.set k v K = K (c.set k v id) := by
  cases c with
  | c0 => rfl
  | c1 t => exact (l1.1 k v t _).trans (congrArg K (l1.1 k v t _).symm)
  | c2 t => exact (l2.1 k v t _).trans (congrArg K (l2.1 k v t _).symm)
  | c3 t => exact (l3.1 k v t _).trans (congrArg K (l3.1 k v t _).symm)
  | c4 t => exact (l4.1 k v t _).trans (congrArg K (l4.1 k v t _).symm)
theorem Cl.set_room (k : Nat) (v : Sc) (c : Cl) : (c.set k v id).room = c.room := by
  cases c with
  | c0 => rfl
  | c1 t => show (set1 k v t (fun t => Cl.c1 t)).room = _; rw [l1.1]; rfl
  | c2 t => show (set2 k v t (fun t => Cl.c2 t)).room = _; rw [l2.1]; rfl
  | c3 t => show (set3 k v t (fun t => Cl.c3 t)).room = _; rw [l3.1]; rfl
  | c4 t => show (set4 k v t (fun t => Cl.c4 t)).room = _; rw [l4.1]; rfl
theorem Cl.get_set {j k : Nat} (v : Sc) (c : Cl) (hj : j < c.room) (hk : k < c.room) : (c.set k v id).get j = if j = k then v else c.get j := by
  cases c with
  | c0 => exact absurd hj (Nat.not_lt_zero _)
  | c1 t => exact (congrArg (Cl.get j) (l1.1 k v t _)).trans (l1.2 j k v t hj hk)
  | c2 t => exact (congrArg (Cl.get j) (l2.1 k v t _)).trans (l2.2 j k v t hj hk)
  | c3 t => exact (congrArg (Cl.get j) (l3.1 k v t _)).trans (l3.2 j k v t hj hk)
  | c4 t => exact (congrArg (Cl.get j) (l4.1 k v t _)).trans (l4.2 j k v t hj hk)
theorem storeF_K (l : List Sc) : ∀ (off : Nat) (t : Cl) (K : Cl → β), storeF l off t K = K (storeF l off t id) := by
  induction l with
  | nil => intro off t K; rfl
  | cons v l ih =>
    intro off t K
    show t.set off v (fun t => storeF l (off + 1) t K) = K (t.set off v (fun t => storeF l (off + 1) t id))
    rw [Cl.set_K, ih, Cl.set_K (K := fun t => storeF l (off + 1) t id)]
theorem storeF_cons (v : Sc) (l : List Sc) (off : Nat) (t : Cl) : storeF (v :: l) off t id = storeF l (off + 1) (t.set off v id) id := by
  show t.set off v (fun t => storeF l (off + 1) t id) = _
  rw [Cl.set_K]
theorem storeF_room (l : List Sc) : ∀ (off : Nat) (t : Cl), (storeF l off t id).room = t.room := by
  induction l with
  | nil => intro off t; rfl
  | cons v l ih => intro off t; rw [storeF_cons, ih, Cl.set_room]
theorem storeF_get (l : List Sc) : ∀ (off : Nat) (t : Cl) {j : Nat}, j < t.room → off + l.length ≤ t.room → (storeF l off t id).get j = if off ≤ j ∧ j < off + l.length then l.getD (j - off) .se else t.get j := by
  induction l with
  | nil => intro off t j hj hl; rw [if_neg (by simp only [List.length_nil]; omega)]; rfl
  | cons v l ih =>
    intro off t j hj hl
    rw [List.length_cons] at hl ⊢
    rw [storeF_cons, ih (off + 1) (t.set off v id) (by rw [Cl.set_room]; exact hj) (by rw [Cl.set_room]; omega)]
    by_cases h1 : off + 1 ≤ j ∧ j < off + 1 + l.length
    · rw [if_pos h1, if_pos (by omega), show j - off = (j - (off + 1)) + 1 by omega, List.getD_cons_succ]
    · rw [if_neg h1, Cl.get_set v t hj (by omega)]
      by_cases h2 : j = off
      · rw [if_pos h2, if_pos (by omega), h2, Nat.sub_self, List.getD_cons_zero]
      · rw [if_neg h2, if_neg (by omega)]
theorem ofC_room (n : Nat) (l : List Sc) : 0 < (ofC n l).room ∧ (n ≤ 4096 → n ≤ (ofC n l).room) := by
  unfold ofC
  cases h1 : Nat.ble n 8 with
  | true => exact ⟨show 0 < 8 by omega, fun _ => show n ≤ 8 from Nat.le_of_ble_eq_true h1⟩
  | false =>
    cases h2 : Nat.ble n 64 with
    | true => exact ⟨show 0 < 64 by omega, fun _ => show n ≤ 64 from Nat.le_of_ble_eq_true h2⟩
    | false =>
      cases h3 : Nat.ble n 512 with
      | true => exact ⟨show 0 < 512 by omega, fun _ => show n ≤ 512 from Nat.le_of_ble_eq_true h3⟩
      | false => exact ⟨show 0 < 4096 by omega, fun h => h⟩
theorem ofC_get {n j : Nat} (l : List Sc) (hj : j < n) (hn : n ≤ 4096) : (ofC n l).get j = l.getD j .se := by
  unfold ofC
  cases h1 : Nat.ble n 8 with
  | true => have := Nat.le_of_ble_eq_true h1; exact ofL1_get (j := j) (by omega) .se l
  | false =>
    cases h2 : Nat.ble n 64 with
    | true => have := Nat.le_of_ble_eq_true h2; exact ofL2_get (j := j) (by omega) .se l
    | false =>
      cases h3 : Nat.ble n 512 with
      | true => have := Nat.le_of_ble_eq_true h3; exact ofL3_get (j := j) (by omega) .se l
      | false => exact ofL4_get (j := j) (by omega) .se l
theorem cellsF_get (t : Cl) (n : Nat) : ∀ off, (cellsF t n off).length = n ∧ ∀ j, j < n → (cellsF t n off)[j]? = some (t.get (off + j)) := by
  induction n with
  | zero => intro off; exact ⟨rfl, fun j h => by omega⟩
  | succ n ih =>
    intro off
    obtain ⟨h1, h2⟩ := ih (off + 1)
    refine ⟨by show (cellsF t n (off + 1)).length + 1 = _; rw [h1], fun j hj => ?_⟩
    cases j with
    | zero => rfl
    | succ j =>
      show (cellsF t n (off + 1))[j]? = _
      rw [h2 j (by omega), Nat.add_assoc, Nat.add_comm 1 j]
end
/-! heaps -/
noncomputable def hset (h : Hp) (i : Nat) (b : Bk) : Hp := set5 i b h fun x => x
theorem get_hset {h : Hp} {i j : Nat} {b : Bk} (hj : j < 32768) (hi : i < 32768) : get5 j (hset h i b) = if j = i then b else get5 j h := l5.2 j i b h hj hi
/-! what an answer came from -/
section
variable {α β γ : Type} {s s' : St} {a : α}
theorem no_ok {n : Nat} {P : Prop} (h : (R.no n : R α) = .ok a s') : P := by cases h
theorem ret_ok {b : α} (h : ret b s = .ok a s') : a = b ∧ s' = s := by cases h; exact ⟨rfl, rfl⟩
theorem iff_ok {c : Bool} {m n : M α} (h : iff c m n s = .ok a s') : (c = true ∧ m s = .ok a s') ∨ (c = false ∧ n s = .ok a s') := by
  cases c
  · exact .inr ⟨rfl, h⟩
  · exact .inl ⟨rfl, h⟩
theorem iff_no {c : Bool} {m : M α} {n : Nat} (h : iff c m (no n) s = .ok a s') : c = true ∧ m s = .ok a s' := by
  cases c
  · exact no_ok h
  · exact ⟨rfl, h⟩
theorem iff_on {c : Bool} {m : M α} {n : Nat} (h : iff c (no n) m s = .ok a s') : c = false ∧ m s = .ok a s' := by
  cases c
  · exact ⟨rfl, h⟩
  · exact no_ok h
theorem optm_ok {n : Nat} {o : Option β} {f : β → M α} (h : optm n o f s = .ok a s') : ∃ x, o = some x ∧ f x s = .ok a s' := by
  cases o
  · exact no_ok h
  · exact ⟨_, rfl, h⟩
theorem avC_ok {n : Nat} {v : AV} {f : Sc → M α} (h : avC n v f s = .ok a s') : ∃ x, v = .c x ∧ f x s = .ok a s' := by
  cases v
  case c x => exact ⟨x, rfl, h⟩
  all_goals exact no_ok h
theorem avA_ok {n : Nat} {v : AV} {f : List Sc → M α} (h : avA n v f s = .ok a s') : ∃ x, v = .ag x ∧ f x s = .ok a s' := by
  cases v
  case ag x => exact ⟨x, rfl, h⟩
  all_goals exact no_ok h
theorem scP_ok {n : Nat} {v : Sc} {f : Nat → Nat → M α} (h : scP n v f s = .ok a s') : ∃ b off, v = .p b off ∧ f b off s = .ok a s' := by
  cases v
  case p b off => exact ⟨b, off, rfl, h⟩
  all_goals exact no_ok h
theorem scI_ok {n : Nat} {v : Sc} {f : IntKind → Int → M α} (h : scI n v f s = .ok a s') : ∃ k z, v = .i k z ∧ f k z s = .ok a s' := by
  cases v
  case i k z => exact ⟨k, z, rfl, h⟩
  all_goals exact no_ok h
theorem scB_ok {n : Nat} {v : Sc} {f : Bool → M α} (h : scB n v f s = .ok a s') : ∃ b, v = .b b ∧ f b s = .ok a s' := by
  cases v
  case b b => exact ⟨b, rfl, h⟩
  all_goals exact no_ok h
theorem scS_ok {n : Nat} {v : Sc} {f : List Nat → M α} (h : scS n v f s = .ok a s') : ∃ l, v = .s l ∧ f l s = .ok a s' := by
  cases v
  case s l => exact ⟨l, rfl, h⟩
  all_goals exact no_ok h
theorem scL_ok {n : Nat} {v : Sc} {f : Nat → Nat → Nat → Nat → M α} {z : M α} (h : scL n v f z s = .ok a s') : (∃ b off len sz, v = .sl b off len sz ∧ f b off len sz s = .ok a s') ∨ ((v = .sn ∨ v = .se) ∧ z s = .ok a s') := by
  cases v
  case sl b off len sz => exact .inl ⟨b, off, len, sz, rfl, h⟩
  case sn => exact .inr ⟨.inl rfl, h⟩
  case se => exact .inr ⟨.inr rfl, h⟩
  all_goals exact no_ok h
theorem intN_ok {n : Nat} {z : Int} {f : Nat → M α} (h : intN n z f s = .ok a s') : ∃ m : Nat, z = m ∧ f m s = .ok a s' := by
  cases z
  case ofNat m => exact ⟨m, rfl, h⟩
  case negSucc m => exact no_ok h
theorem atP_ok {n : Nat} {x : Operand} {tm : Tm} {f : Nat → Nat → M AV} {a : AV} (h : atP n x tm f s = .ok a s') : ∃ b off, evo x tm = .c (.p b off) ∧ f b off s = .ok a s' := by
  obtain ⟨y, e, h⟩ := avC_ok h
  obtain ⟨b, off, rfl, h⟩ := scP_ok h
  exact ⟨b, off, e, h⟩
theorem atN_ok {n : Nat} {x : Operand} {tm : Tm} {f : Nat → M AV} {a : AV} (h : atN n x tm f s = .ok a s') : ∃ k m, evo x tm = .c (.i k ((m : Nat) : Int)) ∧ f m s = .ok a s' := by
  obtain ⟨y, e, h⟩ := avC_ok h
  obtain ⟨k, z, rfl, h⟩ := scI_ok h
  obtain ⟨m, rfl, h⟩ := intN_ok h
  exact ⟨k, m, e, h⟩
theorem bnd_ok {m : M β} {f : β → M α} (h : bnd m f s = .ok a s') : ∃ b s1, m s = .ok b s1 ∧ f b s1 = .ok a s' := by
  unfold bnd at h
  cases hm : m s with
  | ok b s1 => rw [hm] at h; exact ⟨b, s1, rfl, h⟩
  | no n => rw [hm] at h; cases h
theorem rrec_ok {r : R β} {f : β → M α} (h : @R.rec β (fun _ => R α) f R.no r = .ok a s') : ∃ b s1, r = .ok b s1 ∧ f b s1 = .ok a s' := by
  cases r with
  | ok b s1 => exact ⟨b, s1, rfl, h⟩
  | no n => cases h
theorem look_ok' {id : Nat} {K : Bk → M α} (h : look id K s = .ok a s') : id < s.nx ∧ K (get5 id s.h) ⟨s.h, s.nx, s.rd ||| bit id, s.wr⟩ = .ok a s' := by
  cases s with
  | mk hh nx rd wr =>
    have h : @Bool.rec (fun _ => R α) (.no 1) (K (get5 id hh) ⟨hh, nx, Nat.lor rd (bit id), wr⟩) (Nat.blt id nx) = .ok a s' := h
    cases hb : Nat.blt id nx with
    | false => rw [hb] at h; cases h
    | true => rw [hb] at h; exact ⟨Nat.le_of_ble_eq_true hb, h⟩
theorem look_ok {id : Nat} {K : Bk → M α} (h : look id K s = .ok a s') : K (get5 id s.h) ⟨s.h, s.nx, s.rd ||| bit id, s.wr⟩ = .ok a s' := (look_ok' h).2
theorem put_ok' {id : Nat} {b : Bk} {K : M α} (h : put id b K s = .ok a s') : 8 ≤ id ∧ id < s.nx ∧ K ⟨hset s.h id b, s.nx, s.rd, s.wr ||| bit id⟩ = .ok a s' := by
  cases s with
  | mk hh nx rd wr =>
    have h : @Bool.rec (fun _ => R α) (.no 1) (@Bool.rec (fun _ => R α) (.no 1) (set5 id b hh fun h => K ⟨h, nx, rd, Nat.lor wr (bit id)⟩) (Nat.blt id nx)) (Nat.ble 8 id) = .ok a s' := h
    cases h8 : Nat.ble 8 id with
    | false => rw [h8] at h; cases h
    | true =>
      rw [h8] at h
      have h : @Bool.rec (fun _ => R α) (.no 1) (set5 id b hh fun h => K ⟨h, nx, rd, Nat.lor wr (bit id)⟩) (Nat.blt id nx) = .ok a s' := h
      cases hb : Nat.blt id nx with
      | false => rw [hb] at h; cases h
      | true => rw [hb] at h; exact ⟨Nat.le_of_ble_eq_true h8, Nat.le_of_ble_eq_true hb, (l5.1 id b _ _).symm.trans h⟩
theorem put_ok {id : Nat} {b : Bk} {K : M α} (h : put id b K s = .ok a s') : 8 ≤ id ∧ K ⟨hset s.h id b, s.nx, s.rd, s.wr ||| bit id⟩ = .ok a s' := ⟨(put_ok' h).1, (put_ok' h).2.2⟩
theorem fresh_ok {b : Bk} {K : Nat → M α} (h : fresh b K s = .ok a s') : s.nx < 32768 ∧ K s.nx ⟨hset s.h s.nx b, s.nx + 1, s.rd, s.wr⟩ = .ok a s' := by
  cases s with
  | mk hh nx rd wr =>
    unfold fresh at h
    simp only at h
    cases hb : Nat.blt nx 32768 with
    | false => rw [hb] at h; cases h
    | true =>
      rw [hb] at h
      exact ⟨Nat.le_of_ble_eq_true hb, (l5.1 nx b _ _).symm.trans h⟩
theorem newBlk_ok {l : List Sc} {K : Nat → M α} (h : newBlk l K s = .ok a s') : l.length ≤ 4096 ∧ s.nx < 32768 ∧ K s.nx ⟨hset s.h s.nx (Bk.of l), s.nx + 1, s.rd, s.wr⟩ = .ok a s' := by
  unfold newBlk at h
  cases hb : Nat.ble l.length 4096 with
  | false => rw [hb] at h; cases h
  | true => rw [hb] at h; exact ⟨Nat.le_of_ble_eq_true hb, fresh_ok h⟩
end
end Ev
end Go.Proofs.YtgfhddhkillchaaGreatDoor
