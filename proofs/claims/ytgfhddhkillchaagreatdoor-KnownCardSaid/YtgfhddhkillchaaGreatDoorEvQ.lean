import Derived.Test.YtgfhddhkillchaaGreatDoorEvP
set_option linter.unusedVariables false
set_option linter.unusedSimpArgs false
namespace Go.Proofs.YtgfhddhkillchaaGreatDoor
namespace Ev
section
variable {T : Tab} {env : Nat → Value} {ρ ρ' : Rh} {w w' : World} {tm tm' : Tm} {call : Cal} {s s' : St} {kp n : Nat} {N : Gs} {a : Act} {h h' : Hp}
theorem LookR.of (hE : ER env ρ kp n tm a) (hG : Gl N ρ h w) {ops : Array Oper} (hall : ∀ o ∈ ops.toList, operOk N.n n o = true) {o : Oper} (ho : o ∈ ops.toList) : LookR env ρ ops.toList o tm a := by
  refine ⟨fun x hx => hE.op hG ((operOk_at (hall o ho)).2 x hx), fun j want d hg hd => ?_⟩
  obtain ⟨o', h1, h2⟩ := yldD_at hd
  have hlt := (operOk_at (hall o' (by rw [← Array.getElem?_toList] at h1; exact List.mem_of_getElem? h1))).1 d h2
  exact ⟨hE.at' d hlt, by rw [hE.size]; exact hlt⟩
/-- a region in the text's order -/
theorem steps_sim (hk : Ok T env) (hC : SimC T env N call) (hloc : ∀ f args, Loc (call f args)) {ops : Array Oper} (hall : ∀ o ∈ ops.toList, operOk N.n n o = true) {Q : Exit → Act → World → Prop} : ∀ (l : List Oper) (j : Nat) (tm : Tm) (s : St) (a : Act) (w : World) (ρ : Rh), ops.toList.drop j = l → stepsL T call kp ops.toList l tm s = .ok tm' s' → s.nx ≤ 32768 → ER env ρ kp n tm a → Gl N ρ s.h w → HR env ρ s.h w → Free ρ s.nx s'.nx → (∀ a' ρ' w', ER env ρ' kp n tm' a' → Post env ρ s.h s.nx w ρ' s'.h s'.nx w' → Q .normal a' w') → wpOps T.P ops Q (List.range' j l.length) a w
  | [], j, tm, s, a, w, ρ, hd, h, hsx, hE, hG, hr, hf, hQ => by
    cases h
    exact hQ a ρ w hE (Post.refl hr _)
  | o :: l, j, tm, s, a, w, ρ, hd, h, hsx, hE, hG, hr, hf, hQ => by
    obtain ⟨tm1, s1, h1, h2⟩ := bnd_ok (f := stepsL T call kp ops.toList l) h
    have hoj : ops[j]? = some o := by
      have := congrArg (fun l : List Oper => l[0]?) hd
      simp only [List.getElem?_drop, Nat.add_zero, List.getElem?_cons_zero, Array.getElem?_toList] at this
      exact this
    have hom : o ∈ ops.toList := by rw [← Array.getElem?_toList] at hoj; exact List.mem_of_getElem? hoj
    have hdl := (operOk_at (hall o hom)).1
    obtain ⟨_, _, n1, m1, _⟩ := loc_stepO (T := T) (tm := tm) hloc o kp ops.toList s tm1 s1 h1 hsx
    obtain ⟨_, _, n2, m2, _⟩ := loc_stepsL (T := T) hloc kp ops.toList l tm1 s1 tm' s' h2 m1
    obtain ⟨ht, hs⟩ := step_sim hk hC hoj h1
    rw [List.length_cons, List.range'_succ, wpOps_cons]
    refine hs (fun d e => Nat.lt_of_lt_of_le (hdl d e) hE.le) hsx hG (LookR.of hE hG hall hom) hr (hf.sub n2) fun v' ρ1 w1 hv hp => ?_
    refine steps_sim hk hC hloc hall l (j + 1) tm1 s1 _ w1 ρ1 (by rw [← List.tail_drop, hd]; rfl) h2 m1 ((hE.ext hp.ext).put hdl ht hv) (hG.step hp) hp.hr (hf.step hp n1 n2) fun a' ρ' w' hE' hp' => hQ a' ρ' w' hE' (hp.trans hp' n1 n2)
/-- a region whose order is drawn -/
theorem draw_sim (hk : Ok T env) (hC : SimC T env N call) (hloc : ∀ f args, Loc (call f args)) {ops : Array Oper} (hall : ∀ o ∈ ops.toList, operOk N.n n o = true) (hdr : drawOk ops = true) (h : stepsD T call kp ops.toList ops.toList (aheads ops.toList []) 0 [] tm s = .ok tm' s') (hsx : s.nx ≤ 32768) (hE : ER env ρ kp n tm a) (hKI : KI kp tm) (hG : Gl N ρ s.h w) (hr : HR env ρ s.h w) (hf : Free ρ s.nx s'.nx) {Q : Exit → Act → World → Prop} (hQ : ∀ a' ρ' w', ER env ρ' kp n tm' a' → Post env ρ s.h s.nx w ρ' s'.h s'.nx w' → Q .normal a' w') :
    wpAny T.P .any ops Q ops.size (Array.replicate ops.size false) a w := by
  obtain ⟨f, rd, wr, hf0, _, ⟨hstep⟩, hap, hfN⟩ := told (T := T) (call := call) (kp := kp) (ops := ops.toList) (bf0 := aheads ops.toList []) (tm' := tm') (s' := s') ops.toList 0 (fun _ => ⟨tm, s.h, s.nx⟩) (fun _ => 0) (fun _ => 0) s rfl (Nat.zero_le _) rfl rfl h
  have hf0 : f 0 = ⟨tm, s.h, s.nx⟩ := hf0 0 (Nat.le_refl _)
  obtain ⟨L, hL⟩ : ∃ L, ops.size = L := ⟨_, rfl⟩
  have hLl : ops.toList.length = L := by rw [Array.length_toList, hL]
  rw [hLl] at hstep hap hfN
  have hle := hE.le
  -- each step
  have nx_le : ∀ j, j ≤ L → (f j).nx ≤ 32768 := by
    intro j
    induction j with
    | zero => intro _; rw [hf0]; exact hsx
    | succ j ih =>
      intro hj
      obtain ⟨o, _, e⟩ := hstep j (Nat.zero_le _) (by omega)
      obtain ⟨_, _, _, m1, _⟩ := loc_stepO (T := T) (tm := (f j).tm) hloc o kp ops.toList _ _ _ e (ih (by omega))
      exact m1
  have fact : ∀ j, j < L → ∃ o, ops[j]? = some o ∧ o ∈ ops.toList ∧ stepO o T call kp ops.toList (f j).tm ⟨(f j).h, (f j).nx, 0, 0⟩ = .ok (f (j + 1)).tm ⟨(f (j + 1)).h, (f (j + 1)).nx, rd j, wr j⟩ ∧ TmS kp o.dst (f j).tm (f (j + 1)).tm ∧ (f j).nx ≤ (f (j + 1)).nx ∧ (∀ i, (rd j).testBit i = true ∨ (wr j).testBit i = true → i < (f (j + 1)).nx) ∧
      (∀ i, i < 32768 → (wr j).testBit i = false → ¬ ((f j).nx ≤ i ∧ i < (f (j + 1)).nx) → get5 i (f (j + 1)).h = get5 i (f j).h) ∧
      ∀ t : St, t.nx = (f j).nx → (∀ i, i < 32768 → ((rd j).testBit i = true ∨ (wr j).testBit i = true ∨ ((f j).nx ≤ i ∧ i < (f (j + 1)).nx)) → get5 i t.h = get5 i (f j).h) → ∃ t', stepO o T call kp ops.toList (f j).tm t = .ok (f (j + 1)).tm t' ∧ t'.nx = (f (j + 1)).nx ∧ ∀ i, i < 32768 → get5 i t'.h = if (wr j).testBit i = true ∨ ((f j).nx ≤ i ∧ i < (f (j + 1)).nx) then get5 i (f (j + 1)).h else get5 i t.h := by
    intro j hj
    obtain ⟨o, ho, e⟩ := hstep j (Nat.zero_le _) hj
    obtain ⟨dr, dw, n1, m1, b1, r1, w1, k1, f1⟩ := loc_stepO (T := T) (tm := (f j).tm) hloc o kp ops.toList _ _ _ e (nx_le j (by omega))
    simp only [Nat.zero_or] at r1 w1 n1 b1 k1 f1
    subst r1
    subst w1
    have ho' : ops[j]? = some o := by rw [Array.getElem?_toList] at ho; exact ho
    refine ⟨o, ho', List.mem_of_getElem? ho, e, (step_sim hk hC ho' e).1, n1, b1, k1, fun t ht hg => ?_⟩
    obtain ⟨t', e1, e2, _, _, e5⟩ := f1 t ht hg
    exact ⟨t', e1, e2, e5⟩
  have mono : ∀ i j, i ≤ j → j ≤ L → (f i).nx ≤ (f j).nx := by
    intro i j hij
    induction j with
    | zero => intro _; have : i = 0 := by omega
              rw [this]; exact Nat.le_refl _
    | succ j ih =>
      intro hj
      by_cases e : i = j + 1
      · rw [e]; exact Nat.le_refl _
      · obtain ⟨_, _, _, _, _, n1, _⟩ := fact j (by omega)
        exact Nat.le_trans (ih (by omega) (by omega)) n1
  have hki : ∀ j, j ≤ L → KI kp (f j).tm := by
    intro j
    induction j with
    | zero => intro _; rw [hf0]; exact hKI
    | succ j ih =>
      intro hj
      obtain ⟨o, _, hom, _, ht, _⟩ := fact j (by omega)
      exact (ih (by omega)).put (fun d e => Nat.lt_of_lt_of_le ((operOk_at (hall o hom)).1 d e) hle) ht
  -- who writes what
  let W : Nat → Nat → Prop := fun j i => (wr j).testBit i = true ∨ ((f j).nx ≤ i ∧ i < (f (j + 1)).nx)
  let Wt : Nat → Nat → Prop := fun j t => (ops[j]?).bind (·.dst) = some t
  have unord : ∀ i j, i < j → j < L → ((aheads ops.toList []).getD j 0).testBit i = false → ∀ x, (W i x → ¬ ((rd j).testBit x = true ∨ W j x)) ∧ (W j x → ¬ ((rd i).testBit x = true ∨ W i x)) := by
    intro i j hij hj hb x
    have hc := clash_zero (x := x) (apart_at (hap j (Nat.zero_le _) hj) i hij hb)
    obtain ⟨_, _, _, _, _, ni, bi, _⟩ := fact i (by omega)
    obtain ⟨_, _, _, _, _, nj, bj, _⟩ := fact j hj
    have mij := mono (i + 1) j (by omega) (by omega)
    rw [Nat.testBit_or, Bool.or_eq_true, news_bit ni, Bool.or_eq_false_iff] at hc
    have wb : W i x → x < (f (i + 1)).nx := fun hw => hw.elim (fun e => bi x (.inr e)) (fun e => e.2)
    refine ⟨fun hw hx => ?_, fun hw hx => ?_⟩
    · obtain ⟨c1, c2⟩ := hc.1 hw
      rcases hx with hx | hx | hx
      · rw [c1] at hx; cases hx
      · rw [c2] at hx; cases hx
      · have := wb hw; omega
    · rcases hw with hw | hw
      · obtain ⟨c1, c2, c3⟩ := hc.2 hw
        rcases hx with hx | hx | hx
        · rw [c1] at hx; cases hx
        · rw [c2] at hx; cases hx
        · have := (news_bit (x := x) ni).2 hx; rw [c3] at this; cases this
      · rcases hx with hx | hx | hx
        · have := bi x (.inl hx); omega
        · have := bi x (.inr hx); omega
        · omega
  have wt_at : ∀ {j t o}, ops[j]? = some o → (Wt j t ↔ o.dst = some t) := fun {j t o} ho => by show (ops[j]?).bind (·.dst) = some t ↔ _; rw [ho]; rfl
  have keepH : ∀ x, x < 32768 → ∀ j, j < L → ¬ W j x → (fun j x => get5 x (f j).h) (j + 1) x = (fun j x => get5 x (f j).h) j x := fun x hx j hj hw => by
    obtain ⟨_, _, _, _, _, _, _, k1, _⟩ := fact j hj
    exact k1 x hx (Bool.eq_false_iff.2 fun e => hw (.inl e)) fun e => hw (.inr e)
  have keepT : ∀ t, t < n → ∀ j, j < L → ¬ Wt j t → (fun j t => tget t (f j).tm) (j + 1) t = (fun j t => tget t (f j).tm) j t := fun t ht j hj hw => by
    obtain ⟨o, ho, hom, _, ⟨v, e⟩, _⟩ := fact j hj
    show tget t (f (j + 1)).tm = tget t (f j).tm
    rw [e]
    cases hd : o.dst with
    | none => rfl
    | some d =>
      rw [tget_put (Nat.lt_of_lt_of_le ((operOk_at (hall o hom)).1 d hd) hle) (by omega), if_neg (fun e => hw ((wt_at ho).2 (by rw [hd, e])))]
  -- the region's rounds
  have main : ∀ (fuel : Nat) (listed : Array Bool) (a1 : Act) (w1 : World), left listed = fuel → listed.size = L → (∀ j o, listed.getD j false = true → ops.toList[j]? = some o → ∀ e ∈ o.after.toList, Region.binds .any e = true → listed.getD e.on false = true) →
      (∃ (ρ1 : Rh) (t : Hp), Post env ρ s.h s.nx w ρ1 t s'.nx w1 ∧ (∀ x, x < 32768 → get5 x t = cont (fun j x => get5 x (f j).h) W (fun j => listed.getD j false) x L) ∧ (∀ i y, ρ1 i = some y → ρ i = some y ∨ ∃ j, j < L ∧ listed.getD j false = true ∧ (f j).nx ≤ i ∧ i < (f (j + 1)).nx) ∧ a1.tmps.size = n ∧ a1.defers = [] ∧ ∀ q, q < n → VA env ρ1 (cont (fun j t => tget t (f j).tm) Wt (fun j => listed.getD j false) q L) (a1.tmps.getD q undef)) →
      wpAny T.P .any ops Q fuel listed a1 w1 := by
    intro fuel
    have fin : ∀ (listed : Array Bool) (a1 : Act) (w1 : World), (∀ j, j < L → listed.getD j false = true) → (∃ (ρ1 : Rh) (t : Hp), Post env ρ s.h s.nx w ρ1 t s'.nx w1 ∧ (∀ x, x < 32768 → get5 x t = cont (fun j x => get5 x (f j).h) W (fun j => listed.getD j false) x L) ∧ (∀ i y, ρ1 i = some y → ρ i = some y ∨ ∃ j, j < L ∧ listed.getD j false = true ∧ (f j).nx ≤ i ∧ i < (f (j + 1)).nx) ∧ a1.tmps.size = n ∧ a1.defers = [] ∧ ∀ q, q < n → VA env ρ1 (cont (fun j t => tget t (f j).tm) Wt (fun j => listed.getD j false) q L) (a1.tmps.getD q undef)) → Q .normal a1 w1 := by
      rintro listed a1 w1 hall' ⟨ρ1, t, hp, ht, _, hsz, hdf, hv⟩
      refine hQ a1 ρ1 w1 (ER.of hsz hle hdf (by have := hki L (Nat.le_refl _); rw [hfN] at this; exact this) fun k hk' => ?_) (hp.congr fun x hx => ?_)
      · have := hv k hk'
        rw [cont_all hall' (keepT k hk')] at this
        rw [hfN] at this
        exact this
      · rw [ht x hx, cont_all hall' (keepH x hx)]
        show get5 x (f L).h = _
        rw [hfN]
    have rdy : ∀ (listed : Array Bool), listed.size = L → Region.ready .any ops listed = [] → ∀ j, j < L → listed.getD j false = true := by
      intro listed hsz he j
      induction j using Nat.strongRecOn with
      | _ j ih =>
        intro hj
        cases hb : listed.getD j false with
        | true => rfl
        | false =>
          exfalso
          obtain ⟨o, ho, _⟩ := fact j hj
          have : j ∈ Region.ready .any ops listed := mem_ready.2 ⟨by
            rw [Array.getD_eq_getD_getElem?, Array.getElem?_eq_getElem (by omega)] at hb ⊢
            exact hb, o, ho, fun e he' hbd => ih e.on ((drawOk_at hdr ho).1 e (by simpa using he') hbd) (by have := (drawOk_at hdr ho).1 e (by simpa using he') hbd; omega)⟩
          rw [he] at this
          cases this
    induction fuel with
    | zero =>
      intro listed a1 w1 hl hsz hcl hI
      have hall' : ∀ j, j < L → listed.getD j false = true := fun j hj => left_zero hl (by omega)
      refine ⟨?_, fin listed a1 w1 hall' hI⟩
      cases hq : Region.ready .any ops listed with
      | nil => rfl
      | cons i l =>
        have hi : i ∈ Region.ready .any ops listed := by rw [hq]; exact List.mem_cons_self ..
        obtain ⟨h0, o, ho, _⟩ := mem_ready.1 hi
        have hlt : i < L := by rw [← hL]; exact (Array.getElem?_eq_some_iff.1 ho).1
        have := hall' i hlt
        rw [Array.getD_eq_getD_getElem?, Array.getElem?_eq_getElem (by omega)] at this h0
        rw [show (some listed[i]).getD true = (some listed[i]).getD false from rfl, this] at h0
        cases h0
    | succ fuel ih =>
      intro listed a1 w1 hl hsz hcl hI
      refine ⟨fun he => fin listed a1 w1 (rdy listed hsz he) hI, fun i hi => ?_⟩
      obtain ⟨h0, o, ho, hpre⟩ := mem_ready.1 hi
      have hlt : i < L := by rw [← hL]; exact (Array.getElem?_eq_some_iff.1 ho).1
      have h0f : listed.getD i false = false := by
        rw [Array.getD_eq_getD_getElem?, Array.getElem?_eq_getElem (by omega)] at h0 ⊢
        exact h0
      obtain ⟨ρ1, t, hp, ht, hdom, hsz1, hdf, hv⟩ := hI
      obtain ⟨o', ho', hom, hst, hts, hnx, hbd, _, hloc'⟩ := fact i hlt
      rw [ho] at ho'
      cases ho'
      have hol : ops.toList[i]? = some o := by rw [Array.getElem?_toList]; exact ho
      have hpre' : ∀ e ∈ o.after.toList, Region.binds .any e = true → listed.getD e.on false = true := fun e he hb => hpre e (by simpa using he) hb
      -- what is ahead has been listed; what is listed is not behind
      have bfx : ∀ j, j < L → ∃ x, (aheads ops.toList [])[j]? = some x ∧ (aheads ops.toList []).getD j 0 = x := fun j hj => by
        have hlen := (aheads_at ops.toList []).1
        rw [List.length_nil, Nat.zero_add, hLl] at hlen
        exact ⟨_, List.getElem?_eq_getElem (by omega), by rw [List.getD_eq_getElem?_getD, List.getElem?_eq_getElem (by omega)]; rfl⟩
      have ord1 : ∀ j, j < i → listed.getD j false = false → ((aheads ops.toList []).getD i 0).testBit j = false := fun j hj hjf => by
        obtain ⟨x, hx, hx'⟩ := bfx i hlt
        rw [hx']
        refine Bool.eq_false_iff.2 fun hb => ?_
        have := aheads_in (D := fun j => listed.getD j false = true) hcl (i + 1) i o x (by omega) hol hpre' hx j hb
        rw [hjf] at this
        cases this
      have ord2 : ∀ j, i < j → j < L → listed.getD j false = true → ((aheads ops.toList []).getD j 0).testBit i = false := fun j hj hjL hjt => by
        obtain ⟨x, hx, hx'⟩ := bfx j hjL
        obtain ⟨oj, hoj, _⟩ := fact j hjL
        have hojl : ops.toList[j]? = some oj := by rw [Array.getElem?_toList]; exact hoj
        rw [hx']
        refine Bool.eq_false_iff.2 fun hb => ?_
        have := aheads_in (D := fun j => listed.getD j false = true) hcl (j + 1) j oj x (by omega) hojl (hcl j oj hjt hojl) hx i hb
        rw [h0f] at this
        cases this
      have seen : ∀ x, x < 32768 → ((rd i).testBit x = true ∨ W i x) → get5 x t = get5 x (f i).h := fun x hx htch => by
        rw [ht x hx]
        refine cont_before (k := i) (by omega) (fun j hj hjL hjt hw => ?_) (fun j hj hw => ?_) (keepH x hx)
        · by_cases e : j = i
          · subst e; rw [h0f] at hjt; cases hjt
          · exact (unord i j (by omega) hjL (ord2 j (by omega) hjL hjt) x).2 hw htch
        · cases hjf : listed.getD j false with
          | true => rfl
          | false => exact absurd htch ((unord j i hj hlt (ord1 j hj hjf) x).1 hw)
      obtain ⟨t', e1, e2, e3⟩ := hloc' ⟨t, (f i).nx, 0, 0⟩ rfl fun x hx hd => seen x hx (by
        rcases hd with hd | hd | hd
        · exact .inl hd
        · exact .inr (.inl hd)
        · exact .inr (.inr hd))
      have hdl := (operOk_at (hall o hom)).1
      -- temps that are looked at
      have seenT : ∀ q, q < n → q ∈ o.looksAt ops → VA env ρ1 (tget q (f i).tm) (a1.tmps.getD q undef) := fun q hq hlk => by
        have := hv q hq
        rw [cont_before (S := fun j t => tget t (f j).tm) (k := i) (by omega) (fun j hj hjL hjt hw => ?_) (fun j hj hw => ?_) (keepT q hq)] at this
        · exact this
        · by_cases e : j = i
          · subst e; rw [h0f] at hjt; cases hjt
          · obtain ⟨oj, hoj, _⟩ := fact j hjL
            have hap' := (drawOk_at hdr hoj).2 i o (by omega) ho (ord2 j (by omega) hjL hjt)
            exact (Oper.apart_spec hap').2.2 q ((wt_at hoj).1 hw) hlk
        · cases hjf : listed.getD j false with
          | true => rfl
          | false =>
            obtain ⟨oj, hoj, _⟩ := fact j (by omega)
            have hap' := (drawOk_at hdr ho).2 j oj hj hoj (ord1 j hj hjf)
            exact absurd hlk ((Oper.apart_spec hap').1 q ((wt_at hoj).1 hw))
      have hG1 := hG.step hp
      have hlook : LookR env ρ1 ops.toList o (f i).tm a1 := by
        refine ⟨fun x hx => ?_, fun j want d hg hd => ?_⟩
        · have hx' := (operOk_at (hall o hom)).2 x hx
          cases x with
          | tmp q => exact seenT q (blt_t hx') (looks_op hx)
          | const v => exact ofV_V v
          | global g => obtain ⟨z, e⟩ := hG1.at' g (blt_t hx'); exact ⟨g, z, e, rfl⟩
          | func f => trivial
        · obtain ⟨o', q1, q2⟩ := yldD_at hd
          have hd' := (operOk_at (hall o' (by rw [← Array.getElem?_toList] at q1; exact List.mem_of_getElem? q1))).1 d q2
          exact ⟨seenT d hd' (looks_gd hg q1 q2), by rw [hsz1]; exact hd'⟩
      have hfree : Free ρ1 (f i).nx t'.nx := fun x hx hx' => by
        rw [e2] at hx'
        cases hρ : ρ1 x with
        | none => rfl
        | some y =>
          exfalso
          have hlo := mono 0 i (Nat.zero_le _) (by omega)
          rw [hf0] at hlo
          have hhi := mono (i + 1) L (by omega) (Nat.le_refl _)
          rw [hfN] at hhi
          simp only at hlo hhi
          rcases hdom x y hρ with q | ⟨j, hjL, hjt, hj1, hj2⟩
          · rw [hf x (by omega) (by omega)] at q; cases q
          · rcases Nat.lt_trichotomy j i with hji | hji | hji
            · have := mono (j + 1) i (by omega) (by omega); omega
            · subst hji; rw [h0f] at hjt; cases hjt
            · have := mono (i + 1) j (by omega) (by omega); omega
      obtain ⟨_, hsim⟩ := step_sim hk hC ho e1
      refine hsim (fun d e => Nat.lt_of_lt_of_le (hdl d e) hle) (nx_le i (by omega)) hG1 hlook hp.hr hfree fun v' ρ2 w2 hv' hp2 => ?_
      have hlset : ∀ j, (listed.setIfInBounds i true).getD j false = (listed.getD j false || decide (j = i)) := fun j => by
        by_cases e : j = i
        · subst e
          rw [decide_eq_true rfl, Bool.or_true, Array.getD_eq_getD_getElem?, Array.getElem?_setIfInBounds_self_of_lt (by omega)]; rfl
        · rw [decide_eq_false e, Bool.or_false]
          exact getD_set_ne false (fun e' => e e'.symm)
      refine ih _ _ _ (by have := left_set h0; omega) (by rw [Array.size_setIfInBounds]; exact hsz) (fun j oj hj hoj e he hb => ?_) ⟨ρ2, t'.h, ?_, fun x hx => ?_, fun x y hxy => ?_, ?_, ?_, fun q hq => ?_⟩
      · rw [hlset] at hj ⊢
        rw [Bool.or_eq_true] at hj ⊢
        rcases hj with hj | hj
        · exact .inl (hcl j oj hj hoj e he hb)
        · have := of_decide_eq_true hj
          subst this
          rw [hol] at hoj
          cases hoj
          exact .inl (hpre' e he hb)
      · have hlo := mono 0 i (Nat.zero_le _) (by omega)
        rw [hf0] at hlo
        have hhi := mono (i + 1) L (by omega) (Nat.le_refl _)
        rw [hfN] at hhi
        exact hp.trans' (hp2.wide hlo (by rw [e2]; exact hhi))
      · rw [e3 x hx, cont_more (D := fun j => listed.getD j false) (k := i) hlt hlset (fun hw j hj hjL hjt hw' => (unord i j hj hjL (ord2 j hj hjL hjt) x).2 hw' (.inr hw)), ← ht x hx]
      · rcases hp2.new x y hxy with q | q
        · rcases hdom x y q with q | ⟨j, q1, q2, q3⟩
          · exact .inl q
          · exact .inr ⟨j, q1, by rw [hlset, q2]; rfl, q3⟩
        · rw [e2] at q
          exact .inr ⟨i, hlt, by rw [hlset, decide_eq_true rfl, Bool.or_true], q⟩
      · cases hd : o.dst with
        | none => exact hsz1
        | some d => show (a1.tmps.setIfInBounds d v').size = n; rw [Array.size_setIfInBounds]; exact hsz1
      · cases hd : o.dst with
        | none => exact hdf
        | some d => exact hdf
      · rw [cont_more (D := fun j => listed.getD j false) (k := i) hlt hlset (fun hw j hj hjL hjt hw' => ?_)]
        · have hwi := wt_at (t := q) ho
          by_cases hd : o.dst = some q
          · rw [if_pos (hwi.2 hd), hd, put_at a1 q v' (by omega), if_pos rfl]
            exact hv' q hd
          · rw [if_neg (fun e => hd (hwi.1 e))]
            have := (hv q hq).ext hp2.ext
            cases hdd : o.dst with
            | none => exact this
            | some d =>
              rw [put_at a1 d v' (by rw [hsz1]; exact hdl d hdd), if_neg (fun e => hd (by rw [hdd, e]))]
              exact this
        · obtain ⟨oj, hoj, _⟩ := fact j hjL
          have hap' := (drawOk_at hdr hoj).2 i o hj ho (ord2 j hj hjL hjt)
          exact (Oper.apart_spec hap').2.1 q ((wt_at ho).1 hw) ((wt_at hoj).1 hw')
  rw [hL]
  have hrep : ∀ j, (Array.replicate L false).getD j false = false := fun j => by
    rw [Array.getD_eq_getD_getElem?, Array.getElem?_replicate]
    split <;> rfl
  refine main L _ a w (by unfold left; simp) (by simp) (fun j o hj => by rw [hrep] at hj; cases hj) ⟨ρ, s.h, ?_, fun x hx => ?_, fun i y e => .inl e, hE.size, hE.nod, fun q hq => ?_⟩
  · have := mono 0 L (Nat.zero_le _) (Nat.le_refl _)
    rw [hf0, hfN] at this
    exact (Post.refl hr s.nx).wide (Nat.le_refl _) this
  · rw [cont_before (S := fun j x => get5 x (f j).h) (k := 0) (Nat.zero_le _) (fun j _ _ hj => by rw [hrep] at hj; cases hj) (fun j hj => by omega) (keepH x hx)]
    show _ = get5 x (f 0).h
    rw [hf0]
  · rw [cont_before (S := fun j t => tget t (f j).tm) (k := 0) (Nat.zero_le _) (fun j _ _ hj => by rw [hrep] at hj; cases hj) (fun j hj => by omega) (keepT q hq)]
    show VA env ρ (tget q (f 0).tm) _
    rw [hf0]
    exact hE.at' q hq
end
end Ev
end Go.Proofs.YtgfhddhkillchaaGreatDoor
