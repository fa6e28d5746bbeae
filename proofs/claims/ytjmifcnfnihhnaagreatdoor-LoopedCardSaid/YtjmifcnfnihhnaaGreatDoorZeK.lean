import Derived.Test.YtjmifcnfnihhnaaGreatDoorZeH
import Derived.Test.YtjmifcnfnihhnaaGreatDoorZeI
import Derived.Test.YtjmifcnfnihhnaaGreatDoorZeJ
/- LOOPED: frames' hooks are sound. -/
set_option linter.unusedVariables false
set_option linter.unusedSimpArgs false
namespace Go.Proofs.YtjmifcnfnihhnaaGreatDoor
namespace Lo
open Ev Go.RowKit Sm
/-- an action says what a call does -/
def HS (env : Nat → Value) (N : Gs) (f : Nat) (args : List AV) (m : M AV) : Prop := ∀ s v s' (ρ : Rh) w (us : List Value), m s = .ok v s' → s.nx ≤ 32768 → Gl N ρ s.h w → All2 (VA env ρ) args us → HR env ρ s.h w → Free ρ s.nx s'.nx →
    FnOk Tryz.prog f ∧ Calls Tryz.prog f us.toArray w fun e w' => ∃ v' ρ', e = .returned v' ∧ VA env ρ' v v' ∧ Post env ρ s.h s.nx w ρ' s'.h s'.nx w'
theorem fnFrm : FnOk Tryz.prog 53 := ⟨_, Tryz.func53, by kernel_rfl, by kernel_rfl⟩
theorem fnRds : FnOk Tryz.prog 211 := ⟨_, Tryz.func211, by kernel_rfl, by kernel_rfl⟩
theorem full4_get {α : Type} (j : Nat) (a : α) : get4 j (full4 a) = a := by
  have h : ∀ {β : Type} (i : Nat) (b : β), sel i (all8 b) = b := fun {β} i b => by
    unfold sel selD all8
    cases dig i <;> rfl
  unfold get4 full4
  rw [h, full3_get]
theorem frT_get {j : Nat} (hj : j < 4096) : frT.get j = if j = 801 then z0 else if j = 800 then z0 else .i .i64 (-1) := by
  show get4 j (set4 801 z0 (set4 800 z0 (full4 (.i .i64 (.negSucc 0))) id) id) = _
  rw [l4.2 j 801 _ _ hj (by omega), l4.2 j 800 _ _ hj (by omega), full4_get]
  rfl
theorem loc_frm {args : List AV} {m : M AV} (h : hFrm args = some m) : Ev.Loc m := by
  unfold hFrm at h
  split at h
  · cases h; exact loc_fresh fun _ => loc_retC _
  · cases h
theorem frm_sim {env : Nat → Value} {N : Gs} {args : List AV} {m : M AV} (hm : hFrm args = some m) : HS env N 53 args m := by
  intro s v s' ρ w us h hsx hG ha hr hf
  refine ⟨fnFrm, ?_⟩
  unfold hFrm at hm
  split at hm
  · cases hm
    cases ha
    obtain ⟨h7, h9⟩ := fresh_ok h
    cases h9
    have hf0 : ρ s.nx = none := hf s.nx (Nat.le_refl _) (by show s.nx < s.nx + 1; omega)
    refine (newFrame_w w).mono ?_
    rintro e w' ⟨rfl, ⟨arr, hb, hfr⟩, hB⟩
    have hsz := hfr.sz
    have hP := Post.made (B := ⟨802, frT⟩) hr h7 hf0 (by show 0 < frT.room; exact Nat.zero_lt_succ 4095) hb (.inl rfl) (Nat.le_refl _) (fun j hj => hB.block j hj) (hB.mono (Nat.zero_le _)) (by show 802 ≤ arr.size; omega) (by show 802 ≤ frT.room; show 802 ≤ 4096; omega) (fun j hj => by
      have hj : j < 802 := hj
      show ∃ v, arr[j]? = some v ∧ VS env ρ (frT.get j) v
      rw [frT_get (by omega)]
      by_cases h1 : j < 800
      · rw [if_neg (by omega), if_neg (by omega)]
        exact ⟨_, hfr.lo j (by omega), rfl⟩
      · refine ⟨_, hfr.hi j (by omega) hj, ?_⟩
        split
        · rfl
        · rw [if_pos (by omega)]; rfl) (PlOk.no rfl)
    exact ⟨_, _, rfl, ⟨w.heap.size, arr.size, upR_new _ _ _, rfl⟩, hP⟩
  · cases hm
theorem al8_sel {α : Type} {f : α → Bool} {t : N8 α} (h : al8 f t = true) (i : Nat) : f (sel i t) = true := by
  cases t with
  | mk c0 c1 c2 c3 c4 c5 c6 c7 =>
    have h : (f c0 && (f c1 && (f c2 && (f c3 && (f c4 && (f c5 && (f c6 && f c7))))))) = true := h
    simp only [Bool.and_eq_true] at h
    obtain ⟨h0, h1, h2, h3, h4, h5, h6, h7⟩ := h
    unfold sel selD
    cases dig i <;> assumption
theorem allI_get {c : Cl} (h : allI c = true) (k : Nat) : ∃ z, c.get k = .i .i64 z := by
  unfold allI at h
  split at h
  · rename_i t
    have h1 := al8_sel h (Nat.div k 512)
    have h2 := al8_sel h1 (Nat.div (Nat.mod k 512) 64)
    have h3 := al8_sel h2 (Nat.div (Nat.mod (Nat.mod k 512) 64) 8)
    have h4 := al8_sel h3 (Nat.mod (Nat.mod (Nat.mod k 512) 64) 8)
    show ∃ z, get4 k t = _
    have e : get4 k t = sel (Nat.mod (Nat.mod (Nat.mod k 512) 64) 8) (sel (Nat.div (Nat.mod (Nat.mod k 512) 64) 8) (sel (Nat.div (Nat.mod k 512) 64) (sel (Nat.div k 512) t))) := rfl
    rw [e]
    generalize sel (Nat.mod (Nat.mod (Nat.mod k 512) 64) 8) (sel (Nat.div (Nat.mod (Nat.mod k 512) 64) 8) (sel (Nat.div (Nat.mod k 512) 64) (sel (Nat.div k 512) t))) = x at h4
    unfold isI at h4
    split at h4
    · exact ⟨_, rfl⟩
    · cases h4
  · cases h
theorem rdB_false {hs : Nat → Int} {s : S7} {slot : Int} : ∀ n, (∀ i, i < n → hs i = slot → has s (i : Int) = false) → rdB hs s slot n = false
  | 0, _ => rfl
  | n + 1, h => by
    unfold rdB
    rw [rdB_false n fun i hi => h i (by omega)]
    by_cases e : hs n = slot
    · rw [h n (by omega) e]; simp
    · rw [show (hs n == slot) = false by simpa using e]; rfl
theorem rdB_true {hs : Nat → Int} {s : S7} {slot : Int} {i : Nat} (h1 : hs i = slot) (h2 : has s (i : Int) = true) : ∀ n, i < n → rdB hs s slot n = true
  | 0, h => by omega
  | n + 1, h => by
    unfold rdB
    by_cases e : n = i
    · subst e; rw [h1, h2]; simp
    · rw [rdB_true h1 h2 n (by omega)]; rfl
/-- the bits from i on -/
theorem scan_ok {t : Cl} {slot : Int} {hs : Nat → Int} (hh : ∀ i, i < 400 → t.get (i * 2) = .i .i64 (hs i)) : ∀ (n : Nat) (b i : Nat) (r : Bool), scanF t slot n b i = some r → i + n ≤ 400 →
    (r = true → ∃ j, i ≤ j ∧ j < 400 ∧ hs j = slot ∧ b / 2 ^ (j - i) % 2 = 1) ∧ (r = false → ∀ j, i ≤ j → j < 400 → hs j = slot → b / 2 ^ (j - i) % 2 = 0)
  | 0, b, i, r, h, _ => by
    have h : (bif Nat.beq b 0 then some false else none) = some r := h
    cases hb : Nat.beq b 0 with
    | true =>
      rw [hb] at h
      cases h
      have e : b = 0 := Nat.eq_of_beq_eq_true hb
      exact ⟨fun h => (by cases h), fun _ j _ _ _ => by rw [e]; simp⟩
    | false => rw [hb] at h; cases h
  | n + 1, b, i, r, h, hi => by
    have h : (bif Nat.beq b 0 then some false else bif Nat.beq (Nat.mod b 2) 1 then (match t.get (Nat.mul i 2) with
      | .i .i64 z => bif ieq z slot then some true else scanF t slot n (Nat.div b 2) (Nat.succ i)
      | _ => none) else scanF t slot n (Nat.div b 2) (Nat.succ i)) = some r := h
    have step : scanF t slot n (b / 2) (i + 1) = some r → (hs i = slot → b % 2 = 0) → (r = true → ∃ j, i ≤ j ∧ j < 400 ∧ hs j = slot ∧ b / 2 ^ (j - i) % 2 = 1) ∧ (r = false → ∀ j, i ≤ j → j < 400 → hs j = slot → b / 2 ^ (j - i) % 2 = 0) := by
      intro h hz
      have hd : ∀ j, i + 1 ≤ j → b / 2 / 2 ^ (j - (i + 1)) = b / 2 ^ (j - i) := fun j hj => by
        rw [Nat.div_div_eq_div_mul, show j - i = (j - (i + 1)) + 1 by omega, Nat.pow_succ, Nat.mul_comm]
      obtain ⟨q1, q2⟩ := scan_ok hh n (b / 2) (i + 1) r h (by omega)
      refine ⟨fun hr => ?_, fun hr j h1 h2 h3 => ?_⟩
      · obtain ⟨j, a1, a2, a3, a4⟩ := q1 hr
        exact ⟨j, by omega, a2, a3, by rw [← hd j a1]; exact a4⟩
      · by_cases e : j = i
        · subst e
          rw [Nat.sub_self, Nat.pow_zero, Nat.div_one]
          exact hz h3
        · rw [← hd j (by omega)]
          exact q2 hr j (by omega) h2 h3
    cases hb : Nat.beq b 0 with
    | true =>
      rw [hb] at h
      cases h
      have e : b = 0 := Nat.eq_of_beq_eq_true hb
      exact ⟨fun h => (by cases h), fun _ j _ _ _ => by rw [e]; simp⟩
    | false =>
      rw [hb] at h
      cases ho : Nat.beq (Nat.mod b 2) 1 with
      | true =>
        rw [ho] at h
        have ho : b % 2 = 1 := Nat.eq_of_beq_eq_true ho
        have hg := hh i (by omega)
        have hg : t.get (Nat.mul i 2) = .i .i64 (hs i) := hg
        rw [hg] at h
        have h : (bif ieq (hs i) slot then some true else scanF t slot n (b / 2) (i + 1)) = some r := h
        cases he : ieq (hs i) slot with
        | true =>
          rw [he] at h
          cases h
          rw [ieq_eq] at he
          exact ⟨fun _ => ⟨i, Nat.le_refl _, by omega, eq_of_beq he, by rw [Nat.sub_self, Nat.pow_zero, Nat.div_one]; exact ho⟩, fun h => by cases h⟩
        | false =>
          rw [he] at h
          rw [ieq_eq] at he
          exact step h fun e => by rw [e] at he; simp at he
      | false =>
        rw [ho] at h
        refine step h fun _ => ?_
        have : b % 2 ≠ 1 := fun e => by
          have : Nat.beq (Nat.mod b 2) 1 = true := by show Nat.beq (b % 2) 1 = true; rw [e]; rfl
          rw [this] at ho; cases ho
        omega
theorem u0_V {env : Nat → Value} {ρ : Rh} {x : Sc} {v : Value} (h : u0 x = true) (hv : VS env ρ x v) : v = .int .u64 0 := by
  unfold u0 at h
  split at h
  · rename_i n
    have e : n = 0 := Nat.eq_of_beq_eq_true h
    subst e
    exact hv
  · cases h
theorem loc_rds {args : List AV} {m : M AV} (h : hRds args = some m) : Ev.Loc m := by
  unfold hRds at h
  split at h
  · cases h; exact loc_iff (loc_look fun _ => loc_iff (loc_optm fun _ => loc_retC _) (loc_no _)) (loc_no _)
  · cases h
theorem rds_sim {env : Nat → Value} {N : Gs} {args : List AV} {m : M AV} (hm : hRds args = some m) : HS env N 211 args m := by
  intro s v s' ρ w us h hsx hG ha hr hf
  refine ⟨fnRds, ?_⟩
  unfold hRds at hm
  split at hm
  · rename_i fb b0 b1 b2 b3 b4 b5 b6 slot
    cases hm
    obtain ⟨hc, hA⟩ := iff_no h
    simp only [Bool.and_eq_true] at hc
    obtain ⟨c0, c1, c2, c3, c4, c5, c6⟩ := hc
    have c0 : b0 < 18446744073709551616 := blt_t c0
    obtain ⟨s1, e1, e2, hB⟩ := look_same hA
    obtain ⟨hn, hC⟩ := iff_no hB
    rw [Bool.and_eq_true] at hn
    have hn1 : 802 ≤ (get5 fb s.h).n := ble_t hn.1
    obtain ⟨r, hr1, hD⟩ := optm_ok hC
    cases hD
    cases ha with
    | cons k1 ha =>
      cases ha with
      | cons k2 ha =>
        cases ha with
        | cons k3 ha =>
          cases ha
          obtain ⟨k, z, hk, rfl⟩ := k1
          have k3 : _ = Value.int .i64 slot := k3
          subst k3
          obtain ⟨⟨l⟩, rfl, hl⟩ := k2
          cases hl with
          | cons q0 hl => cases hl with
            | cons q1 hl => cases hl with
              | cons q2 hl => cases hl with
                | cons q3 hl => cases hl with
                  | cons q4 hl => cases hl with
                    | cons q5 hl => cases hl with
                      | cons q6 hl =>
                        cases hl
                        have q0 : _ = Value.int .u64 (b0 : Int) := q0
                        have q1 := u0_V c1 q1
                        have q2 := u0_V c2 q2
                        have q3 := u0_V c3 q3
                        have q4 := u0_V c4 q4
                        have q5 := u0_V c5 q5
                        have q6 := u0_V c6 q6
                        subst q0 q1 q2 q3 q4 q5 q6
                        obtain ⟨hlv, arr, ty, lo, hi, hz, g1, g2, g3, g4, g5⟩ := hr.get hk (by omega)
                        have hg : ∀ i, ∃ z, (get5 fb s.h).t.get i = .i .i64 z := allI_get hn.2
                        obtain ⟨hv, hhv⟩ : ∃ hv : Nat → Int, ∀ i, (get5 fb s.h).t.get (i * 2) = .i .i64 (hv i) := ⟨fun i => (hg (i * 2)).choose, fun i => (hg (i * 2)).choose_spec⟩
                        have hbt : (BitVec.ofNat 64 b0).toNat = b0 := by rw [BitVec.toNat_ofNat]; exact Nat.mod_eq_of_lt c0
                        have hsc : sc ⟨BitVec.ofNat 64 b0, 0, 0, 0, 0, 0, 0⟩ = #[.int .u64 (b0 : Int), .int .u64 0, .int .u64 0, .int .u64 0, .int .u64 0, .int .u64 0, .int .u64 0] := by
                          unfold sc
                          rw [hbt]
                          rfl
                        have hW := reads_w (w := w) (b := k) (hs := hv) (s := ⟨BitVec.ofNat 64 b0, 0, 0, 0, 0, 0, 0⟩) (slot := slot) (hr.lt hlv hk) (fun i hi => by
                          obtain ⟨u, a1, a2⟩ := g5 (i * 2) (by omega)
                          rw [hhv i] at a2
                          have a2 : u = .int .i64 (hv i) := a2
                          rw [cell_of g1, a1, a2])
                        rw [hsc] at hW
                        obtain ⟨p1, p2⟩ := scan_ok (fun i _ => hhv i) 64 b0 0 r hr1 (by omega)
                        have hha : ∀ j : Nat, j < 400 → has ⟨BitVec.ofNat 64 b0, 0, 0, 0, 0, 0, 0⟩ (j : Int) = decide (b0 / 2 ^ j % 2 = 1) := by
                          intro j hj
                          rw [has_nat (by omega)]
                          by_cases hj6 : j < 64
                          · rw [show j / 64 = 0 by omega, show j % 64 = j by omega]
                            show decide ((BitVec.ofNat 64 b0).toNat / 2 ^ j % 2 = 1) = _
                            rw [hbt]
                          · have hz : b0 / 2 ^ j = 0 := Nat.div_eq_of_lt (Nat.lt_of_lt_of_le c0 (by rw [show (18446744073709551616 : Nat) = 2 ^ 64 from rfl]; exact Nat.pow_le_pow_right (by omega) (by omega)))
                            have hd : j / 64 = 1 ∨ j / 64 = 2 ∨ j / 64 = 3 ∨ j / 64 = 4 ∨ j / 64 = 5 ∨ j / 64 = 6 := by omega
                            rw [hz]
                            rcases hd with e | e | e | e | e | e <;> rw [e] <;> (show decide ((0 : BitVec 64).toNat / 2 ^ (j % 64) % 2 = 1) = _; simp)
                        have hrd : rdB hv ⟨BitVec.ofNat 64 b0, 0, 0, 0, 0, 0, 0⟩ slot 400 = r := by
                          cases r with
                          | true =>
                            obtain ⟨j, a1, a2, a3, a4⟩ := p1 rfl
                            exact rdB_true a3 (by rw [hha j a2]; exact decide_eq_true (by simpa using a4)) 400 a2
                          | false =>
                            refine rdB_false 400 fun j hj e => ?_
                            have := p2 rfl j (Nat.zero_le _) hj e
                            rw [hha j hj]
                            exact decide_eq_false (by simp at this; omega)
                        rw [hrd] at hW
                        refine hW.mono ?_
                        rintro e w' ⟨rfl, hB⟩
                        exact ⟨_, ρ, rfl, rfl, by rw [e1, e2]; exact Post.low' hr _ hB⟩
  · cases hm
theorem tok2 {p : Pm} (hc : p.c.oneCell' = true) {l : List Sc} (hl : PqOk p l) (w : World) : TOk (T2 l) p.env w := by
  have hQ := pq_ok hl
  refine ⟨rfl, ok0 (env_ok hc), ⟨fun f args m h => ?_, fun f args m h => ?_⟩⟩
  · replace h : hkE (pqL l) f args = some m := h
    unfold hkE at h
    cases hf : Nat.beq f 156 with
    | true => rw [hf] at h; exact loc_num h
    | false =>
      rw [hf] at h
      cases hf2 : Nat.beq f 53 with
      | true => rw [hf2] at h; exact loc_frm h
      | false =>
        rw [hf2] at h
        cases hf3 : Nat.beq f 211 with
        | true => rw [hf3] at h; exact loc_rds h
        | false => rw [hf3] at h; cases h
  · replace h : hkE (pqL l) f args = some m := h
    unfold hkE at h
    cases hf : Nat.beq f 156 with
    | true =>
      rw [hf] at h
      obtain rfl := Nat.eq_of_beq_eq_true hf
      exact num_sim (env_ok hc) (s9 (env_ok hc) w) hQ h
    | false =>
      rw [hf] at h
      cases hf2 : Nat.beq f 53 with
      | true =>
        rw [hf2] at h
        obtain rfl := Nat.eq_of_beq_eq_true hf2
        exact frm_sim h
      | false =>
        rw [hf2] at h
        cases hf3 : Nat.beq f 211 with
        | true =>
          rw [hf3] at h
          obtain rfl := Nat.eq_of_beq_eq_true hf3
          exact rds_sim h
        | false => rw [hf3] at h; cases h
end Lo
end Go.Proofs.YtjmifcnfnihhnaaGreatDoor
/- LOOPED: the machine's hooks are sound: registers, slots. -/
set_option linter.unusedVariables false
set_option linter.unusedSimpArgs false
namespace Go.Proofs.YtjmifcnfnihhnaaGreatDoor
namespace Lo
open Ev Go.RowKit Sm
theorem fnReg : FnOk Tryz.prog 127 := ⟨_, Tryz.func127, by kernel_rfl, by kernel_rfl⟩
theorem fnSRg : FnOk Tryz.prog 126 := ⟨_, Tryz.func126, by kernel_rfl, by kernel_rfl⟩
theorem fnHld : FnOk Tryz.prog 167 := ⟨_, Tryz.func167, by kernel_rfl, by kernel_rfl⟩
theorem fnSlt : FnOk Tryz.prog 166 := ⟨_, Tryz.func166, by kernel_rfl, by kernel_rfl⟩
theorem fnSSl : FnOk Tryz.prog 125 := ⟨_, Tryz.func125, by kernel_rfl, by kernel_rfl⟩
section
variable {p : Pm} {N : Gs}
theorem isN_V {a b : Sc} (h : isN a b = true) : ∃ x, a = .b x ∧ goodS b = true := by
  unfold isN at h
  split at h
  · exact ⟨_, rfl, h⟩
  · cases h
/-- two cells of a block are others -/
theorem post_cel {ρ : Rh} {h : Hp} {w w' : World} (hr : HR p.env ρ h w) (nx : Nat) {rb k z : Nat} (h8 : 8 ≤ rb) (hlv : Live h rb) (hk : ρ rb = some (k, z)) {arr : Array Value} {ty : TypeId} {lo hi : Nat} (hb : w.heap[k]? = some (.cells arr ty (lo, hi))) {a : Nat} (ha : a + 1 < (get5 rb h).n) {x y : Sc} {vx vy : Value} (hx : VS p.env ρ x vx) (hy : VS p.env ρ y vy) (hc : Cel w w' k ((arr.setIfInBounds a vx).setIfInBounds (a + 1) vy) ty (lo, hi)) :
    Post p.env ρ h nx w ρ (hset (hset h rb ⟨(get5 rb h).n, (get5 rb h).t.set a x id⟩) rb ⟨(get5 rb (hset h rb ⟨(get5 rb h).n, (get5 rb h).t.set a x id⟩)).n, (get5 rb (hset h rb ⟨(get5 rb h).n, (get5 rb h).t.set a x id⟩)).t.set (a + 1) y id⟩) nx w' := by
  have hlt := hlv.1
  have P1 := Post.cell hr nx h8 hlv hk (j := a) (by omega) hx (.inr rfl)
  have hg : get5 rb (hset h rb ⟨(get5 rb h).n, (get5 rb h).t.set a x id⟩) = ⟨(get5 rb h).n, (get5 rb h).t.set a x id⟩ := by rw [get_hset hlt hlt, if_pos rfl]
  have hlv1 : Live (hset h rb ⟨(get5 rb h).n, (get5 rb h).t.set a x id⟩) rb := ⟨hlt, by rw [hg]; show 0 < ((get5 rb h).t.set a x id).room; rw [Cl.set_room]; exact hlv.2⟩
  have P2 := Post.cell P1.hr nx h8 hlv1 hk (j := a + 1) (by rw [hg]; exact ha) hy (.inr rfl)
  refine (P1.trans P2 (Nat.le_refl _) (Nat.le_refl _)).trans (Post.idle P2.hr nx (fun j hj => ?_) ?_) (Nat.le_refl _) (Nat.le_refl _)
  · have hj : j < w.heap.size := by rw [set_size, set_size] at hj; exact hj
    by_cases e : j = k
    · subst e
      rw [hc.blk]
      exact (zb_set (zb_set hb a vx) (a + 1) vy).symm
    · rw [hc.rest j hj e, zb_ne _ _ e, zb_ne _ _ e]
  · have hl := hc.low
    exact ⟨hl.os, hl.tape, hl.output, by rw [set_size, set_size]; exact hl.size, fun k hk => absurd hk (Nat.not_lt_zero _)⟩
theorem put2_ok {rb a : Nat} {x y : Sc} {B : Bk} {s s' : St} {v : AV} (h : put2 rb a x y B s = .ok v s') : 8 ≤ rb ∧ v = .tp [] ∧ s'.nx = s.nx ∧ s'.h = hset (hset s.h rb ⟨B.n, B.t.set a x id⟩) rb ⟨(get5 rb (hset s.h rb ⟨B.n, B.t.set a x id⟩)).n, (get5 rb (hset s.h rb ⟨B.n, B.t.set a x id⟩)).t.set (a + 1) y id⟩ := by
  unfold put2 at h
  rw [Cl.set_K] at h
  obtain ⟨h8, h1⟩ := put_ok h
  obtain ⟨s1, e1, e2, h2⟩ := look_same h1
  rw [Cl.set_K] at h2
  obtain ⟨_, h3⟩ := put_ok h2
  cases h3
  refine ⟨h8, rfl, e2, ?_⟩
  show hset s1.h rb _ = _
  rw [e1]
theorem loc_put2 (rb a : Nat) (x y : Sc) (B : Bk) : Ev.Loc (put2 rb a x y B) := loc_cset fun _ => loc_put (loc_look fun _ => loc_cset fun _ => loc_put (loc_ret _))
theorem loc_reg {args : List AV} {m : M AV} (h : hReg args = some m) : Ev.Loc m := by
  unfold hReg at h
  split at h
  · cases h; exact loc_iff (loc_look fun _ => loc_iff (loc_ret _) (loc_no _)) (loc_no _)
  · cases h
theorem reg_sim {args : List AV} {m : M AV} (hm : hReg args = some m) : HS p.env N 127 args m := by
  intro s v s' ρ w us h hsx hG ha hr hf
  refine ⟨fnReg, ?_⟩
  unfold hReg at hm
  split at hm
  · rename_i rb n
    cases hm
    obtain ⟨c1, hA⟩ := iff_no h
    have c1 : n < 8 := blt_t c1
    obtain ⟨s1, e1, e2, hB⟩ := look_same hA
    obtain ⟨c2, hC⟩ := iff_no hB
    rw [Bool.and_eq_true] at c2
    have c3 : 22 ≤ (get5 rb s.h).n := ble_t c2.1
    obtain ⟨x, hx, hy⟩ := isN_V c2.2
    cases hC
    cases ha with
    | cons k1 ha =>
      cases ha with
      | cons k2 ha =>
        cases ha
        obtain ⟨k, z, hk, rfl⟩ := k1
        have k2 : _ = Value.int .i64 (n : Int) := k2
        subst k2
        obtain ⟨hlv, arr, ty, lo, hi, hz, g1, g2, g3, g4, g5⟩ := hr.get hk (by omega)
        obtain ⟨u1, a1, b1⟩ := g5 (6 + n * 2) (by omega)
        obtain ⟨u2, a2, b2⟩ := g5 (7 + n * 2) (by omega)
        have hx : (get5 rb s.h).t.get (6 + n * 2) = .b x := hx
        have b1' := b1
        rw [hx] at b1
        have b1 : u1 = .bool x := b1
        have b2' := good_is hy b2
        subst b1
        subst b2'
        refine (register_w c1 (hr.lt hlv hk) ((cell_of g1 _).trans a1) ((cell_of g1 _).trans (by rw [show 6 + n * 2 + 1 = 7 + n * 2 by omega]; exact a2))).mono ?_
        rintro e w' ⟨rfl, hB⟩
        exact ⟨_, ρ, rfl, ⟨_, rfl, .cons b1' (.cons (good_V hy ρ) .nil)⟩, by rw [e1, e2]; exact Post.low' hr _ hB⟩
  · cases hm
theorem loc_srg {args : List AV} {m : M AV} (h : hSRg args = some m) : Ev.Loc m := by
  unfold hSRg at h
  split at h
  · cases h; exact loc_iff (loc_look fun _ => loc_iff (loc_put2 _ _ _ _ _) (loc_no _)) (loc_no _)
  · cases h
theorem srg_sim {args : List AV} {m : M AV} (hm : hSRg args = some m) : HS p.env N 126 args m := by
  intro s v s' ρ w us h hsx hG ha hr hf
  refine ⟨fnSRg, ?_⟩
  unfold hSRg at hm
  split at hm
  · rename_i rb n x y
    cases hm
    obtain ⟨c1, hA⟩ := iff_no h
    simp only [Bool.and_eq_true] at c1
    obtain ⟨c1, c2, c3⟩ := c1
    have c1 : n < 8 := blt_t c1
    have c2 : 8 ≤ rb := ble_t c2
    obtain ⟨xb, rfl, hy⟩ := isN_V c3
    obtain ⟨s1, e1, e2, hB⟩ := look_same hA
    obtain ⟨c4, hC⟩ := iff_no hB
    have c4 : 22 ≤ (get5 rb s.h).n := ble_t c4
    obtain ⟨_, rfl, f1, f2⟩ := put2_ok hC
    cases ha with
    | cons k1 ha =>
      cases ha with
      | cons k2 ha =>
        cases ha with
        | cons k3 ha =>
          cases ha
          obtain ⟨k, z, hk, rfl⟩ := k1
          have k2 : _ = Value.int .i64 (n : Int) := k2
          subst k2
          obtain ⟨⟨l⟩, rfl, hl⟩ := k3
          cases hl with
          | cons q0 hl => cases hl with
            | cons q1 hl =>
              cases hl
              have q0 : _ = Value.bool xb := q0
              have q1' := good_is hy q1
              subst q0
              subst q1'
              obtain ⟨hlv, arr, ty, lo, hi, hz, g1, g2, g3, g4, g5⟩ := hr.get hk (by omega)
              have g2 : lo = hi ∨ arr.size ≤ lo := g2.resolve_left (by omega)
              refine (setRegister_w c1 g1 g2 (by omega)).mono ?_
              rintro e w' ⟨rfl, hcel⟩
              refine ⟨_, ρ, rfl, ⟨#[], rfl, .nil⟩, ?_⟩
              rw [f1, f2, e1, e2]
              exact post_cel hr _ c2 hlv hk g1 (a := 6 + n * 2) (by omega) rfl (good_V hy ρ) hcel
  · cases hm
theorem loc_hld {args : List AV} {m : M AV} (h : hHld args = some m) : Ev.Loc m := by
  unfold hHld at h
  split at h
  · cases h; exact loc_iff (loc_ret _) (loc_no _)
  · cases h
theorem hld_sim {args : List AV} {m : M AV} (hm : hHld args = some m) : HS p.env N 167 args m := by
  intro s v s' ρ w us h hsx hG ha hr hf
  refine ⟨fnHld, ?_⟩
  unfold hHld at hm
  split at hm
  · rename_i b o y d
    cases hm
    obtain ⟨hy, hA⟩ := iff_no h
    cases hA
    cases ha with
    | cons k1 ha =>
      cases ha with
      | cons k2 ha =>
        cases ha with
        | cons k3 ha =>
          cases ha
          obtain ⟨k, z, hk, rfl⟩ := k1
          have k3 : _ = Value.int .i64 d := k3
          subst k3
          obtain ⟨⟨l⟩, rfl, hl⟩ := k2
          cases hl with
          | cons q0 hl => cases hl with
            | cons q1 hl =>
              cases hl
              have q0 : _ = Value.bool false := q0
              have q1' := good_is hy q1
              subst q0
              subst q1'
              refine (hold_n w k o _ d).mono ?_
              rintro e w' ⟨rfl, hB⟩
              exact ⟨_, ρ, rfl, ⟨#[], rfl, .nil⟩, Post.low' hr _ hB⟩
  · cases hm
/-- the last frame's slots, told -/
theorem slsK_ok {rb : Nat} {K : Nat → Nat → M AV} {s s' : St} {v : AV} (h : slsK rb K s = .ok v s') : ∃ fb nf sb ns s1, s1.h = s.h ∧ s1.nx = s.nx ∧ 22 < (get5 rb s.h).n ∧ (get5 rb s.h).t.get 22 = .sl fb 0 (nf + 1) 2 ∧ nf ≤ 1000 ∧ nf * 2 + 2 ≤ (get5 fb s.h).n ∧ (get5 fb s.h).t.get (nf * 2 + 1) = .sl sb 0 ns 2 ∧ ns ≤ 2000 ∧ K sb ns s1 = .ok v s' := by
  unfold slsK at h
  obtain ⟨s1, e1, e2, h1⟩ := look_same h
  obtain ⟨c1, h2⟩ := iff_no h1
  have c1 : 22 < (get5 rb s.h).n := blt_t c1
  generalize hq : (get5 rb s.h).t.get 22 = c at h2
  cases c with
  | sl fb o1 n1 z1 =>
    obtain ⟨c2, h3⟩ := iff_no h2
    simp only [Bool.and_eq_true] at c2
    obtain ⟨c2, c3, c4, c5⟩ := c2
    have c2 : o1 = 0 := Nat.eq_of_beq_eq_true c2
    have c3 : z1 = 2 := Nat.eq_of_beq_eq_true c3
    have c4 : 1 ≤ n1 := ble_t c4
    have c5 : n1 ≤ 1001 := ble_t c5
    subst c2 c3
    obtain ⟨nf, rfl⟩ : ∃ nf, n1 = nf + 1 := ⟨n1 - 1, by omega⟩
    obtain ⟨s2, e3, e4, h4⟩ := look_same h3
    rw [e1] at h4 e3
    rw [e2] at e4
    obtain ⟨c6, h5⟩ := iff_no h4
    have c6 : (nf + 1) * 2 ≤ (get5 fb s.h).n := ble_t c6
    have hp : Nat.pred (Nat.mul (nf + 1) 2) = nf * 2 + 1 := by show (nf + 1) * 2 - 1 = _; omega
    rw [hp] at h5
    generalize hq2 : (get5 fb s.h).t.get (nf * 2 + 1) = c' at h5
    cases c' with
    | sl sb o2 ns z2 =>
      obtain ⟨c7, h6⟩ := iff_no h5
      simp only [Bool.and_eq_true] at c7
      obtain ⟨c7, c8, c9⟩ := c7
      have c7 : o2 = 0 := Nat.eq_of_beq_eq_true c7
      have c8 : z2 = 2 := Nat.eq_of_beq_eq_true c8
      subst c7 c8
      exact ⟨fb, nf, sb, ns, s2, e3, e4, c1, rfl, by omega, by omega, hq2, ble_t c9, h6⟩
    | _ => exact no_ok h5
  | _ => exact no_ok h2
theorem loc_slsK {rb : Nat} {K : Nat → Nat → M AV} (hK : ∀ a b, Ev.Loc (K a b)) : Ev.Loc (slsK rb K) := by
  unfold slsK
  refine loc_look fun B => loc_iff ?_ (loc_no _)
  split
  · refine loc_iff (loc_look fun F => loc_iff ?_ (loc_no _)) (loc_no _)
    split
    · exact loc_iff (hK _ _) (loc_no _)
    · exact loc_no _
  · exact loc_no _
/-- what lies where -/
theorem sls_at {ρ : Rh} {h : Hp} {w : World} (hr : HR p.env ρ h w) {rb k z fb nf sb ns : Nat} (hk : ρ rb = some (k, z)) (c1 : 22 < (get5 rb h).n) (he : (get5 rb h).t.get 22 = .sl fb 0 (nf + 1) 2) (c3 : nf * 2 + 2 ≤ (get5 fb h).n) (he2 : (get5 fb h).t.get (nf * 2 + 1) = .sl sb 0 ns 2) (hn : 0 < (get5 sb h).n) :
    ∃ g cap sb' cp z', Sls w k g nf cap sb' ns cp ∧ nf + 1 ≤ cap ∧ ns ≤ cp ∧ ρ sb = some (sb', z') := by
  obtain ⟨hlv, arr, ty, lo, hi, hz, g1, g2, g3, g4, g5⟩ := hr.get hk (by omega)
  obtain ⟨u, a1, b1⟩ := g5 22 c1
  rw [he] at b1
  obtain ⟨g, zg, cap, hg, rfl, q1, q2⟩ := b1
  obtain ⟨hlv2, arr2, ty2, lo2, hi2, hz2, g12, g22, g32, g42, g52⟩ := hr.get hg (by omega)
  obtain ⟨u2, a2, b2⟩ := g52 (nf * 2 + 1) (by omega)
  rw [he2] at b2
  obtain ⟨sb', zs, cp, hs, rfl, q3, q4⟩ := b2
  obtain ⟨hlv3, _⟩ := hr.get hs hn
  exact ⟨g, cap, sb', cp, zs, ⟨(cell_of g1 _).trans a1, (cell_of g12 _).trans a2, hr.lt hlv hk, hr.lt hlv2 hg, hr.lt hlv3 hs⟩, q1, q3, hs⟩
theorem loc_slt {args : List AV} {m : M AV} (h : hSlt args = some m) : Ev.Loc m := by
  unfold hSlt at h
  split at h
  · cases h; exact loc_slsK fun _ _ => loc_iff (loc_look fun _ => loc_iff (loc_ret _) (loc_no _)) (loc_no _)
  · cases h
theorem slt_sim {args : List AV} {m : M AV} (hm : hSlt args = some m) : HS p.env N 166 args m := by
  intro s v s' ρ w us h hsx hG ha hr hf
  refine ⟨fnSlt, ?_⟩
  unfold hSlt at hm
  split at hm
  · rename_i rb n
    cases hm
    obtain ⟨fb, nf, sb, ns, s1, e1, e2, c1, he, c2, c3, he2, c4, hK⟩ := slsK_ok h
    obtain ⟨c5, hA⟩ := iff_no hK
    have c5 : n < ns := blt_t c5
    obtain ⟨s2, e3, e4, hB⟩ := look_same hA
    rw [e1] at hB e3
    rw [e2] at e4
    obtain ⟨c6, hC⟩ := iff_no hB
    rw [Bool.and_eq_true] at c6
    have c7 : n * 2 + 2 ≤ (get5 sb s.h).n := ble_t c6.1
    obtain ⟨x, hx, hy⟩ := isN_V c6.2
    cases hC
    cases ha with
    | cons k1 ha =>
      cases ha with
      | cons k2 ha =>
        cases ha
        obtain ⟨k, z, hk, rfl⟩ := k1
        have k2 : _ = Value.int .i64 (n : Int) := k2
        subst k2
        obtain ⟨g, cap, sb', cp, z', hS, q1, q2, hs⟩ := sls_at hr hk c1 he c3 he2 (by omega)
        obtain ⟨hlv, arr, ty, lo, hi, hz, g1, g2, g3, g4, g5⟩ := hr.get hs (by omega)
        obtain ⟨u1, a1, b1⟩ := g5 (n * 2) (by omega)
        obtain ⟨u2, a2, b2⟩ := g5 (n * 2 + 1) (by omega)
        have hx : (get5 sb s.h).t.get (n * 2) = .b x := hx
        have b1' := b1
        rw [hx] at b1
        have b1 : u1 = .bool x := b1
        have b2' := good_is hy b2
        subst b1
        subst b2'
        refine (slot_w hS c2 c4 q1 q2 c5 ((cell_of g1 _).trans a1) ((cell_of g1 _).trans a2)).mono ?_
        rintro e w' ⟨rfl, hB⟩
        exact ⟨_, ρ, rfl, ⟨_, rfl, .cons b1' (.cons (good_V hy ρ) .nil)⟩, by rw [e3, e4]; exact Post.low' hr _ hB⟩
  · cases hm
theorem isF_eq {x : Sc} (h : isF x = true) : x = .b false := by
  unfold isF at h
  split at h
  · rename_i b
    cases b with
    | true => cases h
    | false => rfl
  · cases h
theorem loc_ssl {call : Cal} (hcall : ∀ f args, Ev.Loc (call f args)) {args : List AV} {m : M AV} (h : hSSl call args = some m) : Ev.Loc m := by
  unfold hSSl at h
  split at h
  · cases h; exact loc_iff (loc_slsK fun _ _ => loc_iff (loc_look fun _ => loc_iff (loc_iff (loc_put2 _ _ _ _ _) (hcall _ _)) (loc_no _)) (loc_no _)) (loc_no _)
  · cases h
theorem ssl_sim {T : Tab} (hTP : T.P = Tryz.prog) {call : Cal} (hS : SimC T p.env N call) {args : List AV} {m : M AV} (hm : hSSl call args = some m) : HS p.env N 125 args m := by
  intro s v s' ρ w us h hsx hG ha hr hf
  unfold hSSl at hm
  split at hm
  · rename_i rb n y
    cases hm
    obtain ⟨hy, h0⟩ := iff_no h
    obtain ⟨fb, nf, sb, ns, s1, e1, e2, c1, he, c2, c3, he2, c4, hK⟩ := slsK_ok h0
    obtain ⟨c5, hA⟩ := iff_no hK
    rw [Bool.and_eq_true] at c5
    have c8 : 8 ≤ sb := ble_t c5.2
    have c5 : n < ns := blt_t c5.1
    obtain ⟨s2, e3, e4, hB⟩ := look_same hA
    rw [e1] at hB e3
    rw [e2] at e4
    obtain ⟨c6, hC⟩ := iff_no hB
    have c7 : n * 2 + 2 ≤ (get5 sb s.h).n := ble_t c6
    rcases iff_ok hC with ⟨c9, hD⟩ | ⟨_, hD⟩
    · refine ⟨fnSSl, ?_⟩
      rw [Bool.and_eq_true] at c9
      have hx : (get5 sb s.h).t.get (n * 2) = .b false := isF_eq c9.1
      have hy0 : goodS ((get5 sb s.h).t.get (n * 2 + 1)) = true := c9.2
      obtain ⟨_, rfl, f1, f2⟩ := put2_ok hD
      cases ha with
      | cons k1 ha =>
        cases ha with
        | cons k2 ha =>
          cases ha with
          | cons k3 ha =>
            cases ha
            obtain ⟨k, z, hk, rfl⟩ := k1
            have k2 : _ = Value.int .i64 (n : Int) := k2
            subst k2
            obtain ⟨⟨l⟩, rfl, hl⟩ := k3
            cases hl with
            | cons q0 hl => cases hl with
              | cons q1' hl =>
                cases hl
                have q0 : _ = Value.bool false := q0
                have q1'' := good_is hy q1'
                subst q0
                subst q1''
                obtain ⟨g, cap, sb', cp, z', hS', q1, q2, hs⟩ := sls_at hr hk c1 he c3 he2 (by omega)
                obtain ⟨hlv, arr, ty, lo, hi, hz, g1, g2, g3, g4, g5⟩ := hr.get hs (by omega)
                have g2 : lo = hi ∨ arr.size ≤ lo := g2.resolve_left (by omega)
                obtain ⟨u1, a1, b1⟩ := g5 (n * 2) (by omega)
                obtain ⟨u2, a2, b2⟩ := g5 (n * 2 + 1) (by omega)
                rw [hx] at b1
                have b1 : u1 = .bool false := b1
                have b2' := good_is hy0 b2
                subst b1
                subst b2'
                refine (setSlot_w hS' c2 c4 q1 q2 c5 ((cell_of g1 _).trans a1) ((cell_of g1 _).trans a2) g1 g2 _).mono ?_
                rintro e w' ⟨rfl, hcel⟩
                refine ⟨_, ρ, rfl, ⟨#[], rfl, .nil⟩, ?_⟩
                rw [f1, f2, e3, e4]
                exact post_cel hr _ c8 hlv hs g1 (a := n * 2) (by omega) rfl (good_V hy ρ) hcel
    · have := hS _ _ _ _ _ ρ w us hD (by rw [e4]; exact hsx) (by rw [e3]; exact hG) ha (by rw [e3]; exact hr) (by rw [e4]; exact hf)
      rw [hTP, e3, e4] at this
      exact this
  · cases hm
theorem isF_b {x : Sc} (h : isF x = true) : x = .b false := isF_eq h
theorem w64_i (n : Int) : IntKind.i64.wrap n = wrap64 n := by rw [IntKind.wrap_i64]; unfold wrap64; rfl
theorem rkF_ok {r : Rw} (hR : RwOk p r) {o : Nat} (ho : o = 7 ∨ o = 8 ∨ o = 9 ∨ o = 12) {x y z : Sc} (h : rkF r o x y = some z) : goodS z = true ∧ scN p z = wrap64 (opR o (scN p x) (scN p y) * 2) / 2 := by
  unfold rkF at h
  cases h9 : Nat.ble o 9 with
  | false =>
    rw [h9] at h
    have ho : o = 12 := by
      rcases ho with rfl | rfl | rfl | rfl
      · cases h9
      · cases h9
      · cases h9
      · rfl
    subst ho
    have h : (match findC 0 x y r.cs with | some (.b t) => bif t then some (.i .i64 (.ofNat 1)) else some z0 | _ => none) = some z := h
    cases e1 : findC 0 x y r.cs with
    | none => rw [e1] at h; cases h
    | some c =>
      obtain ⟨t, ht, rfl⟩ := findC_at e1
      obtain ⟨_, _, g3⟩ := hR.cs 0 x y t ht
      have g3 : (scN p x == scN p y) = t := g3
      rw [e1] at h
      have h : (bif t then some (.i .i64 (.ofNat 1)) else some z0) = some z := h
      have e : opR 12 (scN p x) (scN p y) = tru t := by rw [← g3]; rfl
      rw [e]
      cases t with
      | true => cases h; exact ⟨rfl, by unfold tru wrap64; rfl⟩
      | false => cases h; exact ⟨rfl, by unfold tru wrap64; rfl⟩
  | true =>
    rw [h9] at h
    have h9 := ble_t h9
    have h : (match find (o - 7) x y r.ds 5000 with | none => none | some s1 => match find 5 s1 u1 r.ds 5000 with | none => none | some s2 => find 6 s2 u1 r.ds 5000) = some z := h
    cases e1 : find (o - 7) x y r.ds 5000 with
    | none => rw [e1] at h; cases h
    | some s1 =>
      rw [e1] at h
      have h : (match find 5 s1 u1 r.ds 5000 with | none => none | some s2 => find 6 s2 u1 r.ds 5000) = some z := h
      cases e2 : find 5 s1 u1 r.ds 5000 with
      | none => rw [e2] at h; cases h
      | some s2 =>
        rw [e2] at h
        have e3 : find 6 s2 u1 r.ds 5000 = some z := h
        obtain ⟨i1, a1, rfl⟩ := find_at e1
        obtain ⟨i2, a2, rfl⟩ := find_at e2
        obtain ⟨i3, a3, rfl⟩ := find_at e3
        have hd : goodD p.ds 0 = true := by rw [hR.ds]; exact hR.good
        have v1 := v_d (p := p) hd (by rw [hR.ds]; exact a1)
        have v2 := v_d (p := p) hd (by rw [hR.ds]; exact a2)
        have v3 := v_d (p := p) hd (by rw [hR.ds]; exact a3)
        refine ⟨Nat.ble_eq_true_of_le (by omega), ?_⟩
        have v2 : p.v (5000 + i2) = wrap64 (p.v (5000 + i1) * 2) := v2.trans (w64_i _)
        have v3 : p.v (5000 + i3) = (p.v (5000 + i2)).fdiv 2 := v3
        have hv1 : p.v (5000 + i1) = opR o (scN p x) (scN p y) := by
          rcases ho with rfl | rfl | rfl | rfl
          · exact v1.trans (w64_i _)
          · exact v1.trans (w64_i _)
          · exact v1.trans (w64_i _)
          · omega
        show p.v (5000 + i3) = _
        rw [v3, v2, hv1, Int.fdiv_eq_ediv_of_nonneg _ (by omega)]
theorem rkV_ok {r : Rw} (hR : RwOk p r) {o : Nat} (ho : o = 7 ∨ o = 8 ∨ o = 9 ∨ o = 12) {x y z : Sc} (h : rkV r o x y = some z) : goodS z = true ∧ scN p z = wrap64 (opR o (scN p x) (scN p y) * 2) / 2 := by
  unfold rkV at h
  split at h
  · rename_i a
    split at h
    · rename_i b
      rw [forceI_eq] at h
      cases hk : okI (rkC o a b) with
      | false => rw [hk] at h; cases h
      | true =>
        rw [hk] at h
        cases h
        refine ⟨rfl, ?_⟩
        unfold okI at hk
        rw [Bool.and_eq_true, ile_eq, ile_eq, decide_eq_true_eq, decide_eq_true_eq] at hk
        obtain ⟨k1, k2⟩ := hk
        have k1 : (-4611686018427387904 : Int) ≤ rkC o a b := k1
        have k2 : rkC o a b ≤ (4611686018427387903 : Int) := k2
        show rkC o a b = wrap64 (opR o a b * 2) / 2
        have hop : opR o a b = rkC o a b := by
          rcases ho with rfl | rfl | rfl | rfl
          · have : rkC 7 a b = a + b := rfl
            show wrap64 (a + b) = _
            rw [this] at k1 k2 ⊢
            unfold wrap64; omega
          · have : rkC 8 a b = a - b := rfl
            show wrap64 (a - b) = _
            rw [this] at k1 k2 ⊢
            unfold wrap64; omega
          · have : rkC 9 a b = a * b := rfl
            show wrap64 (a * b) = _
            rw [this] at k1 k2 ⊢
            generalize a * b = c at k1 k2 ⊢
            unfold wrap64; omega
          · show tru (a == b) = (bif ieq a b then 1 else 0)
            rw [ieq_eq]
            cases a == b <;> rfl
        rw [hop]
        generalize rkC o a b = c at k1 k2 ⊢
        unfold wrap64; omega
    · exact rkF_ok hR ho h
  · exact rkF_ok hR ho h
theorem loc_optm' {n : Nat} {o : Option Sc} {f : Sc → M AV} (h : ∀ x, Ev.Loc (f x)) : Ev.Loc (optm n o f) := by
  cases o with
  | none => exact loc_no _
  | some x => exact h x
theorem loc_rck {r : Rw} {call : Cal} (hcall : ∀ f args, Ev.Loc (call f args)) {args : List AV} {m : M AV} (h : hRck r call args = some m) : Ev.Loc m := by
  unfold hRck at h
  split at h
  · cases h; exact loc_iff (loc_look fun _ => loc_iff (loc_optm' fun _ => loc_put2 _ _ _ _ _) (loc_no _)) (hcall _ _)
  · cases h
theorem fnRck : FnOk Tryz.prog 75 := ⟨_, Tryz.func75, by kernel_rfl, by kernel_rfl⟩
theorem rkO_ok {o : Nat} (h : rkO o = true) : o = 7 ∨ o = 8 ∨ o = 9 ∨ o = 12 := by
  unfold rkO at h
  simp only [Bool.or_eq_true] at h
  rcases h with h | h | h | h
  · exact .inl (Nat.eq_of_beq_eq_true h)
  · exact .inr (.inl (Nat.eq_of_beq_eq_true h))
  · exact .inr (.inr (.inl (Nat.eq_of_beq_eq_true h)))
  · exact .inr (.inr (.inr (Nat.eq_of_beq_eq_true h)))
theorem ag5 {ρ : Rh} {x0 x1 x2 x3 x4 : Sc} {v : Value} (h : VA p.env ρ (.ag [x0, x1, x2, x3, x4]) v) : ∃ u0 u1 u2 u3 u4, VS p.env ρ x0 u0 ∧ VS p.env ρ x1 u1 ∧ VS p.env ρ x2 u2 ∧ VS p.env ρ x3 u3 ∧ VS p.env ρ x4 u4 ∧ v = .agg #[u0, u1, u2, u3, u4] := by
  obtain ⟨⟨l⟩, rfl, hl⟩ := h
  cases hl with
  | cons q0 hl => cases hl with
    | cons q1 hl => cases hl with
      | cons q2 hl => cases hl with
        | cons q3 hl => cases hl with
          | cons q4 hl =>
            cases hl
            exact ⟨_, _, _, _, _, q0, q1, q2, q3, q4, rfl⟩
theorem opt_ok {n : Nat} {o : Option Sc} {f : Sc → M AV} {s s' : St} {v : AV} (h : optm n o f s = .ok v s') : ∃ x, o = some x ∧ f x s = .ok v s' := by
  cases o with
  | none => exact no_ok h
  | some x => exact ⟨x, rfl, h⟩
theorem rck_sim {T : Tab} (hTP : T.P = Tryz.prog) {call : Cal} (hS : SimC T p.env N call) {r : Rw} (hR : RwOk p r) {args : List AV} {m : M AV} (hm : hRck r call args = some m) : HS p.env N 75 args m := by
  intro s v s' ρ w us h hsx hG ha hr hf
  unfold hRck at hm
  split at hm
  · rename_i rb o q x y pl
    cases hm
    rcases iff_ok h with ⟨c0, hA⟩ | ⟨_, hA⟩
    · refine ⟨fnRck, ?_⟩
      simp only [Bool.and_eq_true] at c0
      obtain ⟨c1, c2, c3, c4, c5, c6⟩ := c0
      have c1 := rkO_ok c1
      have c2 := blt_t c2
      have c3 := blt_t c3
      have c4 := blt_t c4
      have c5 := ble_t c5
      obtain ⟨s1, e1, e2, hB⟩ := look_same hA
      obtain ⟨d0, hC⟩ := iff_no hB
      simp only [Bool.and_eq_true] at d0
      obtain ⟨d1, d2, d3, d4, d5⟩ := d0
      have d1 : 22 ≤ (get5 rb s.h).n := ble_t d1
      have d2 := isF_b d2
      have d3 := isF_b d3
      obtain ⟨z, ez, hD⟩ := opt_ok hC
      obtain ⟨gz, hz⟩ := rkV_ok (p := p) hR c1 ez
      obtain ⟨_, rfl, f1, f2⟩ := put2_ok hD
      cases ha with
      | cons k1 ha =>
        cases ha with
        | cons k2 ha =>
          cases ha
          obtain ⟨k, zz, hk, rfl⟩ := k1
          obtain ⟨u0, u1, u2, u3, u4, q0, q1, q2, q3, q4, rfl⟩ := ag5 k2
          have q0 : u0 = .int .i64 (o : Int) := q0
          have q1 : u1 = .int .i64 (q : Int) := q1
          have q2 : u2 = .int .i64 (x : Int) := q2
          have q3 : u3 = .int .i64 (y : Int) := q3
          have q4 := good_is c6 q4
          subst q0 q1 q2 q3 q4
          obtain ⟨hlv, arr, ty, lo, hi, hzz, g1, g2, g3, g4, g5⟩ := hr.get hk (by omega)
          have g2 : lo = hi ∨ arr.size ≤ lo := g2.resolve_left (by omega)
          obtain ⟨t1, a1, b1⟩ := g5 (6 + x * 2) (by omega)
          obtain ⟨t2, a2, b2⟩ := g5 (7 + x * 2) (by omega)
          obtain ⟨t3, a3, b3⟩ := g5 (6 + y * 2) (by omega)
          obtain ⟨t4, a4, b4⟩ := g5 (7 + y * 2) (by omega)
          have d2 : (get5 rb s.h).t.get (6 + x * 2) = .b false := d2
          have d3 : (get5 rb s.h).t.get (6 + y * 2) = .b false := d3
          rw [d2] at b1
          rw [d3] at b3
          have b1 : t1 = .bool false := b1
          have b3 : t3 = .bool false := b3
          have b2 := good_is d4 b2
          have b4 := good_is d5 b4
          subst b1 b2 b3 b4
          refine (reckon_w g1 g2 (by omega) c3 c4 c2 a1 (by rw [show 6 + x * 2 + 1 = 7 + x * 2 by omega]; exact a2) a3 (by rw [show 6 + y * 2 + 1 = 7 + y * 2 by omega]; exact a4) c1).mono ?_
          rintro e w' ⟨rfl, hcel⟩
          refine ⟨_, ρ, rfl, ⟨#[], rfl, .nil⟩, ?_⟩
          rw [f1, f2, e1, e2]
          exact post_cel hr _ c5 hlv hk g1 (a := 6 + q * 2) (by omega) rfl (by
            have := good_V (p := p) gz ρ
            rw [hz] at this
            exact this) hcel
    · have := hS _ _ _ _ _ ρ w us hA hsx hG ha hr hf
      rw [hTP] at this
      exact this
  · cases hm
/-! moves -/
theorem rd_reg {w : World} {k : Nat} {arr : Array Value} {ty : TypeId} {z : Nat × Nat} (g1 : w.heap[k]? = some (.cells arr ty z)) {x : Nat} (hx : x < 8) {a : Bool} {b : Int} (a1 : arr[6 + x * 2]? = some (.bool a)) (a2 : arr[7 + x * 2]? = some (.int .i64 b)) : Rd w 127 #[.pointer (some ⟨k, 0, none⟩), .int .i64 (x : Nat)] (.agg #[.bool a, .int .i64 b]) := fun W hW => by
  have hk := (hW.block k (zb_lt g1)).trans g1
  exact register_w hx (zb_lt hk) ((cell_of hk _).trans a1) ((cell_of hk _).trans (by rw [show 6 + x * 2 + 1 = 7 + x * 2 by omega]; exact a2))
theorem rd_slot {w : World} {r g nf cap sb ns cp n : Nat} (h : Sls w r g nf cap sb ns cp) (hnf : nf ≤ 1000) (hns : ns ≤ 2000) (hc1 : nf + 1 ≤ cap) (hc2 : ns ≤ cp) (hn : n < ns) {arr : Array Value} {ty : TypeId} {z : Nat × Nat} (g1 : w.heap[sb]? = some (.cells arr ty z)) {a : Bool} {b : Int} (a1 : arr[n * 2]? = some (.bool a)) (a2 : arr[n * 2 + 1]? = some (.int .i64 b)) : Rd w 166 #[.pointer (some ⟨r, 0, none⟩), .int .i64 (n : Nat)] (.agg #[.bool a, .int .i64 b]) := fun W hW => by
  have hk := (hW.block sb (zb_lt g1)).trans g1
  exact slot_w (h.on hW) hnf hns hc1 hc2 hn ((cell_of hk _).trans a1) ((cell_of hk _).trans a2)
theorem fnMve : FnOk Tryz.prog 74 := ⟨_, Tryz.func74, by kernel_rfl, by kernel_rfl⟩
/-- what is asked of a move -/
def MvS (p : Pm) (k : Nat) (o q x y pl : Int) (ρ : Rh) (s s' : St) (w : World) (v : AV) : Prop := Calls Tryz.prog 74 #[.pointer (some ⟨k, 0, none⟩), .agg #[.int .i64 o, .int .i64 q, .int .i64 x, .int .i64 y, .int .i64 pl]] w fun e w' => ∃ v' ρ', e = .returned v' ∧ VA p.env ρ' v v' ∧ Post p.env ρ s.h s.nx w ρ' s'.h s'.nx w'
theorem mv2_sim {ρ : Rh} {s s' : St} {w : World} {v : AV} (hr : HR p.env ρ s.h w) {rb k z q x : Nat} {y pl : Int} (hk : ρ rb = some (k, z)) (h8 : 8 ≤ rb) (hq : q < 8) (h : mv2 rb q x s = .ok v s') : MvS p k 2 q x y pl ρ s s' w v := by
  unfold mv2 at h
  obtain ⟨c1, hA⟩ := iff_no h
  have c1 : x < 8 := blt_t c1
  obtain ⟨s1, e1, e2, hB⟩ := look_same hA
  obtain ⟨c2, hC⟩ := iff_no hB
  rw [Bool.and_eq_true] at c2
  have c3 : 22 ≤ (get5 rb s.h).n := ble_t c2.1
  obtain ⟨xb, hx, hy⟩ := isN_V c2.2
  have hx : (get5 rb s.h).t.get (6 + x * 2) = .b xb := hx
  have hy : goodS ((get5 rb s.h).t.get (7 + x * 2)) = true := hy
  obtain ⟨_, rfl, f1, f2⟩ := put2_ok hC
  obtain ⟨hlv, arr, ty, lo, hi, hz, g1, g2, g3, g4, g5⟩ := hr.get hk (by omega)
  have g2 : lo = hi ∨ arr.size ≤ lo := g2.resolve_left (by omega)
  obtain ⟨t1, a1, b1⟩ := g5 (6 + x * 2) (by omega)
  obtain ⟨t2, a2, b2⟩ := g5 (7 + x * 2) (by omega)
  have b1' := b1
  have b2' := b2
  rw [hx] at b1
  have b1 : t1 = .bool xb := b1
  have b2 := good_is hy b2
  subst b1 b2
  refine (move_r (.inr (.inl rfl)) hq g1 g2 (by omega) (moved_mov (rd_reg g1 c1 a1 a2))).mono ?_
  rintro e w' ⟨rfl, hcel⟩
  refine ⟨_, ρ, rfl, ⟨#[], rfl, .nil⟩, ?_⟩
  rw [f1, f2, e1, e2]
  exact post_cel hr _ h8 hlv hk g1 (a := 6 + q * 2) (by omega) b1' b2' hcel
theorem mv3_sim {ρ : Rh} {s s' : St} {w : World} {v : AV} (hr : HR p.env ρ s.h w) {rb k z q x : Nat} {y pl : Int} (hk : ρ rb = some (k, z)) (h8 : 8 ≤ rb) (hq : q < 8) (h : mv3 rb q x s = .ok v s') : MvS p k 3 q x y pl ρ s s' w v := by
  unfold mv3 at h
  obtain ⟨fb, nf, sb, ns, s1, e1, e2, c1, he, c2, c3, he2, c4, hK⟩ := slsK_ok h
  obtain ⟨c5, hA⟩ := iff_no hK
  have c5 : x < ns := blt_t c5
  obtain ⟨s2, e3, e4, hB⟩ := look_same hA
  rw [e1] at hB e3
  rw [e2] at e4
  obtain ⟨c6, hC⟩ := iff_no hB
  rw [Bool.and_eq_true] at c6
  have c7 : x * 2 + 2 ≤ (get5 sb s.h).n := ble_t c6.1
  obtain ⟨xb, hx, hy⟩ := isN_V c6.2
  have hx : (get5 sb s.h).t.get (x * 2) = .b xb := hx
  have hy : goodS ((get5 sb s.h).t.get (x * 2 + 1)) = true := hy
  obtain ⟨s3, e5, e6, hD⟩ := look_same hC
  rw [e3] at hD e5
  rw [e4] at e6
  obtain ⟨d1, hE⟩ := iff_no hD
  have d1 : 22 ≤ (get5 rb s.h).n := ble_t d1
  obtain ⟨_, rfl, f1, f2⟩ := put2_ok hE
  obtain ⟨g, cap, sb', cp, z', hS, q1, q2, hs⟩ := sls_at hr hk c1 he c3 he2 (by omega)
  obtain ⟨hlv', arr', ty', lo', hi', hz', g1', g2', g3', g4', g5'⟩ := hr.get hs (by omega)
  obtain ⟨t1, a1, b1⟩ := g5' (x * 2) (by omega)
  obtain ⟨t2, a2, b2⟩ := g5' (x * 2 + 1) (by omega)
  obtain ⟨hlv, arr, ty, lo, hi, hz, g1, g2, g3, g4, g5⟩ := hr.get hk (by omega)
  have g2 : lo = hi ∨ arr.size ≤ lo := g2.resolve_left (by omega)
  have b1' := b1
  have b2' := b2
  rw [hx] at b1
  have b1 : t1 = .bool xb := b1
  have b2 := good_is hy b2
  subst b1 b2
  refine (move_r (.inr (.inr rfl)) hq g1 g2 (by omega) (moved_s3 (rd_slot hS c2 c4 q1 q2 c5 g1' a1 a2))).mono ?_
  rintro e w' ⟨rfl, hcel⟩
  refine ⟨_, ρ, rfl, ⟨#[], rfl, .nil⟩, ?_⟩
  rw [f1, f2, e5, e6]
  exact post_cel hr _ h8 hlv hk g1 (a := 6 + q * 2) (by omega) b1' b2' hcel
/-- a number goes into a slot: or what else was asked for came true -/
theorem mvS_sim {ρ : Rh} {s s' : St} {w : World} {v : AV} {el : M AV} (hr : HR p.env ρ s.h w) {rb k z x : Nat} {o q y pl : Int} {u : Sc} (hk : ρ rb = some (k, z)) (hu : goodS u = true) (ho : o = 5 ∨ o = 6) (hC : Rd w 124 #[.pointer (some ⟨k, 0, none⟩), .agg #[.int .i64 o, .int .i64 q, .int .i64 (x : Nat), .int .i64 y, .int .i64 pl]] (.agg #[.bool false, .int .i64 (scN p u)])) (h : mvS el rb x u s = .ok v s') : MvS p k o q x y pl ρ s s' w v ∨ ∃ s1, s1.h = s.h ∧ s1.nx = s.nx ∧ el s1 = .ok v s' := by
  unfold mvS at h
  obtain ⟨fb, nf, sb, ns, s1, e1, e2, c1, he, c2, c3, he2, c4, hK⟩ := slsK_ok h
  obtain ⟨c5, hA⟩ := iff_no hK
  rw [Bool.and_eq_true] at c5
  have c8 : 8 ≤ sb := ble_t c5.2
  have c5 : x < ns := blt_t c5.1
  obtain ⟨s2, e3, e4, hB⟩ := look_same hA
  rw [e1] at hB e3
  rw [e2] at e4
  obtain ⟨c6, hD⟩ := iff_no hB
  have c7 : x * 2 + 2 ≤ (get5 sb s.h).n := ble_t c6
  rcases iff_ok hD with ⟨c9, hE⟩ | ⟨_, hE⟩
  · rw [Bool.and_eq_true] at c9
    have hx : (get5 sb s.h).t.get (x * 2) = .b false := isF_eq c9.1
    have hy0 : goodS ((get5 sb s.h).t.get (x * 2 + 1)) = true := c9.2
    obtain ⟨_, rfl, f1, f2⟩ := put2_ok hE
    obtain ⟨g, cap, sb', cp, z', hS', q1, q2, hs⟩ := sls_at hr hk c1 he c3 he2 (by omega)
    obtain ⟨hlv, arr, ty, lo, hi, hz, g1, g2, g3, g4, g5⟩ := hr.get hs (by omega)
    have g2 : lo = hi ∨ arr.size ≤ lo := g2.resolve_left (by omega)
    obtain ⟨t1, a1, b1⟩ := g5 (x * 2) (by omega)
    obtain ⟨t2, a2, b2⟩ := g5 (x * 2 + 1) (by omega)
    rw [hx] at b1
    have b1 : t1 = .bool false := b1
    have b2 := good_is hy0 b2
    subst b1 b2
    refine .inl ((move_s ho hS' c2 c4 q1 q2 c5 g1 g2 a1 a2 hC).mono ?_)
    rintro e w' ⟨rfl, hcel⟩
    refine ⟨_, ρ, rfl, ⟨#[], rfl, .nil⟩, ?_⟩
    rw [f1, f2, e3, e4]
    exact post_cel hr _ c8 hlv hs g1 (a := x * 2) (by omega) rfl (good_V hu ρ) hcel
  · exact .inr ⟨s2, e3, e4, hE⟩
theorem mv5_sim {ρ : Rh} {s s' : St} {w : World} {v : AV} {el : M AV} (hr : HR p.env ρ s.h w) {rb k z q x : Nat} {y pl : Int} (hk : ρ rb = some (k, z)) (hq : q < 8) (h : mv5 el rb q x s = .ok v s') : MvS p k 5 q x y pl ρ s s' w v ∨ ∃ s1, s1.h = s.h ∧ s1.nx = s.nx ∧ el s1 = .ok v s' := by
  unfold mv5 at h
  obtain ⟨s1, e1, e2, hB⟩ := look_same h
  obtain ⟨c2, hC⟩ := iff_no hB
  have c3 : 22 ≤ (get5 rb s.h).n := ble_t c2
  rcases iff_ok hC with ⟨c9, hE⟩ | ⟨_, hE⟩
  · rw [Bool.and_eq_true] at c9
    have hx : (get5 rb s.h).t.get (6 + q * 2) = .b false := isF_eq c9.1
    have hy : goodS ((get5 rb s.h).t.get (7 + q * 2)) = true := c9.2
    obtain ⟨hlv, arr, ty, lo, hi, hz, g1, g2, g3, g4, g5⟩ := hr.get hk (by omega)
    obtain ⟨t1, a1, b1⟩ := g5 (6 + q * 2) (by omega)
    obtain ⟨t2, a2, b2⟩ := g5 (7 + q * 2) (by omega)
    rw [hx] at b1
    have b1 : t1 = .bool false := b1
    have b2 := good_is hy b2
    subst b1 b2
    rcases mvS_sim (s := s1) (by rw [e1]; exact hr) (z := z) (y := y) (pl := pl) (q := (q : Int)) (o := 5) hk hy (.inl rfl) (moved_sts (rd_reg g1 hq a1 a2)) hE with h1 | ⟨s2, h1, h2, h3⟩
    · unfold MvS at h1
      rw [e1, e2] at h1
      exact .inl h1
    · exact .inr ⟨s2, h1.trans e1, h2.trans e2, h3⟩
  · exact .inr ⟨s1, e1, e2, hE⟩
theorem mv4_sim {ρ : Rh} {s s' : St} {w : World} {v : AV} {el : M AV} (hr : HR p.env ρ s.h w) {rb k z q x : Nat} {y pl : Int} (hk : ρ rb = some (k, z)) (h8 : 8 ≤ rb) (hq : q < 8) (h : mv4 el rb q x s = .ok v s') : MvS p k 4 q x y pl ρ s s' w v ∨ ∃ s1, s1.h = s.h ∧ s1.nx = s.nx ∧ el s1 = .ok v s' := by
  unfold mv4 at h
  obtain ⟨fb, nf, sb, ns, s1, e1, e2, c1, he, c2, c3, he2, c4, hK⟩ := slsK_ok h
  obtain ⟨c5, hA⟩ := iff_no hK
  rw [Bool.and_eq_true, Bool.and_eq_true] at c5
  have c8 : 8 ≤ sb := ble_t c5.2.1
  have hne : sb ≠ rb := fun e => by
    have h := c5.2.2
    rw [nt_eq, e, Nat.beq_refl] at h
    cases h
  have c5 : x < ns := blt_t c5.1
  obtain ⟨s2, e3, e4, hB⟩ := look_same hA
  rw [e1] at hB e3
  rw [e2] at e4
  obtain ⟨c6, hD⟩ := iff_no hB
  have c7 : x * 2 + 2 ≤ (get5 sb s.h).n := ble_t c6
  rcases iff_ok hD with ⟨c9, hE⟩ | ⟨_, hE⟩
  · rw [Bool.and_eq_true] at c9
    have hx : (get5 sb s.h).t.get (x * 2) = .b false := isF_eq c9.1
    have hy0 : goodS ((get5 sb s.h).t.get (x * 2 + 1)) = true := c9.2
    obtain ⟨b0, s3, hP, hF⟩ := bnd_ok hE
    obtain ⟨_, _, f1, f2⟩ := put2_ok (a := x * 2) hP
    obtain ⟨s4, e5, e6, hH⟩ := look_same hF
    obtain ⟨d1, hI⟩ := iff_no hH
    obtain ⟨_, rfl, f3, f4⟩ := put2_ok hI
    obtain ⟨g, cap, sb', cp, z', hS', q1, q2, hs⟩ := sls_at hr hk c1 he c3 he2 (by omega)
    obtain ⟨hlv', arr', ty', lo', hi', hz', g1', g2', g3', g4', g5'⟩ := hr.get hs (by omega)
    have g2' : lo' = hi' ∨ arr'.size ≤ lo' := g2'.resolve_left (by omega)
    obtain ⟨t1, a1, b1⟩ := g5' (x * 2) (by omega)
    obtain ⟨t2, a2, b2⟩ := g5' (x * 2 + 1) (by omega)
    rw [hx] at b1
    have b1 : t1 = .bool false := b1
    have b2 := good_is hy0 b2
    subst b1 b2
    rw [e3] at f2
    -- the first block's change leaves the run's
    have hrb : get5 rb s3.h = get5 rb s.h := by
      have hrl := (hr.dom rb _ hk)
      have hsl := hlv'.1
      rw [f2, get_hset hrl hsl, if_neg (fun e => hne e.symm), get_hset hrl hsl, if_neg (fun e => hne e.symm)]
    have d1 : 22 ≤ (get5 rb s.h).n := by rw [← hrb]; exact ble_t d1
    obtain ⟨hlv, arr, ty, lo, hi, hz, g1, g2, g3, g4, g5⟩ := hr.get hk (by omega)
    have g2 : lo = hi ∨ arr.size ≤ lo := g2.resolve_left (by omega)
    have hkne : k ≠ sb' := fun e => hne (by
      subst e
      exact hr.inj sb rb k z' z hlv' hlv hs hk)
    refine .inl ((move_b hq hS' c2 c4 q1 q2 c5 g1' g2' a1 a2 g1 g2 (by omega) hkne (moved_s4 (rd_slot hS' c2 c4 q1 q2 c5 g1' a1 a2))).mono ?_)
    rintro e w' ⟨rfl, wm, hc1, hc2⟩
    refine ⟨_, ρ, rfl, ⟨#[], rfl, .nil⟩, ?_⟩
    have P1 := post_cel hr s.nx c8 hlv' hs g1' (a := x * 2) (by omega) (x := .b false) (y := z0) rfl rfl hc1
    rw [← f2] at P1
    have hlv2 : Live s3.h rb := ⟨hlv.1, by rw [hrb]; exact hlv.2⟩
    have hgm : wm.heap[k]? = some (.cells arr ty (lo, hi)) := (hc1.rest k (zb_lt g1) hkne).trans g1
    have P2 := post_cel P1.hr s.nx h8 hlv2 hk hgm (a := 6 + q * 2) (by rw [hrb]; omega) (x := .b false) rfl (good_V hy0 ρ) hc2
    rw [f3, f4, e5, e6, f1, e4]
    exact P1.trans P2 (Nat.le_refl _) (Nat.le_refl _)
  · exact .inr ⟨s2, e3, e4, hE⟩
theorem VSl {ρ : Rh} {b i : Nat} {v : Value} (h : VS p.env ρ (.ps b i) v) : ∃ k z cap, ρ b = some (k, z) ∧ v = .slice (some ⟨k, 0, none⟩) (ddI p.env i).length cap := by
  obtain ⟨k, z, cap, e, rfl, _⟩ := h
  exact ⟨k, z, cap, e, rfl⟩
theorem mv1_sim {pq : Nat → Option Sc} (hQ : Pq p.env pq) {ρ : Rh} {s s' : St} {w : World} {v : AV} (hr : HR p.env ρ s.h w) {rb k z q j : Nat} {y pl : Int} (hk : ρ rb = some (k, z)) (h8 : 8 ≤ rb) (hq : q < 8) (h : mv1 pq rb q j s = .ok v s') : MvS p k 1 q (p.v j) y pl ρ s s' w v := by
  unfold mv1 at h
  obtain ⟨s1, e1, e2, hB⟩ := look_same h
  obtain ⟨c3, hC⟩ := iff_no hB
  have c3 : 22 ≤ (get5 rb s.h).n := ble_t c3
  generalize hc1 : (get5 rb s.h).t.get 1 = c at hC
  cases c with
  | ps b i =>
    obtain ⟨c0, hD⟩ := iff_no hC
    simp only [Bool.and_eq_true] at c0
    obtain ⟨d0, d1, d2⟩ := c0
    have d0 : i ≤ 1000 := ble_t d0
    have d1 : 4000 ≤ j := ble_t d1
    have d2 : j - 4000 < i := blt_t d2
    obtain ⟨s2, e3, e4, hE⟩ := look_same hD
    rw [e1] at hE e3
    rw [e2] at e4
    obtain ⟨i', hi', hF⟩ := optm_ok hE
    obtain ⟨d3, hG⟩ := iff_no hF
    have d3 : i = i' := Nat.eq_of_beq_eq_true d3
    subst d3
    obtain ⟨u, hu, hH⟩ := optm_ok hG
    obtain ⟨_, rfl, f1, f2⟩ := put2_ok hH
    obtain ⟨t, rfl⟩ : ∃ t, j = 4000 + t := ⟨j - 4000, by omega⟩
    have hsub : Nat.sub (4000 + t) 4000 = t := Nat.add_sub_cancel_left 4000 t
    rw [hsub] at hu
    obtain ⟨hlv, arr, ty, lo, hi, hz, g1, g2, g3, g4, g5⟩ := hr.get hk (by omega)
    have g2 : lo = hi ∨ arr.size ≤ lo := g2.resolve_left (by omega)
    obtain ⟨t0, a0, b0⟩ := g5 0 (by omega)
    obtain ⟨t1, a1, b1⟩ := g5 1 (by omega)
    obtain ⟨t2, a2, b2⟩ := g5 2 (by omega)
    rw [hc1] at b1
    obtain ⟨kb, zb, cap, eb, rfl⟩ := VSl b1
    have hroom : 0 < (get5 b s.h).t.room := by
      cases ht : (get5 b s.h).t with
      | pl q => exact Nat.zero_lt_succ 7
      | _ => rw [ht] at hi'; cases hi'
    have hlvb : Live s.h b := ⟨hr.dom b _ eb, hroom⟩
    obtain ⟨k', arrb, tyb, lob, hib, e', gb1, _, _, _, _, gb6⟩ := (hr.blk b hlvb).ex
    rw [eb] at e'
    cases e'
    obtain ⟨m, hm1, hm2⟩ := hQ.num t u hu
    have hpi : pI p.env t = m := by unfold pI; rw [hm1]; rfl
    have hpos := hQ.pos t u hu
    have hmem : ∀ q, t < q → pI p.env t ∈ ddI p.env q ∧ (ddI p.env q).idxOf (pI p.env t) = (ddI p.env (t + 1)).idxOf (pI p.env t) := by
      intro q hq
      induction q with
      | zero => omega
      | succ q ih =>
        by_cases hqt : q = t
        · subst hqt
          refine ⟨?_, rfl⟩
          by_cases hin : pI p.env q ∈ ddI p.env q
          · rw [dd_old hin]; exact hin
          · rw [dd_new hin]; simp
        · obtain ⟨d1, d2⟩ := ih (by omega)
          by_cases hin : pI p.env q ∈ ddI p.env q
          · rw [dd_old hin]; exact ⟨d1, d2⟩
          · rw [dd_new hin]; exact ⟨List.mem_append_left _ d1, by rw [List.idxOf_append, if_pos d1]; exact d2⟩
    obtain ⟨m1, m2⟩ := hmem i (by omega)
    have hlt := List.idxOf_lt_length_of_mem m1
    have hat : (ddI p.env i)[(ddI p.env i).idxOf (pI p.env t)]? = some (pI p.env t) := by rw [List.getElem?_eq_getElem hlt, List.getElem_idxOf]
    have hce : w.cell? ⟨kb, (ddI p.env i).idxOf (pI p.env t), none⟩ = some (.int .i64 m) := by rw [cell_of gb1, gb6 i hi' _ _ hat, hpi]
    have hdl := dd_len (env := p.env) i
    have hi70 : (ddI p.env i).length ≤ 70000 := by omega
    have hkl := hr.lt hlvb eb
    have hpv : p.v (4000 + t) = (((ddI p.env i).idxOf (pI p.env t) : Nat) : Int) := by
      have : p.env (4000 + t) = .int .i64 (p.v (4000 + t)) := env_int p (by omega)
      rw [this] at hpos
      have h2 := (Value.int.inj hpos).2
      rw [h2, m2]
    have hC1 : Rd w 165 #[.agg #[t0, .slice (some ⟨kb, 0, none⟩) (ddI p.env i).length cap, t2], .int .i64 (p.v (4000 + t))] (.int .i64 m) := fun W hW => by
      rw [hpv]
      exact con_w hi70 hlt (Nat.lt_of_lt_of_le hkl hW.size) ((hW.cell (p := ⟨kb, _, none⟩) hkl).trans hce)
    refine (move_r (.inl rfl) hq g1 g2 (by omega) (moved_ldi (zb_lt g1) ((cell_of g1 _).trans a0) ((cell_of g1 _).trans a1) ((cell_of g1 _).trans a2) hC1)).mono ?_
    rintro e w' ⟨rfl, hcel⟩
    refine ⟨_, ρ, rfl, ⟨#[], rfl, .nil⟩, ?_⟩
    rw [f1, f2, e3, e4]
    exact post_cel hr _ h8 hlv hk g1 (a := 6 + q * 2) (by omega) rfl (hm2 ρ) hcel
  | _ => exact no_ok hC
theorem loc_mv1 (pq : Nat → Option Sc) (rb q j : Nat) : Ev.Loc (mv1 pq rb q j) := by
  unfold mv1
  refine loc_look fun B => loc_iff ?_ (loc_no _)
  generalize B.t.get 1 = c
  cases c with
  | ps b i => exact loc_iff (loc_look fun C => loc_optm fun i' => loc_iff (loc_optm' fun z => loc_put2 _ _ _ _ _) (loc_no _)) (loc_no _)
  | _ => exact loc_no _
theorem loc_mv2 (rb q x : Nat) : Ev.Loc (mv2 rb q x) := loc_iff (loc_look fun _ => loc_iff (loc_put2 _ _ _ _ _) (loc_no _)) (loc_no _)
theorem loc_mv3 (rb q x : Nat) : Ev.Loc (mv3 rb q x) := loc_slsK fun _ _ => loc_iff (loc_look fun _ => loc_iff (loc_look fun _ => loc_iff (loc_put2 _ _ _ _ _) (loc_no _)) (loc_no _)) (loc_no _)
theorem loc_mv4 {el : M AV} (he : Ev.Loc el) (rb q x : Nat) : Ev.Loc (mv4 el rb q x) := loc_slsK fun _ _ => loc_iff (loc_look fun _ => loc_iff (loc_iff (loc_bnd (loc_put2 _ _ _ _ _) fun _ => loc_look fun _ => loc_iff (loc_put2 _ _ _ _ _) (loc_no _)) he) (loc_no _)) (loc_no _)
theorem loc_mvS {el : M AV} (he : Ev.Loc el) (rb x : Nat) (z : Sc) : Ev.Loc (mvS el rb x z) := loc_slsK fun _ _ => loc_iff (loc_look fun _ => loc_iff (loc_iff (loc_put2 _ _ _ _ _) he) (loc_no _)) (loc_no _)
theorem loc_mv5 {el : M AV} (he : Ev.Loc el) (rb q x : Nat) : Ev.Loc (mv5 el rb q x) := loc_look fun _ => loc_iff (loc_iff (loc_mvS he _ _ _) he) (loc_no _)
theorem loc_mvN {el : M AV} (he : Ev.Loc el) (o rb q x : Nat) : Ev.Loc (mvN el o rb q x) := by
  unfold mvN
  cases Nat.beq o 2 with
  | true => exact loc_mv2 _ _ _
  | false =>
    cases Nat.beq o 3 with
    | true => exact loc_mv3 _ _ _
    | false =>
      cases Nat.beq o 4 with
      | true => exact loc_mv4 he _ _ _
      | false =>
        cases Nat.beq o 5 with
        | true => exact loc_mv5 he _ _ _
        | false =>
          cases Nat.beq o 6 with
          | true => exact loc_mvS he _ _ _
          | false => exact he
theorem loc_mve {pq : Nat → Option Sc} {call : Cal} (hcall : ∀ f args, Ev.Loc (call f args)) {args : List AV} {m : M AV} (h : hMve pq call args = some m) : Ev.Loc m := by
  unfold hMve at h
  split at h
  · cases h
    refine loc_iff ?_ (loc_no _)
    split
    · exact loc_mvN (hcall _ _) _ _ _ _
    · exact loc_iff (loc_mv1 _ _ _ _) (loc_no _)
    · exact loc_no _
  · cases h
theorem mve_sim {T : Tab} (hTP : T.P = Tryz.prog) {call : Cal} (hS : SimC T p.env N call) {pq : Nat → Option Sc} (hQ : Pq p.env pq) {args : List AV} {m : M AV} (hm : hMve pq call args = some m) : HS p.env N 74 args m := by
  intro s v s' ρ w us h hsx hG ha hr hf
  unfold hMve at hm
  split at hm
  · rename_i rb o q xx y pl
    cases hm
    obtain ⟨c0, hA⟩ := iff_no h
    simp only [Bool.and_eq_true] at c0
    obtain ⟨c1, c2, c3, c4⟩ := c0
    have c1 := blt_t c1
    have c2 := ble_t c2
    have ha' := ha
    cases ha with
    | cons k1 ha =>
      cases ha with
      | cons k2 ha =>
        cases ha
        obtain ⟨k, zz, hk, rfl⟩ := k1
        obtain ⟨u0, u1, u2, u3, u4, q0, q1, q2, q3, q4, rfl⟩ := ag5 k2
        have q0 : u0 = .int .i64 (o : Int) := q0
        have q1 : u1 = .int .i64 (q : Int) := q1
        have q3 := good_is c3 q3
        have q4 := good_is c4 q4
        subst q0 q1 q3 q4
        have fin : ∀ {x : Int}, MvS p k o q x (scN p y) (scN p pl) ρ s s' w v → u2 = .int .i64 x → FnOk Tryz.prog 74 ∧ Calls Tryz.prog 74 [.pointer (some ⟨k, 0, none⟩), .agg #[.int .i64 (o : Int), .int .i64 (q : Int), u2, .int .i64 (scN p y), .int .i64 (scN p pl)]].toArray w fun e w' => ∃ v' ρ', e = .returned v' ∧ VA p.env ρ' v v' ∧ Post p.env ρ s.h s.nx w ρ' s'.h s'.nx w' := fun {x} hM e => by
          subst e
          exact ⟨fnMve, hM⟩
        cases xx with
        | y j =>
          obtain ⟨d1, hB⟩ := iff_no hA
          have d1 := Nat.eq_of_beq_eq_true d1
          subst d1
          have hj : 4000 ≤ j := by
            unfold mv1 at hB
            obtain ⟨s1, e1, e2, hB⟩ := look_same hB
            obtain ⟨_, hC⟩ := iff_no hB
            generalize (get5 rb s.h).t.get 1 = c at hC
            cases c with
            | ps b i =>
              obtain ⟨c0, _⟩ := iff_no hC
              simp only [Bool.and_eq_true] at c0
              exact ble_t c0.2.1
            | _ => exact no_ok hC
          have q2 : u2 = p.env j := q2
          rw [env_int p (by omega)] at q2
          exact fin (mv1_sim hQ hr hk c2 c1 hB) q2
        | i ki n =>
          cases ki with
          | i64 =>
            cases n with
            | ofNat x =>
              have q2 : u2 = .int .i64 (x : Int) := q2
              have hA : mvN (call 74 [.c (.p rb 0), .ag [.i .i64 (.ofNat o), .i .i64 (.ofNat q), .i .i64 (.ofNat x), y, pl]]) o rb q x s = .ok v s' := hA
              have els : ∀ s1 : St, s1.h = s.h → s1.nx = s.nx → call 74 [.c (.p rb 0), .ag [.i .i64 (.ofNat o), .i .i64 (.ofNat q), .i .i64 (.ofNat x), y, pl]] s1 = .ok v s' → FnOk Tryz.prog 74 ∧ Calls Tryz.prog 74 [.pointer (some ⟨k, 0, none⟩), .agg #[.int .i64 (o : Int), .int .i64 (q : Int), u2, .int .i64 (scN p y), .int .i64 (scN p pl)]].toArray w fun e w' => ∃ v' ρ', e = .returned v' ∧ VA p.env ρ' v v' ∧ Post p.env ρ s.h s.nx w ρ' s'.h s'.nx w' := fun s1 e1 e2 hD => by
                have := hS _ _ _ _ _ ρ w _ hD (by rw [e2]; exact hsx) (by rw [e1]; exact hG) ha' (by rw [e1]; exact hr) (by rw [e2]; exact hf)
                rw [hTP, e1, e2] at this
                exact this
              unfold mvN at hA
              cases b2 : Nat.beq o 2 with
              | true =>
                rw [b2] at hA
                obtain rfl := Nat.eq_of_beq_eq_true b2
                exact fin (mv2_sim hr hk c2 c1 hA) q2
              | false =>
                rw [b2] at hA
                cases b3 : Nat.beq o 3 with
                | true =>
                  rw [b3] at hA
                  obtain rfl := Nat.eq_of_beq_eq_true b3
                  exact fin (mv3_sim hr hk c2 c1 hA) q2
                | false =>
                  rw [b3] at hA
                  cases b4 : Nat.beq o 4 with
                  | true =>
                    rw [b4] at hA
                    obtain rfl := Nat.eq_of_beq_eq_true b4
                    rcases mv4_sim hr hk c2 c1 hA with h1 | ⟨s1, h1, h2, h3⟩
                    · exact fin h1 q2
                    · exact els s1 h1 h2 h3
                  | false =>
                    rw [b4] at hA
                    cases b5 : Nat.beq o 5 with
                    | true =>
                      rw [b5] at hA
                      obtain rfl := Nat.eq_of_beq_eq_true b5
                      rcases mv5_sim hr hk c1 hA with h1 | ⟨s1, h1, h2, h3⟩
                      · exact fin h1 q2
                      · exact els s1 h1 h2 h3
                    | false =>
                      rw [b5] at hA
                      cases b6 : Nat.beq o 6 with
                      | true =>
                        rw [b6] at hA
                        obtain rfl := Nat.eq_of_beq_eq_true b6
                        rcases mvS_sim (u := z0) hr hk rfl (.inr rfl) moved_clr hA with h1 | ⟨s1, h1, h2, h3⟩
                        · exact fin h1 q2
                        · exact els s1 h1 h2 h3
                      | false =>
                        rw [b6] at hA
                        exact els s rfl rfl hA
            | negSucc n => exact no_ok hA
          | _ => exact no_ok hA
        | _ => exact no_ok hA
  · cases hm
theorem tok3 (hc : p.c.oneCell' = true) {l : List Sc} {r : Rw} (hr : RwOk p r) (hl : PqOk p l) (w : World) : TOk (T3 l r) p.env w := by
  have hQ := pq_ok hl
  refine ⟨rfl, ⟨env_ok hc, orc_ok hr rfl, ouc_ok hr rfl, (fun j b e => by cases e), (fun j r e => by cases e), (fun d j r e => by cases e), (fun j k r e => by cases e), (fun j a b r e => by cases e), (fun r x ρ us e => by cases e)⟩, ⟨fun f args m h => ?_, fun f args m h => ?_⟩⟩
  · replace h : hkD (pqL l) f args = some m := h
    unfold hkD at h
    cases hf : Nat.beq f 165 with
    | true => rw [hf] at h; exact loc_con h
    | false =>
      rw [hf] at h
      cases hf2 : Nat.beq f 167 with
      | true => rw [hf2] at h; exact loc_hld h
      | false =>
        rw [hf2] at h
        cases hf3 : Nat.beq f 127 with
        | true => rw [hf3] at h; exact loc_reg h
        | false =>
          rw [hf3] at h
          cases hf4 : Nat.beq f 126 with
          | true => rw [hf4] at h; exact loc_srg h
          | false =>
            rw [hf4] at h
            cases hf5 : Nat.beq f 166 with
            | true => rw [hf5] at h; exact loc_slt h
            | false => rw [hf5] at h; cases h
  · replace h : hkD (pqL l) f args = some m := h
    unfold hkD at h
    cases hf : Nat.beq f 165 with
    | true =>
      rw [hf] at h
      obtain rfl := Nat.eq_of_beq_eq_true hf
      exact con_sim hQ h
    | false =>
      rw [hf] at h
      cases hf2 : Nat.beq f 167 with
      | true => rw [hf2] at h; obtain rfl := Nat.eq_of_beq_eq_true hf2; exact hld_sim h
      | false =>
        rw [hf2] at h
        cases hf3 : Nat.beq f 127 with
        | true => rw [hf3] at h; obtain rfl := Nat.eq_of_beq_eq_true hf3; exact reg_sim h
        | false =>
          rw [hf3] at h
          cases hf4 : Nat.beq f 126 with
          | true => rw [hf4] at h; obtain rfl := Nat.eq_of_beq_eq_true hf4; exact srg_sim h
          | false =>
            rw [hf4] at h
            cases hf5 : Nat.beq f 166 with
            | true => rw [hf5] at h; obtain rfl := Nat.eq_of_beq_eq_true hf5; exact slt_sim h
            | false => rw [hf5] at h; cases h
theorem tok7 (hc : p.c.oneCell' = true) {l : List Sc} {r : Rw} (hr : RwOk p r) (hl : PqOk p l) (w : World) : TOk (T7 l r) p.env w := by
  have k3 := tok3 hc hr hl w
  refine ⟨rfl, ⟨env_ok hc, orc_ok hr rfl, ouc_ok hr rfl, (fun j b e => by cases e), (fun j r e => by cases e), (fun d j r e => by cases e), (fun j k r e => by cases e), (fun j a b r e => by cases e), (fun r x ρ us e => by cases e)⟩, ⟨fun f args m h => ?_, fun f args m h => ?_⟩⟩
  · replace h : hkF l r f args = some m := h
    unfold hkF at h
    cases hf : Nat.beq f 125 with
    | true => rw [hf] at h; exact loc_ssl (loc_fn k3.hk.loc 150) h
    | false =>
      rw [hf] at h
      cases hf2 : Nat.beq f 75 with
      | true => rw [hf2] at h; exact loc_rck (loc_fn k3.hk.loc 150) h
      | false =>
        rw [hf2] at h
        cases hf3 : Nat.beq f 74 with
        | true => rw [hf3] at h; exact loc_mve (loc_fn k3.hk.loc 150) h
        | false => rw [hf3] at h; exact k3.hk.loc f args m h
  · replace h : hkF l r f args = some m := h
    unfold hkF at h
    cases hf : Nat.beq f 125 with
    | true =>
      rw [hf] at h
      obtain rfl := Nat.eq_of_beq_eq_true hf
      exact ssl_sim rfl (TOk.sim k3 150) h
    | false =>
      rw [hf] at h
      cases hf2 : Nat.beq f 75 with
      | true => rw [hf2] at h; obtain rfl := Nat.eq_of_beq_eq_true hf2; exact rck_sim rfl (TOk.sim k3 150) hr h
      | false =>
        rw [hf2] at h
        cases hf3 : Nat.beq f 74 with
        | true => rw [hf3] at h; obtain rfl := Nat.eq_of_beq_eq_true hf3; exact mve_sim rfl (TOk.sim k3 150) (pq_ok hl) h
        | false => rw [hf3] at h; exact k3.hk.sim f args m h
end
end Lo
end Go.Proofs.YtjmifcnfnihhnaaGreatDoor
/- LOOPED: a line of the machine: its hook is sound. -/
set_option linter.unusedVariables false
set_option linter.unusedSimpArgs false
namespace Go.Proofs.YtjmifcnfnihhnaaGreatDoor
namespace Lo
open Ev Go.RowKit Sm
theorem fnStp : FnOk Tryz.prog 46 := ⟨_, Tryz.func46, by kernel_rfl, by kernel_rfl⟩
theorem step_w2 {w : World} {r : Nat} {arr : Array Value} {ty : TypeId} {lo hi : Nat} (hb : w.heap[r]? = some (.cells arr ty (lo, hi))) (hz : lo = hi ∨ arr.size ≤ lo) {an0 an1 : Option Addr} {n0 c0' n1 c1' g nl cl N S op : Nat} {q x y p : Int}
    (a0 : arr[0]? = some (.slice an0 n0 c0')) (a1 : arr[1]? = some (.slice an1 n1 c1')) (a2 : arr[2]? = some (.slice (some ⟨g, 0, none⟩) nl cl)) (a5 : arr[5]? = some (.int .i64 (N : Nat))) (a33 : arr[33]? = some (.int .i64 (S : Nat)))
    (hgr : g ≠ r) (hgl : g < w.heap.size) (hNl : N < nl) (hnl : nl ≤ 70000) (hcl : nl ≤ cl) (hst : S ≤ 1000000)
    (d0 : w.cell? ⟨g, N * 5, none⟩ = some (.int .i64 (op : Nat))) (d1 : w.cell? ⟨g, N * 5 + 1, none⟩ = some (.int .i64 q)) (d2 : w.cell? ⟨g, N * 5 + 2, none⟩ = some (.int .i64 x)) (d3 : w.cell? ⟨g, N * 5 + 3, none⟩ = some (.int .i64 y)) (d4 : w.cell? ⟨g, N * 5 + 4, none⟩ = some (.int .i64 p))
    {Q : Ending → World → Prop} (hQ : ∀ e w', Q e w' → e = .returned (.tuple #[])) {fo : Nat}
    (h1 : op = 33 → ∀ W : World, W.heap[r]? = some (.cells ((arr.setIfInBounds 33 (.int .i64 ((S : Int) + 1))).setIfInBounds 5 (.int .i64 ((N : Int) + 1))) ty (lo, hi)) → (∀ j, j < w.heap.size → j ≠ r → W.heap[j]? = w.heap[j]?) → Below 0 w W → Calls Tryz.prog fo #[.pointer (some ⟨r, 0, none⟩)] W Q)
    (h2 : op ≠ 33 → ∀ W : World, W.heap[r]? = some (.cells ((arr.setIfInBounds 33 (.int .i64 ((S : Int) + 1))).setIfInBounds 5 (.int .i64 ((N : Int) + 1))) ty (lo, hi)) → (∀ j, j < w.heap.size → j ≠ r → W.heap[j]? = w.heap[j]?) → Below 0 w W → Calls Tryz.prog fo #[.pointer (some ⟨r, 0, none⟩), .agg #[.int .i64 (op : Nat), .int .i64 q, .int .i64 x, .int .i64 y, .int .i64 p]] W Q)
    (hfo : (1 ≤ op ∧ op ≤ 6) ∧ fo = 74 ∨ (7 ≤ op ∧ op ≤ 16) ∧ fo = 75 ∨ (op = 17 ∨ op = 18) ∧ fo = 76 ∨ (op = 19 ∨ op = 20 ∨ op = 23) ∧ fo = 77 ∨ (21 ≤ op ∧ op ≤ 26 ∧ op ≠ 23) ∧ fo = 78 ∨ (op = 27) ∧ fo = 79 ∨ (op = 28) ∧ fo = 80 ∨ (29 ≤ op ∧ op ≤ 32) ∧ fo = 81 ∨ (op = 33) ∧ fo = 82) :
    Calls Tryz.prog 46 #[.pointer (some ⟨r, 0, none⟩)] w Q := by
  have A2 := fun (hn : op ≠ 33) => step_w hb hz a0 a1 a2 a5 a33 hgr hgl hNl hnl hcl hst d0 d1 d2 d3 d4 hQ (h2 hn)
  have A1 := fun (hn : op = 33) => step_w hb hz a0 a1 a2 a5 a33 hgr hgl hNl hnl hcl hst d0 d1 d2 d3 d4 hQ (h1 hn)
  rcases hfo with ⟨q, e⟩ | ⟨q, e⟩ | ⟨q, e⟩ | ⟨q, e⟩ | ⟨q, e⟩ | ⟨q, e⟩ | ⟨q, e⟩ | ⟨q, e⟩ | ⟨q, e⟩
  · exact A2 (by omega) (.inl ⟨q, e, rfl⟩)
  · exact A2 (by omega) (.inr (.inl ⟨q, e, rfl⟩))
  · exact A2 (by omega) (.inr (.inr (.inl ⟨q, e, rfl⟩)))
  · exact A2 (by omega) (.inr (.inr (.inr (.inl ⟨q, e, rfl⟩))))
  · exact A2 (by omega) (.inr (.inr (.inr (.inr (.inl ⟨q, e, rfl⟩)))))
  · exact A2 (by omega) (.inr (.inr (.inr (.inr (.inr (.inl ⟨q, e, rfl⟩))))))
  · exact A2 (by omega) (.inr (.inr (.inr (.inr (.inr (.inr (.inl ⟨q, e, rfl⟩)))))))
  · exact A2 (by omega) (.inr (.inr (.inr (.inr (.inr (.inr (.inr (.inl ⟨q, e, rfl⟩))))))))
  · exact A1 q (.inr (.inr (.inr (.inr (.inr (.inr (.inr (.inr ⟨q, e, rfl⟩))))))))
section
variable {p : Pm} {N : Gs}
theorem kN_3 {k : IntKind} (h : Nat.beq (kN k) 3 = true) : k = .i64 := by cases k <;> first | rfl | cases h
theorem natK_ok {x : Sc} {K : Nat → M AV} {s s' : St} {v : AV} (h : natK x K s = .ok v s') : ∃ n : Nat, x = .i .i64 (n : Int) ∧ K n s = .ok v s' := by
  unfold natK at h
  cases x with
  | i k z =>
    obtain ⟨c, h1⟩ := iff_no h
    obtain ⟨n, hz, h2⟩ := intN_ok h1
    exact ⟨n, by rw [kN_3 c, hz], h2⟩
  | _ => exact no_ok h
theorem isSl_V {env : Nat → Value} {ρ : Rh} {x : Sc} {v : Value} (h : isSl x = true) (hv : VS env ρ x v) : ∃ a n c, v = .slice a n c := by
  unfold isSl at h
  cases x with
  | sl b o l z => obtain ⟨_, _, _, _, e, _⟩ := hv; exact ⟨_, _, _, e⟩
  | ps b i => obtain ⟨_, _, _, _, e, _⟩ := hv; exact ⟨_, _, _, e⟩
  | sn => exact ⟨_, _, _, hv⟩
  | se => obtain ⟨a, c, e⟩ := hv; exact ⟨_, _, _, e⟩
  | _ => cases h
theorem nbt {a b : Nat} (h : nt (Nat.beq a b) = true) : a ≠ b := by
  rintro rfl
  rw [Nat.beq_refl] at h; cases h
theorem loc_natK {x : Sc} {K : Nat → M AV} (hK : ∀ n, Ev.Loc (K n)) : Ev.Loc (natK x K) := by
  unfold natK
  cases x with
  | i k z => exact loc_iff (loc_intN hK) (loc_no _)
  | _ => exact loc_no _
theorem loc_stp {call : Cal} (hcall : ∀ f args, Ev.Loc (call f args)) {args : List AV} {m : M AV} (h : hStp call args = some m) : Ev.Loc m := by
  unfold hStp at h
  split at h
  · cases h
    refine loc_iff (loc_look fun B => loc_iff ?_ (loc_no _)) (loc_no _)
    generalize B.t.get 2 = c
    cases c with
    | sl lb o1 nl z1 =>
      refine loc_iff (loc_natK fun N => loc_natK fun S => loc_iff (loc_look fun L => ?_) (loc_no _)) (loc_no _)
      unfold stpL
      refine loc_iff ?_ (loc_no _)
      generalize L.t.get (Nat.mul N 5) = c
      cases c with
      | i ko zo =>
        refine loc_iff (loc_intN fun o => loc_iff ?_ (loc_no _)) (loc_no _)
        unfold stpG
        rw [forceN_eq, forceN_eq]
        exact loc_cset fun t => loc_put (loc_look fun B1 => loc_cset fun t => loc_put (loc_bnd (hcall _ _) locT))
      | _ => exact loc_no _
    | _ => exact loc_no _
  · cases h
theorem retT_ok {v v' : AV} {s s' : St} (h : retT v s = .ok v' s') : v = .tp [] ∧ v' = .tp [] ∧ s = s' := by
  unfold retT at h
  split at h
  · cases h; exact ⟨rfl, rfl, rfl⟩
  · exact no_ok h
theorem ble_f {m n : Nat} (h : ¬ m ≤ n) : Nat.ble m n = false := by cases hh : Nat.ble m n with | true => exact absurd (Nat.le_of_ble_eq_true hh) h | false => rfl
theorem beq_f {m n : Nat} (h : ¬ m = n) : Nat.beq m n = false := by cases hh : Nat.beq m n with | true => exact absurd (Nat.eq_of_beq_eq_true hh) h | false => rfl
/-- which function, by the line's operation -/
theorem fnO_is {o : Nat} (h1 : 1 ≤ o) (h2 : o ≤ 33) : (1 ≤ o ∧ o ≤ 6) ∧ fnO o = 74 ∨ (7 ≤ o ∧ o ≤ 16) ∧ fnO o = 75 ∨ (o = 17 ∨ o = 18) ∧ fnO o = 76 ∨ (o = 19 ∨ o = 20 ∨ o = 23) ∧ fnO o = 77 ∨ (21 ≤ o ∧ o ≤ 26 ∧ o ≠ 23) ∧ fnO o = 78 ∨ (o = 27) ∧ fnO o = 79 ∨ (o = 28) ∧ fnO o = 80 ∨ (29 ≤ o ∧ o ≤ 32) ∧ fnO o = 81 ∨ (o = 33) ∧ fnO o = 82 := by
  have : o = 1 ∨ o = 2 ∨ o = 3 ∨ o = 4 ∨ o = 5 ∨ o = 6 ∨ o = 7 ∨ o = 8 ∨ o = 9 ∨ o = 10 ∨ o = 11 ∨ o = 12 ∨ o = 13 ∨ o = 14 ∨ o = 15 ∨ o = 16 ∨ o = 17 ∨ o = 18 ∨ o = 19 ∨ o = 20 ∨ o = 21 ∨ o = 22 ∨ o = 23 ∨ o = 24 ∨ o = 25 ∨ o = 26 ∨ o = 27 ∨ o = 28 ∨ o = 29 ∨ o = 30 ∨ o = 31 ∨ o = 32 ∨ o = 33 := by omega
  rcases this with rfl | rfl | rfl | rfl | rfl | rfl | rfl | rfl | rfl | rfl | rfl | rfl | rfl | rfl | rfl | rfl | rfl | rfl | rfl | rfl | rfl | rfl | rfl | rfl | rfl | rfl | rfl | rfl | rfl | rfl | rfl | rfl | rfl <;> simp [fnO, Nat.ble, Nat.beq]
set_option maxHeartbeats 800000 in
theorem stp_sim {T : Tab} (hTP : T.P = Tryz.prog) {call : Cal} (hS : SimC T p.env N call) (hloc : ∀ f args, Ev.Loc (call f args)) {args : List AV} {m : M AV} (hm : hStp call args = some m) : HS p.env N 46 args m := by
  intro s v s' ρ w us h hsx hG ha hr hf
  refine ⟨fnStp, ?_⟩
  unfold hStp at hm
  split at hm
  · rename_i rb
    cases hm
    obtain ⟨c8, hA⟩ := iff_no h
    have c8 : 8 ≤ rb := ble_t c8
    obtain ⟨s1, e1, e2, hB⟩ := look_same hA
    obtain ⟨c1, hC⟩ := iff_no hB
    simp only [Bool.and_eq_true] at c1
    obtain ⟨c1, i0, i1⟩ := c1
    have c1 : 33 < (get5 rb s.h).n := blt_t c1
    have hq2 : ∃ c, (get5 rb s.h).t.get 2 = c := ⟨_, rfl⟩
    obtain ⟨c, hq2⟩ := hq2
    rw [hq2] at hC
    cases c with
    | sl lb o1 nl z1 =>
      obtain ⟨c2, hD⟩ := iff_no hC
      rw [Bool.and_eq_true] at c2
      have c3 : o1 = 0 := Nat.eq_of_beq_eq_true c2.1
      have c4 : z1 = 5 := Nat.eq_of_beq_eq_true c2.2
      subst c3 c4
      obtain ⟨n, hn5, hE⟩ := natK_ok hD
      obtain ⟨st, hn33, hF⟩ := natK_ok hE
      obtain ⟨c5, hH⟩ := iff_no hF
      simp only [Bool.and_eq_true] at c5
      obtain ⟨c5, c6, c7, c9⟩ := c5
      have c5 : n < nl := blt_t c5
      have c6 : nl ≤ 70000 := ble_t c6
      have c7 : st ≤ 1000000 := ble_t c7
      have c9 : lb ≠ rb := nbt c9
      obtain ⟨s2, e3, e4, hI⟩ := look_same hH
      rw [e1] at hI e3
      rw [e2] at e4
      unfold stpL at hI
      obtain ⟨d1, hJ⟩ := iff_no hI
      have d1 : n * 5 + 5 ≤ (get5 lb s.h).n := ble_t d1
      have hq : ∃ c, (get5 lb s.h).t.get (Nat.mul n 5) = c := ⟨_, rfl⟩
      obtain ⟨c, hq⟩ := hq
      rw [hq] at hJ
      cases c with
      | i ko zo =>
        obtain ⟨d2, hK⟩ := iff_no hJ
        obtain rfl := kN_3 d2
        obtain ⟨o, rfl, hL⟩ := intN_ok hK
        obtain ⟨d3, hM⟩ := iff_no hL
        simp only [Bool.and_eq_true] at d3
        obtain ⟨d3, d4, y1, y2, y3, y4⟩ := d3
        have d3 : 1 ≤ o := ble_t d3
        have d4 : o ≤ 33 := ble_t d4
        unfold stpG at hM
        rw [forceN_eq, forceN_eq, Cl.set_K] at hM
        obtain ⟨_, hN⟩ := put_ok hM
        obtain ⟨s3, f1, f2, hO⟩ := look_same hN
        rw [Cl.set_K] at hO
        obtain ⟨_, hP⟩ := put_ok hO
        obtain ⟨v1, s5, hcall, hR⟩ := bnd_ok hP
        obtain ⟨rfl, rfl, rfl⟩ := retT_ok hR
        clear h hA hB hC hD hE hF hH hI hJ hK hL hM hN hO hP hR
        cases ha with
        | cons k1 ha =>
          cases ha
          obtain ⟨k, z, hk, rfl⟩ := k1
          obtain ⟨hlv, arr, ty, lo, hi, hz, g1, g2, g3, g4, g5⟩ := hr.get hk (by omega)
          have g2 : lo = hi ∨ arr.size ≤ lo := g2.resolve_left (by omega)
          obtain ⟨u0, a0, b0⟩ := g5 0 (by omega)
          obtain ⟨u1, a1, b1⟩ := g5 1 (by omega)
          obtain ⟨u2, a2, b2⟩ := g5 2 (by omega)
          obtain ⟨u5, a5, b5⟩ := g5 5 (by omega)
          obtain ⟨u33, a33, b33⟩ := g5 33 (by omega)
          obtain ⟨an0, n0, c0', rfl⟩ := isSl_V i0 b0
          obtain ⟨an1, n1, c1', rfl⟩ := isSl_V i1 b1
          rw [hq2] at b2
          obtain ⟨g, zg, cl, hg, rfl, q1, q2⟩ := b2
          rw [hn5] at b5
          have b5 : u5 = .int .i64 (n : Int) := b5
          subst b5
          rw [hn33] at b33
          have b33 : u33 = .int .i64 (st : Int) := b33
          subst b33
          obtain ⟨hlvL, arrL, tyL, loL, hiL, hzL, gL1, gL2, gL3, gL4, gL5⟩ := hr.get hg (by omega)
          have hgk : g ≠ k := fun e => c9 (hr.inj lb rb k zg z hlvL hlv (by rw [← e]; exact hg) hk)
          obtain ⟨x0, r0, t0⟩ := gL5 (n * 5) (by omega)
          obtain ⟨x1, r1, t1⟩ := gL5 (n * 5 + 1) (by omega)
          obtain ⟨x2, r2, t2⟩ := gL5 (n * 5 + 2) (by omega)
          obtain ⟨x3, r3, t3⟩ := gL5 (n * 5 + 3) (by omega)
          obtain ⟨x4, r4, t4⟩ := gL5 (n * 5 + 4) (by omega)
          have hq : (get5 lb s.h).t.get (n * 5) = .i .i64 (o : Int) := hq
          rw [hq] at t0
          have t0 : x0 = .int .i64 (o : Int) := t0
          subst t0
          have w1 := good_is y1 t1
          have w2 := good_is y2 t2
          have w3 := good_is y3 t3
          have w4 := good_is y4 t4
          subst w1 w2 w3 w4
          have hlt := hlv.1
          have hvt : ∀ {v' : Value} {ρ' : Rh}, VA p.env ρ' (.tp []) v' → v' = .tuple #[] := fun {v' ρ'} hv => by
            obtain ⟨ar, rfl, hal⟩ := hv
            congr 1
            exact Array.eq_empty_of_size_eq_zero (by rw [← Array.length_toList]; exact hal.len.symm)
          have hfr : Free ρ s.nx s5.nx := hf
          have key : ∀ W : World, W.heap[k]? = some (.cells ((arr.setIfInBounds 33 (.int .i64 ((st : Int) + 1))).setIfInBounds 5 (.int .i64 ((n : Int) + 1))) ty (lo, hi)) → (∀ j, j < w.heap.size → j ≠ k → W.heap[j]? = w.heap[j]?) → Below 0 w W → ∀ us' : List Value, All2 (VA p.env ρ) (bif Nat.beq o 33 then [.c (.p rb 0)] else [.c (.p rb 0), .ag [.i .i64 (.ofNat o), (get5 lb s.h).t.get (Nat.add (Nat.mul n 5) 1), (get5 lb s.h).t.get (Nat.add (Nat.mul n 5) 2), (get5 lb s.h).t.get (Nat.add (Nat.mul n 5) 3), (get5 lb s.h).t.get (Nat.add (Nat.mul n 5) 4)]]) us' → Calls Tryz.prog (fnO o) us'.toArray W fun e w' => ∃ v' ρ', e = .returned v' ∧ VA p.env ρ' (.tp []) v' ∧ Post p.env ρ s.h s.nx w ρ' s5.h s5.nx w' := by
            intro W hWb hWr hWl us' hus
            have P1 := Post.cell hr s.nx c8 hlv hk (j := 33) (x := .i .i64 ((st : Int) + 1)) (v := .int .i64 ((st : Int) + 1)) c1 rfl (.inr rfl)
            have hgg : get5 rb (hset s.h rb ⟨(get5 rb s.h).n, (get5 rb s.h).t.set 33 (.i .i64 ((st : Int) + 1)) id⟩) = ⟨(get5 rb s.h).n, (get5 rb s.h).t.set 33 (.i .i64 ((st : Int) + 1)) id⟩ := by rw [get_hset hlt hlt, if_pos rfl]
            have hlv1 : Live (hset s.h rb ⟨(get5 rb s.h).n, (get5 rb s.h).t.set 33 (.i .i64 ((st : Int) + 1)) id⟩) rb := ⟨hlt, by rw [hgg]; show 0 < ((get5 rb s.h).t.set 33 _ id).room; rw [Cl.set_room]; exact hlv.2⟩
            have P2 := Post.cell P1.hr s.nx c8 hlv1 hk (j := 5) (x := .i .i64 ((n : Int) + 1)) (v := .int .i64 ((n : Int) + 1)) (by rw [hgg]; show 5 < (get5 rb s.h).n; omega) rfl (.inr rfl)
            have P3 := (P1.trans P2 (Nat.le_refl _) (Nat.le_refl _)).trans (Post.idle (w' := W) P2.hr s.nx (fun j hj => by
              have hj : j < w.heap.size := by rw [set_size, set_size] at hj; exact hj
              by_cases e : j = k
              · subst e
                rw [hWb]
                exact (zb_set (zb_set g1 33 _) 5 _).symm
              · rw [hWr j hj e, zb_ne _ _ e, zb_ne _ _ e]) ⟨hWl.os, hWl.tape, hWl.output, by rw [set_size, set_size]; exact hWl.size, fun k hk => absurd hk (Nat.not_lt_zero _)⟩) (Nat.le_refl _) (Nat.le_refl _)
            have hst : ∀ {sX : St}, sX = (⟨hset s3.h rb ⟨(get5 rb (hset s2.h rb ⟨(get5 rb s.h).n, (get5 rb s.h).t.set 33 (.i .i64 (.ofNat (Nat.succ st))) id⟩)).n, (get5 rb (hset s2.h rb ⟨(get5 rb s.h).n, (get5 rb s.h).t.set 33 (.i .i64 (.ofNat (Nat.succ st))) id⟩)).t.set 5 (.i .i64 (.ofNat (Nat.succ n))) id⟩, s3.nx, s3.rd, s3.wr ||| bit rb⟩ : St) → sX.h = hset (hset s.h rb ⟨(get5 rb s.h).n, (get5 rb s.h).t.set 33 (.i .i64 ((st : Int) + 1)) id⟩) rb ⟨(get5 rb (hset s.h rb ⟨(get5 rb s.h).n, (get5 rb s.h).t.set 33 (.i .i64 ((st : Int) + 1)) id⟩)).n, (get5 rb (hset s.h rb ⟨(get5 rb s.h).n, (get5 rb s.h).t.set 33 (.i .i64 ((st : Int) + 1)) id⟩)).t.set 5 (.i .i64 ((n : Int) + 1)) id⟩ ∧ sX.nx = s.nx := fun {sX} e => by
              subst e
              refine ⟨?_, f2.trans e4⟩
              show hset s3.h rb _ = _
              rw [f1]
              show hset (hset s2.h rb _) rb _ = _
              rw [e3]
              rfl
            obtain ⟨hX1, hX2⟩ := hst rfl
            obtain ⟨_, _, nq, _⟩ := hloc _ _ _ _ _ hcall (by show s3.nx ≤ 32768; rw [f2]; show s2.nx ≤ 32768; rw [e4]; exact hsx)
            have nq : s3.nx ≤ s5.nx := nq
            have hnx : s3.nx = s.nx := f2.trans e4
            have hcl := (hS _ _ _ _ _ ρ W us' hcall (by show s3.nx ≤ 32768; rw [hnx]; exact hsx) (by rw [hX1]; exact hG.step P3) hus (by rw [hX1]; exact P3.hr) (by show Free ρ s3.nx s5.nx; rw [hnx]; exact hfr)).2
            rw [hTP] at hcl
            refine hcl.mono ?_
            rintro e w' ⟨v', ρ', rfl, hv', hP4⟩
            rw [hX1, hX2] at hP4
            exact ⟨v', ρ', rfl, hv', P3.trans hP4 (Nat.le_refl _) (by rw [← hnx]; exact nq)⟩
          have hQ : ∀ e w', (∃ v' ρ', e = Ending.returned v' ∧ VA p.env ρ' (.tp []) v' ∧ Post p.env ρ s.h s.nx w ρ' s5.h s5.nx w') → e = .returned (.tuple #[]) := by
            rintro e w' ⟨v', ρ', rfl, hv, _⟩
            rw [hvt hv]
          have hfo := fnO_is d3 d4
          obtain ⟨fo, hfe⟩ : ∃ fo, fnO o = fo := ⟨_, rfl⟩
          rw [hfe] at key hfo
          clear hfe hcall hS hTP hloc
          refine step_w2 (op := o) (fo := fo) g1 g2 a0 a1 a2 a5 a33 hgk (hr.lt hlvL hg) c5 c6 q1 c7 ((cell_of gL1 _).trans r0) ((cell_of gL1 _).trans r1) ((cell_of gL1 _).trans r2) ((cell_of gL1 _).trans r3) ((cell_of gL1 _).trans r4) hQ (fun h33 => ?_) (fun h33 => ?_) hfo
          · have hb33 : Nat.beq o 33 = true := by rw [h33]; rfl
            rw [hb33] at key
            exact fun W h1 h2 h3 => key W h1 h2 h3 [.pointer (some ⟨k, 0, none⟩)] (.cons ⟨k, z, hk, rfl⟩ .nil)
          · have hb33 : Nat.beq o 33 = false := beq_f h33
            rw [hb33] at key
            exact fun W h1 h2 h3 => key W h1 h2 h3 [_, _] (.cons ⟨k, z, hk, rfl⟩ (.cons ⟨_, rfl, .cons rfl (.cons t1 (.cons t2 (.cons t3 (.cons t4 .nil))))⟩ .nil))
      | _ => exact no_ok hJ
    | _ => exact no_ok hC
  · cases hm
theorem tok5 (hc : p.c.oneCell' = true) {l : List Sc} {r : Rw} (hr : RwOk p r) (hl : PqOk p l) (w : World) : TOk (T5 l r) p.env w := by
  have k7 := tok7 hc hr hl w
  refine ⟨rfl, ⟨env_ok hc, orc_ok hr rfl, ouc_ok hr rfl, (fun j b e => by cases e), (fun j r e => by cases e), (fun d j r e => by cases e), (fun j k r e => by cases e), (fun j a b r e => by cases e), (fun r x ρ us e => by cases e)⟩, ⟨fun f args m h => ?_, fun f args m h => ?_⟩⟩
  · replace h : hkG l r f args = some m := h
    unfold hkG at h
    cases hf : Nat.beq f 46 with
    | true => rw [hf] at h; exact loc_stp (loc_fn k7.hk.loc 150) h
    | false => rw [hf] at h; exact k7.hk.loc f args m h
  · replace h : hkG l r f args = some m := h
    unfold hkG at h
    cases hf : Nat.beq f 46 with
    | true =>
      rw [hf] at h
      obtain rfl := Nat.eq_of_beq_eq_true hf
      exact stp_sim rfl (TOk.sim k7 150) (loc_fn k7.hk.loc 150) h
    | false => rw [hf] at h; exact k7.hk.sim f args m h
end
end Lo
end Go.Proofs.YtjmifcnfnihhnaaGreatDoor
