import Derived.Test.YtdmedmmdioabgaaGreatDoorZaO
import Derived.Test.YtdmedmmdioabgaaGreatDoorZaJ
/- SUMMED: divisions by nought: sound. -/
set_option linter.unusedVariables false
set_option linter.unusedSimpArgs false
namespace Go.Proofs.YtdmedmmdioabgaaGreatDoor
namespace Sm
open Ev Go.RowKit Sl
structure HyD (p : Pm) (n0 n1 m : Bool) : Prop where
  a : -4611686018427387904 ≤ p.a ∧ p.a < 4611686018427387904
  z : n0 = true ↔ NN p.a = 0
  o : m = true → (n1 = true ↔ NN p.a = 1)
  pl : ∀ i, i < 25 → 0 ≤ p.pl i ∧ p.pl i < 256
section
variable {p : Pm} {n0 n1 m : Bool}
theorem nq (m n : Int) : bin .neq false (.i .i64 m) (.i .i64 n) = some (.b (!(m == n))) := by
  show mkB (nt (ieq m n)) = _
  rw [mkB_eq, ieq_eq, nt_eq]
theorem orcD_row (h : HyD p n0 n1 m) {op : BinOp} {x y r : Sc} (hm : (x, y, r) ∈ tabD n0 n1 m op) : bin op false (den p x) (den p y) = some (den p r) := by
  have hA := NN_in h.a
  have b0 : (NN p.a == 0) = n0 := by rw [Bool.eq_iff_iff, beq_iff_eq]; exact h.z.symm
  have b1 : m = true → (NN p.a == 1) = n1 := fun hm => by rw [Bool.eq_iff_iff, beq_iff_eq]; exact (h.o hm).symm
  have b0' : (0 == NN p.a) = n0 := by rw [← b0, Bool.eq_iff_iff, beq_iff_eq, beq_iff_eq]; exact eq_comm
  have b1' : m = true → (1 == NN p.a) = n1 := fun hm => by rw [← b1 hm, Bool.eq_iff_iff, beq_iff_eq, beq_iff_eq]; exact eq_comm
  have ifl : ∀ {α : Type} {c : Bool} {l : List α} {t : α}, t ∈ ifL c l → c = true ∧ t ∈ l := fun {α c l t} ht => by
    cases c with
    | true => exact ⟨rfl, ht⟩
    | false => cases ht
  cases op with
  | neq =>
    rcases List.mem_append.1 hm with hm | hm
    · simp only [List.mem_cons, Prod.mk.injEq, List.not_mem_nil, or_false] at hm
      rcases hm with ⟨rfl, rfl, rfl⟩ | ⟨rfl, rfl, rfl⟩
      · refine (nq (NN p.a) 0).trans ?_; rw [b0]; rfl
      · refine (nq 0 (NN p.a)).trans ?_; rw [b0']; rfl
    · obtain ⟨hM, hm⟩ := ifl hm
      simp only [List.mem_cons, Prod.mk.injEq, List.not_mem_nil, or_false] at hm
      rcases hm with ⟨rfl, rfl, rfl⟩ | ⟨rfl, rfl, rfl⟩
      · refine (nq (NN p.a) 1).trans ?_; rw [b1 hM]; rfl
      · refine (nq 1 (NN p.a)).trans ?_; rw [b1' hM]; rfl
  | eql =>
    simp only [tabD, List.mem_cons, Prod.mk.injEq, List.not_mem_nil, or_false] at hm
    obtain ⟨rfl, rfl, rfl⟩ := hm
    show mkB (ieq (NN p.a) 0) = some (.b n0)
    rw [mkB_eq, ieq_eq, b0]
  | sub =>
    have hs : ∀ m n : Int, bin .sub false (.i .i64 m) (.i .i64 n) = some (.i .i64 (i6 (m - n))) := fun m n => by
      show mkI .i64 (wr .i64 (m - n)) = _
      rw [mkI_eq, wr_eq]
    rcases List.mem_append.1 hm with hm | hm
    · simp only [List.mem_cons, Prod.mk.injEq, List.not_mem_nil, or_false] at hm
      obtain ⟨rfl, rfl, rfl⟩ := hm
      refine (hs (-NN p.a) 1).trans ?_; show some (Sc.i .i64 (i6 (-NN p.a - 1))) = some (.i .i64 (-NN p.a - 1)); rw [i6_in (by omega) (by omega)]
    · obtain ⟨hM, hm⟩ := ifl hm
      rw [Bool.and_eq_true] at hM
      simp only [List.mem_cons, Prod.mk.injEq, List.not_mem_nil, or_false] at hm
      obtain ⟨rfl, rfl, rfl⟩ := hm
      have h1 := (h.o hM.1).1 hM.2
      refine (hs (-NN p.a) (NN p.a)).trans ?_; show some (Sc.i .i64 (i6 (-NN p.a - NN p.a))) = some (.i .i64 (-NN p.a - 1)); rw [h1]; rfl
  | shl =>
    simp only [tabD, List.mem_cons, Prod.mk.injEq, List.not_mem_nil, or_false] at hm
    rcases hm with ⟨rfl, rfl, rfl⟩ | ⟨rfl, rfl, rfl⟩ <;> exact shl1 _
  | shr =>
    simp only [tabD, List.mem_cons, Prod.mk.injEq, List.not_mem_nil, or_false] at hm
    rcases hm with ⟨rfl, rfl, rfl⟩ | ⟨rfl, rfl, rfl⟩
    · refine (shr1 _).trans ?_; show some (Sc.i .i64 ((i6 (-NN p.a * 2)).fdiv 2)) = some (.i .i64 (-NN p.a)); rw [half (by omega) (by omega)]
    · refine (shr1 _).trans ?_; show some (Sc.i .i64 ((i6 ((-NN p.a - 1) * 2)).fdiv 2)) = some (.i .i64 (-NN p.a - 1)); rw [half (by omega) (by omega)]
  | _ => cases hm
theorem tokD (hc : p.c.oneCell' = true) (h : HyD p n0 n1 m) (hb : 0 ≤ NN p.b ∧ NN p.b < 4611686018427387904) (w : World) : TOk (TD n0 n1 m) p.env w := by
  have hA := NN_in h.a
  refine ⟨rfl, ⟨env_ok hc, fun op x y r t xo yo ρ vx vy w e hx hy => ?_, fun op x r ρ vx w e hx => ?_, (fun j b e => by cases e), (fun j r e => by cases e), (fun d j r e => by cases e), (fun j k r e => by cases e), (fun j a b r e => by cases e), (fun r x ρ us e => by cases e)⟩, ⟨(fun f args m h => by cases h), (fun f args m h => by cases h)⟩⟩
  · have e : orcD n0 n1 m op x y = some r := e
    have hb := orcD_row h (look3_mem e)
    obtain ⟨vr, h1, h2⟩ := bin_sim (T := TD n0 n1 m) (w := w) (t := t) hb (fun e => by cases e) (den_V.1 hx) (den_V.1 hy) xo yo
    exact ⟨vr, h1, den_V.2 h2⟩
  · have e : ouc op x = some r := e
    unfold ouc at e
    split at e
    · split at e
      · cases e
        have hx : vx = .int .i64 (NN p.a) := hx
        rw [hx]
        exact ⟨_, uneg (env := p.env) (m := -NN p.a) (by rw [Int.zero_sub, i6_in (by omega) (by omega)]), rfl⟩
      · cases e
        have hx : vx = .int .i64 (NN p.b) := hx
        rw [hx]
        exact ⟨_, uneg (env := p.env) (m := -NN p.b) (by rw [Int.zero_sub, i6_in (by omega) (by omega)]), rfl⟩
      · cases e
        have hx : vx = .int .i64 (-NN p.a - 1) := hx
        rw [hx]
        exact ⟨_, uneg (env := p.env) (m := i6 (-(-NN p.a - 1))) (by rw [Int.zero_sub]), rfl⟩
      · cases e
    · cases e
set_option maxRecDepth 100000 in
theorem compD_sim (hc : p.c.oneCell' = true) {w3 : List W3} {toks : List Tok} (hT : Tk p w3 toks) (h : HyD p n0 n1 m) (hbb : 0 ≤ NN p.b ∧ NN p.b < 4611686018427387904) {lb : List Sc} (hb : goodB lb = true) (hlb : p.lb = lb) {w : World} (hw : Lw w) {v : AV} {s' : St} (h : compD w3 n0 n1 m lb = .ok v s') :
    Calls Tryz.prog 16 #[p.c, .string p.src] w fun e w' => ∃ v' ρ', e = .returned v' ∧ VA p.env ρ' v v' ∧ Below w.heap.size w w' := by
  rename_i hD
  have k1 := tok1 hc hT hw
  have k3 := tokD hc hD hbb w
  have k5 := tok5 hc hb hlb w
  have hS : SimC (T1 w3) p.env (Gw w) (callDc w3 n0 n1 m lb) := by
    intro f args s v s' ρ w' us he
    unfold callDc at he
    cases h1 : Nat.beq f 25 with
    | true => rw [h1] at he; exact k3.sim 200 f args s v s' ρ w' us he
    | false =>
      rw [h1] at he
      cases h2 : Nat.beq f 23 with
      | true => rw [h2] at he; exact k3.sim 200 f args s v s' ρ w' us he
      | false =>
        rw [h2] at he
        cases h3 : Nat.beq f 26 with
        | true => rw [h3] at he; exact k5.sim 200 f args s v s' ρ w' us he
        | false => rw [h3] at he; exact k1.sim 200 f args s v s' ρ w' us he
  have hL : ∀ f args, Ev.Loc (callDc w3 n0 n1 m lb f args) := by
    intro f args
    unfold callDc
    cases Nat.beq f 25 with
    | true => exact loc_fn k3.hk.loc 200 f args
    | false =>
      cases Nat.beq f 23 with
      | true => exact loc_fn k3.hk.loc 200 f args
      | false =>
        cases Nat.beq f 26 with
        | true => exact loc_fn k5.hk.loc 200 f args
        | false => exact loc_fn k1.hk.loc 200 f args
  have hfr : Free (r0 w) 8 s'.nx := by
    obtain ⟨_, _, _, q2, _⟩ := loc_body (T := T1 w3) hL _ _ _ _ _ _ h (by show 8 ≤ 32768; omega)
    exact (free0 w).sub q2
  obtain ⟨_, hcl⟩ := body_sim (N := Gw w) k1.ok pr_ok hS hL Tryz.func16 (us := [p.c, .string p.src]) h (by show 8 ≤ 32768; omega) (gl0 w) (.cons rfl (.cons rfl .nil)) (hr0 hw) hfr
  refine hcl.mono ?_
  rintro e w' ⟨v', ρ', e1, e2, e3⟩
  exact ⟨v', ρ', e1, e2, below0 e3⟩
theorem v_pl (p : Pm) {i : Nat} (hi : i < 800) : p.v (100 + i) = p.pl i := by
  unfold Pm.v Pm.far
  rw [if_pos (by omega), if_neg (by omega), if_pos (by omega), show 100 + i - 100 = i by omega]
set_option maxRecDepth 100000 in
theorem tok6P (hc : p.c.oneCell' = true) (hN : N3 p) (hpl : ∀ i, i < 25 → 0 ≤ p.pl i ∧ p.pl i < 256) {lb : List Sc} (hb : goodB lb = true) (hlb : p.lb = lb) {x : AV} {cv : ByteArray} (hx : ∀ ρ, VA p.env ρ x (.tuple #[.string cv, .int .i64 0, .int .i64 0])) (hC : CmpIs p.src cv) {w : World} (hw : Lw w) : TOk (T6P lb x) p.env w := by
  have k6 := tok6 hc hN hb hlb hx hC hw
  refine ⟨rfl, ⟨env_ok hc, fun op x' y r t xo yo ρ vx vy w e hx hy => ?_, (fun op x r ρ vx w e => by cases e), (fun j b e => by cases e), k6.ok.oln, fun d j r e => ?_, k6.ok.oix, k6.ok.osl, (fun r x ρ us e ha => by cases e)⟩, hkr_ok (T := T6P lb x) rfl rfl rfl hx hC hw⟩
  · replace e : orcP op x' y = some r := e
    have key : bin op false (den p x') (den p y) = some (den p r) := by
      unfold orcP at e
      split at e
      · split at e
        · rename_i j
          cases hcd : (Nat.ble 100 j && Nat.blt j 125) with
          | false => rw [hcd] at e; exact orc6_row hN e
          | true =>
            rw [hcd] at e
            cases e
            rw [Bool.and_eq_true] at hcd
            have c1 : 100 ≤ j := ble_t hcd.1
            have c2 : j < 125 := blt_t hcd.2
            obtain ⟨i, rfl⟩ : ∃ i, j = 100 + i := ⟨j - 100, by omega⟩
            rw [d_pl p (by omega)]
            have hi := hpl i (by omega)
            refine (or_add (a := 0) (by omega) (by omega) (by omega) hi).trans ?_
            rw [Int.zero_add]
        · exact orc6_row hN e
      · exact orc6_row hN e
    obtain ⟨vr, h1, h2⟩ := bin_sim (T := T6P lb x) (w := w) (t := t) key (fun e => by cases e) (den_V.1 hx) (den_V.1 hy) xo yo
    exact ⟨vr, h1, den_V.2 h2⟩
  · replace e : ocvP d j = some r := e
    unfold ocvP at e
    cases hcd : (Nat.beq d 3 && (Nat.ble 2600 j && Nat.blt j 3000)) with
    | false => rw [hcd] at e; exact k6.ok.ocv d j r e
    | true =>
      rw [hcd] at e
      simp only [Bool.and_eq_true] at hcd
      obtain ⟨c1, c2, c3⟩ := hcd
      have c1 : d = 3 := Nat.eq_of_beq_eq_true c1
      have c2 : 2600 ≤ j := ble_t c2
      have c3 : j < 3000 := blt_t c3
      subst c1
      have e2 : ikT (T6P lb x) 3 = .i64 := by
        have : ikT T0 3 = .i64 := by kernel_rfl
        exact this
      have hv : ∀ i, 8 ≤ i → i < 16 → (j - 1000) % 16 = i → p.env j = .int .u8 (bytV (p.pl ((j - 1000) / 16 - 100)) (i - 8)) := fun i h8 h16 hi => by
        have : p.env j = .int .u8 (bytV (p.v ((j - 1000) / 16)) ((j - 1000) % 16 - 8)) := by
          unfold Pm.env
          split
          · omega
          · omega
          · omega
          · unfold Pm.env1
            rw [if_pos (by omega), if_neg (by omega)]
        rw [this, hi]
        have e3 : (j - 1000) / 16 = 100 + ((j - 1000) / 16 - 100) := by omega
        rw [e3, v_pl p (by omega)]
        rw [← e3]
      have hp := hpl ((j - 1000) / 16 - 100) (by omega)
      replace e : (bif Nat.beq (Nat.mod (Nat.sub j 1000) 16) 8 then some (Sc.y (Nat.div (Nat.sub j 1000) 16)) else bif Nat.beq (Nat.mod (Nat.sub j 1000) 16) 9 then some z0 else none) = some r := e
      cases h8 : Nat.beq (Nat.mod (Nat.sub j 1000) 16) 8 with
      | true =>
        rw [h8] at e
        have e := Option.some.inj e
        subst e
        have h8 : (j - 1000) % 16 = 8 := Nat.eq_of_beq_eq_true h8
        refine ⟨_, _, hv 8 (by omega) (by omega) h8, fun ρ => ?_⟩
        rw [e2]
        show Value.int .i64 (i6 _) = p.env ((j - 1000) / 16)
        have e3 : (j - 1000) / 16 = 100 + ((j - 1000) / 16 - 100) := by omega
        rw [e3, e_pl p (by omega), ← e3, bytV_eq]
        have : p.pl ((j - 1000) / 16 - 100) / 2 ^ (8 * (8 - 8)) % 256 = p.pl ((j - 1000) / 16 - 100) := by
          show p.pl ((j - 1000) / 16 - 100) / 1 % 256 = _
          omega
        rw [this, i6_in (by omega) (by omega)]
      | false =>
        rw [h8] at e
        replace e : (bif Nat.beq (Nat.mod (Nat.sub j 1000) 16) 9 then some z0 else none) = some r := e
        obtain ⟨h9, e⟩ := bif_some e
        have e := Option.some.inj e
        subst e
        have h9 : (j - 1000) % 16 = 9 := Nat.eq_of_beq_eq_true h9
        refine ⟨_, _, hv 9 (by omega) (by omega) h9, fun ρ => ?_⟩
        rw [e2]
        show Value.int .i64 (i6 _) = Value.int .i64 0
        rw [bytV_eq]
        have : p.pl ((j - 1000) / 16 - 100) / 2 ^ (8 * (9 - 8)) % 256 = 0 := by
          show p.pl ((j - 1000) / 16 - 100) / 256 % 256 = _
          omega
        rw [this]
        rfl
set_option maxRecDepth 100000 in
theorem runD_sim (hc : p.c.oneCell' = true) (hN : N3 p) (hD : HyD p n0 n1 m) {lb : List Sc} (hb : goodB lb = true) (hlb : p.lb = lb) (hC : CmpIs p.src (strOf p p.lb)) {w : World} (hw : Lw w) {v : AV} {s' : St} (h : runD lb n0 n1 m = .ok v s') :
    Calls Tryz.prog 11 #[.string p.src, .slice none 0 0, .int .i64 0, .int .i64 1, .int .i64 20000] w fun e w' => ∃ v' ρ', e = .returned v' ∧ VA p.env ρ' v v' ∧ Below w.heap.size w w' := by
  have hx : ∀ ρ, VA p.env ρ codY (.tuple #[.string (strOf p p.lb), .int .i64 0, .int .i64 0]) := fun ρ => ⟨#[.string (strOf p p.lb), .int .i64 0, .int .i64 0], rfl, .cons rfl (.cons rfl (.cons rfl .nil))⟩
  have k3 := tokD hc hD (by have := hN.n 5 (by omega) (by omega); have h5 : p.near 5 = NN p.b := rfl; have : 0 ≤ NN p.b := by unfold NN; split <;> omega
                            omega) w
  have k6 := tok6P hc hN hD.pl hb hlb hx hC hw
  have hS : SimC (T6P lb codY) p.env (Gw w) (callDr lb n0 n1 m) := by
    intro f args s v s' ρ w' us he
    unfold callDr at he
    cases h1 : Nat.beq f 19 with
    | true => rw [h1] at he; exact k3.sim 200 f args s v s' ρ w' us he
    | false => rw [h1] at he; exact k6.sim 200 f args s v s' ρ w' us he
  have hL : ∀ f args, Ev.Loc (callDr lb n0 n1 m f args) := by
    intro f args
    unfold callDr
    cases Nat.beq f 19 with
    | true => exact loc_fn k3.hk.loc 200 f args
    | false => exact loc_fn k6.hk.loc 200 f args
  have hfr : Free (r0 w) 8 s'.nx := by
    obtain ⟨_, _, _, q2, _⟩ := loc_body (T := T6P lb codY) hL _ _ _ _ _ _ h (by show 8 ≤ 32768; omega)
    exact (free0 w).sub q2
  obtain ⟨_, hcl⟩ := body_sim (N := Gw w) k6.ok pr_ok hS hL Tryz.func11 (us := [.string p.src, .slice none 0 0, .int .i64 0, .int .i64 1, .int .i64 20000]) h (by show 8 ≤ 32768; omega) (gl0 w) (.cons rfl (.cons rfl (.cons rfl (.cons rfl (.cons rfl .nil))))) (hr0 hw) hfr
  refine hcl.mono ?_
  rintro e w' ⟨v', ρ', e1, e2, e3⟩
  exact ⟨v', ρ', e1, e2, below0 e3⟩
end
end Sm
end Go.Proofs.YtdmedmmdioabgaaGreatDoor
/- SUMMED: divisions by nought, told. -/
set_option linter.unusedVariables false
set_option linter.unusedSimpArgs false
namespace Go.Proofs.YtdmedmmdioabgaaGreatDoor
namespace Sm
open Ev Go.RowKit Sl
def ptO (a : Int) : Nat := if a < 0 then (if NN a = 0 then 2 else if NN a = 1 then 3 else 4) else (if NN a = 0 then 0 else 1)
theorem pt_ok (a : Int) : ptA (ptO a) = bN a ∧ (pt0 (ptO a) = true ↔ NN a = 0) ∧ (ptA (ptO a) = true → (pt1 (ptO a) = true ↔ NN a = 1)) ∧ ptO a < 5 := by
  unfold ptO bN
  by_cases h : a < 0
  · rw [if_pos h, decide_eq_true h]
    by_cases h0 : NN a = 0
    · rw [if_pos h0]; exact ⟨rfl, ⟨fun _ => h0, fun _ => rfl⟩, fun _ => ⟨(fun e => by cases e), (fun e => by omega)⟩, by omega⟩
    · rw [if_neg h0]
      by_cases h1 : NN a = 1
      · rw [if_pos h1]; exact ⟨rfl, ⟨(fun e => by cases e), fun e => absurd e h0⟩, fun _ => ⟨fun _ => h1, fun _ => rfl⟩, by omega⟩
      · rw [if_neg h1]; exact ⟨rfl, ⟨(fun e => by cases e), fun e => absurd e h0⟩, fun _ => ⟨(fun e => by cases e), fun e => absurd e h1⟩, by omega⟩
  · rw [if_neg h, decide_eq_false h]
    by_cases h0 : NN a = 0
    · rw [if_pos h0]; exact ⟨rfl, ⟨fun _ => h0, fun _ => rfl⟩, (fun e => by cases e), by omega⟩
    · rw [if_neg h0]; exact ⟨rfl, ⟨(fun e => by cases e), fun e => absurd e h0⟩, (fun e => by cases e), by omega⟩
theorem toks_p {dg : Nat → List UInt8} {nv : Nat → Nat} : ∀ {l : List Lm} {q : Nat} {t : Tok}, t ∈ toks dg nv l q → t.p ≤ q + (flat dg l).length
  | [], q, t, h => by cases h
  | x :: l, q, t, h => by
    have h : t ∈ tokOf dg nv q x ++ toks dg nv l (q + (x.bytes dg).length) := h
    have e : (flat dg (x :: l)).length = (x.bytes dg).length + (flat dg l).length := by unfold flat; rw [List.flatMap_cons, List.length_append]
    rw [e]
    rcases List.mem_append.1 h with h | h
    · have : t.p = q := by
        cases x with
        | bl => cases h
        | _ => rw [List.mem_singleton.1 h]
      omega
    · have := toks_p h
      omega
theorem tx_200 {f o : Nat} (ho : o < 11) {a b : Int} (ha : Sn.I5 a) (hb : Sn.I5 b) : (txS f o a b).length ≤ 200 := by
  have h1 := Sn.said_len ha
  have h2 := Sn.said_len hb
  have h3 := Sn.sgl_len o
  have h4 := Sn.cmp_len o ([120] ++ Sn.sgnL o ++ [121])
  have h5 := Sn.cmp_len o (Sn.saidS a ++ Sn.sgnL o ++ Sn.saidS b)
  simp only [List.length_append, List.length_cons, List.length_nil] at h4 h5
  unfold txS
  split
  · unfold Sn.eS; omega
  · unfold Sn.recS Sn.fS; simp only [List.length_append, List.length_cons, List.length_nil]; omega
  · unfold Sn.tupS Sn.fS; simp only [List.length_append, List.length_cons, List.length_nil]; omega
  · unfold Sn.minS; simp only [List.length_append, List.length_cons, List.length_nil]; omega
theorem i50 : Sn.I5 0 := by constructor <;> decide
theorem hy_D {f o : Nat} (hf : f < 4) (ho : o < 11) {a : Int} (ha : Sn.I5 a) (c : Value) (lb : List Sc) : HyD (pmO c f o 11 a 0 lb []) (pt0 (ptO a)) (pt1 (ptO a)) (ptA (ptO a)) := by
  obtain ⟨h1, h2, h3, h4⟩ := pt_ok a
  refine ⟨⟨ha.1, by show a < _; omega⟩, h2, h3, fun i hi => ?_⟩
  have hl : (flat (dgO a 0) (lx f o (bN a) (bN 0))).length ≤ 200 := by rw [lx_flat hf ho]; exact tx_200 ho ha i50
  show 0 ≤ plOf (toks (dgO a 0) (nvO a 0) (lx f o (bN a) (bN 0)) 0) (flat (dgO a 0) (lx f o (bN a) (bN 0))).length i ∧ plOf (toks (dgO a 0) (nvO a 0) (lx f o (bN a) (bN 0)) 0) (flat (dgO a 0) (lx f o (bN a) (bN 0))).length i < 256
  unfold plOf
  split
  · rename_i t ht
    have := toks_p (List.mem_of_getElem? ht)
    omega
  · omega
theorem rep_V {p : Pm} (hb : NN p.b = 0) {ρ : Rh} {x : Sc} {v : Value} (h : VS p.env ρ x v) : VS p.env ρ (rep5 x) v := by
  unfold rep5
  split
  · rename_i j
    cases hj : Nat.beq j 5 with
    | true =>
      obtain rfl := Nat.eq_of_beq_eq_true hj
      have h : v = .int .i64 (NN p.b) := h
      rw [h, hb]
      rfl
    | false => exact h
  · exact h
theorem tk_D {f o : Nat} (hf : f < 4) (ho : o < 11) {a : Int} (ha : Sn.I5 a) (c : Value) (lb : List Sc) : Tk (pmO c f o 11 a 0 lb []) (txtD f o (bN a)) (toks (dgO a 0) (nvO a 0) (lx f o (bN a) (bN 0)) 0) := by
  have hT := tk_O hf ho ha i50 c 11 lb []
  have b0 : bN 0 = false := rfl
  obtain ⟨h1, h2, h3, h4, h5⟩ := hT
  have hlen : (txtD f o (bN a)).length = (txt f o (bN a) (bN 0)).length := by unfold txtD; rw [List.length_map]; rfl
  refine ⟨h1, h2, by rw [h3, hlen], fun i t x ht hx => ?_, by rw [hlen]; exact h5⟩
  unfold txtD at hx
  rw [List.getElem?_map] at hx
  cases hx0 : (txt f o (bN a) false)[i]? with
  | none => rw [hx0] at hx; cases hx
  | some x0 =>
    rw [hx0] at hx
    cases hx
    obtain ⟨q1, q2, q3, q4⟩ := h4 i t x0 ht hx0
    exact ⟨q1, fun ρ => rep_V rfl (q2 ρ), q3, q4⟩
theorem isRp_ok {j : Nat} {r : R AV} (h : isRp j r = true) : ∃ st gc us s', r = .ok (.tp [.ag [.i .i64 (.ofNat 32), .y j, .i .i64 0, .sn, .i .i64 st, .i .i64 0, .i .i64 gc, .i .i64 us], .c (.b true)]) s' := by
  unfold isRp at h
  split at h
  · simp only [Bool.and_eq_true] at h
    obtain ⟨h1, h2, h3, h4⟩ := h
    rw [eqZ_eq h1, Nat.eq_of_beq_eq_true h2, eqZ_eq h3, eqZ_eq h4]
    exact ⟨_, _, _, _, rfl⟩
  · cases h
theorem isRq_ok {r : R AV} (h : isRq r = true) : ∃ e p v st rd gc us s', r = .ok (.tp [.ag [.i .i64 e, .i .i64 p, .i .i64 v, .sn, .i .i64 st, .i .i64 rd, .i .i64 gc, .i .i64 us], .c (.b true)]) s' := by
  unfold isRq at h
  split at h
  · exact ⟨_, _, _, _, _, _, _, _, rfl⟩
  · cases h
theorem va8' {env : Nat → Value} {ρ : Rh} {e v st n gc us : Int} {ps : Sc} {r : Value} (h : VA env ρ (.tp [.ag [.i .i64 e, ps, .i .i64 v, .sn, .i .i64 st, .i .i64 n, .i .i64 gc, .i .i64 us], .c (.b true)]) r) : ∃ u, VS env ρ ps u ∧ r = .tuple #[.agg #[.int .i64 e, u, .int .i64 v, .slice none 0 0, .int .i64 st, .int .i64 n, .int .i64 gc, .int .i64 us], .bool true] := by
  obtain ⟨⟨l0⟩, rfl, ha⟩ := h
  cases ha with
  | cons h1 ha => cases ha with
    | cons h2 ha =>
      cases ha
      obtain ⟨⟨l1⟩, rfl, ha⟩ := h1
      obtain ⟨u0, u1, u2, u3, u4, u5, u6, u7, rfl, e0, e1, e2, e3, e4, e5, e6, e7⟩ := all2_8 ha
      cases e0
      cases e2
      cases e3
      cases e4
      cases e5
      cases e6
      cases e7
      cases h2
      exact ⟨_, e1, rfl⟩
section
variable {f o : Nat} {a : Int}
/-- the code's bytes do not hang on the compiler -/
theorem v_c (c c' : Value) (f o oq : Nat) (a b : Int) (lb l : List Sc) (j : Nat) : (pmO c f o oq a b lb l).v j = (pmO c' f o oq a b lb l).v j := by
  have hn : ∀ j, (pmO c f o oq a b lb l).near j = (pmO c' f o oq a b lb l).near j := fun j => rfl
  have hf : ∀ j, (pmO c f o oq a b lb l).far j = (pmO c' f o oq a b lb l).far j := fun j => rfl
  unfold Pm.v
  simp only [hn, hf]
theorem str_c (c c' : Value) (f o oq : Nat) (a b : Int) (lb l m : List Sc) : strOf (pmO c f o oq a b lb l) m = strOf (pmO c' f o oq a b lb l) m := by
  have he : ∀ j, (pmO c f o oq a b lb l).env1 j = (pmO c' f o oq a b lb l).env1 j := fun j => by
    unfold Pm.env1
    simp only [v_c c c']
  have : byt1 (pmO c f o oq a b lb l) = byt1 (pmO c' f o oq a b lb l) := by
    funext x
    cases x with
    | y j => show (intV (Pm.env1 _ j)).toNat = (intV (Pm.env1 _ j)).toNat; rw [he]
    | _ => rfl
  unfold strOf
  rw [this]
noncomputable def pD (f o : Nat) (a : Int) (c : Value) : Pm := pmO c f o 11 a 0 (lbD f (ptO a) (Nat.add 7 o)) []
theorem cmp_D (hf : f < 3) (ho : o < 11) (ha : Sn.I5 a) (hg : goodB (lbD f (ptO a) (Nat.add 7 o)) = true) (h : isY (compD (txtD f o (bN a)) (pt0 (ptO a)) (pt1 (ptO a)) (ptA (ptO a)) (lbD f (ptO a) (Nat.add 7 o))) = true) : CmpIs (Sn.bs (txS f o a 0)) (strOf (pD f o a (.pointer none)) (lbD f (ptO a) (Nat.add 7 o))) := by
  intro c w hc hw
  obtain ⟨s', hr⟩ := isY_ok h
  refine (compD_sim (p := pD f o a c) hc (tk_D (by omega) ho ha c _) (hy_D (by omega) ho ha c _) (by show 0 ≤ NN 0 ∧ NN 0 < 4611686018427387904; decide) hg rfl hw hr).mono ?_
  rintro e w' ⟨v', ρ, rfl, hv, hb'⟩
  obtain ⟨u, hu, rfl⟩ := va3 hv
  refine ⟨?_, hb'⟩
  have hu : u = .string (strOf (pD f o a c) (lbD f (ptO a) (Nat.add 7 o))) := hu
  rw [hu]
  unfold pD
  rw [str_c c (.pointer none)]
theorem n3_D (ha : Sn.I5 a) (c : Value) : N3 (pD f o a c) := ⟨fun j h3 h6 => by
  have hA := NN_in (a := a) (by omega)
  have : j = 3 ∨ j = 4 ∨ j = 5 := by omega
  rcases this with rfl | rfl | rfl
  · show -4611686018427387904 ≤ (0 : Int) ∧ (0 : Int) < 4611686018427387904; decide
  · show -4611686018427387904 ≤ NN a ∧ NN a < 4611686018427387904; omega
  · show -4611686018427387904 ≤ NN 0 ∧ NN 0 < 4611686018427387904; decide⟩
theorem run_D (hf : f < 3) (ho : o < 11) (ha : Sn.I5 a) (hg : goodB (lbD f (ptO a) (Nat.add 7 o)) = true) (h : chkD f o (ptO a) = true) {w : World} (hw : Lw w) : ∃ e v st rd gc us ps, Sn.RunIs (Sn.bs (txS f o a 0)) (.slice none 0 0) w (Sn.rsV e ps v (.slice none 0 0) st rd gc us) ∧ (f = 0 → e = 32 ∧ v = 0 ∧ rd = 0 ∧ ps = (pD f o a (.pointer none)).pl (ptJ f (ptO a) - 100)) := by
  unfold chkD at h
  rw [Bool.and_eq_true, (pt_ok a).1] at h
  obtain ⟨hY, hR⟩ := h
  have hC := cmp_D hf ho ha hg (by rw [(pt_ok a).1]; exact hY)
  rw [← (pt_ok a).1] at hR
  have sim : ∀ {r : AV} {s' : St}, runD (lbD f (ptO a) (Nat.add 7 o)) (pt0 (ptO a)) (pt1 (ptO a)) (ptA (ptO a)) = .ok r s' → ∀ W, Below w.heap.size w W → Calls Tryz.prog 11 #[.string (Sn.bs (txS f o a 0)), .slice none 0 0, .int .i64 0, .int .i64 1, .int .i64 20000] W fun e w' => ∃ v' ρ', e = .returned v' ∧ VA (pD f o a (.pointer none)).env ρ' r v' ∧ Below W.heap.size W w' := fun hr W hW => runD_sim (p := pD f o a (.pointer none)) rfl (n3_D ha _) (hy_D (by omega) ho ha _ _) hg rfl hC (hw.on hW) hr
  cases hf0 : Nat.beq f 0 with
  | true =>
    rw [hf0] at hR
    obtain ⟨st, gc, us, s', hr⟩ := isRp_ok hR
    have hf0 : f = 0 := Nat.eq_of_beq_eq_true hf0
    refine ⟨32, 0, st, 0, gc, us, _, fun W hW => ?_, fun _ => ⟨rfl, rfl, rfl, rfl⟩⟩
    refine (sim hr W hW).mono ?_
    rintro e w' ⟨v', ρ, rfl, hv, hb⟩
    obtain ⟨u, hu, rfl⟩ := va8' hv
    refine ⟨?_, hb⟩
    have hj : 100 ≤ ptJ f (ptO a) ∧ ptJ f (ptO a) < 125 := by
      rw [hf0]
      show 100 ≤ (bif ptA (ptO a) then 106 else 101) ∧ (bif ptA (ptO a) then 106 else 101) < 125
      cases ptA (ptO a)
      · exact ⟨by decide, by decide⟩
      · exact ⟨by decide, by decide⟩
    have hu : u = (pD f o a (.pointer none)).env (ptJ f (ptO a)) := hu
    have e3 : ptJ f (ptO a) = 100 + (ptJ f (ptO a) - 100) := by omega
    rw [e3, e_pl _ (by omega)] at hu
    rw [hu]
    rfl
  | false =>
    rw [hf0] at hR
    obtain ⟨e, ps, v, st, rd, gc, us, s', hr⟩ := isRq_ok hR
    refine ⟨e, v, st, rd, gc, us, ps, fun W hW => ?_, fun h0 => by rw [h0] at hf0; cases hf0⟩
    refine (sim hr W hW).mono ?_
    rintro e' w' ⟨v', ρ, rfl, hv, hb⟩
    obtain ⟨u, hu, rfl⟩ := va8' hv
    refine ⟨?_, hb⟩
    cases hu
    rfl
/-- the sign's place -/
theorem place_D (ho : o < 5) (ha : Sn.I5 a) (c : Value) : (pD 0 o a c).pl (ptJ 0 (ptO a) - 100) = ((Sn.saidS a).length : Nat) := by
  have hq := (pt_ok a).1
  have hcm : ∀ l : List Lm, cmpL o l = l := fun l => by unfold cmpL; rw [ble_f (by omega)]; rfl
  have hl : ∀ s, lx 0 o s (bN 0) = saidL s 4 ++ [.sg (opK o)] ++ saidL false 5 := fun s => hcm _
  show plOf (toks (dgO a 0) (nvO a 0) (lx 0 o (bN a) (bN 0)) 0) _ (ptJ 0 (ptO a) - 100) = _
  have hs : flat (dgO a 0) (saidL (bN a) 4) = Sn.saidS a := said_flat rfl
  rw [← hs, hl]
  show plOf _ _ ((bif ptA (ptO a) then 106 else 101) - 100) = _
  rw [hq]
  cases bN a with
  | true =>
    show ((_ : Nat) : Int) = ((_ : Nat) : Int)
    congr 1
    show 0 + (sgB 23).length + (sgB 31).length + (dgO a 0 4).length + (sgB 31).length + ([49] : List UInt8).length + (sgB 24).length = (sgB 23 ++ (sgB 31 ++ (dgO a 0 4 ++ (sgB 31 ++ ([49] ++ (sgB 24 ++ [])))))).length
    simp only [List.length_append, List.length_nil]
    omega
  | false =>
    show ((_ : Nat) : Int) = ((_ : Nat) : Int)
    congr 1
    show 0 + (dgO a 0 4).length = (dgO a 0 4 ++ []).length
    simp only [List.length_append, List.length_nil]
    omega
end
set_option maxRecDepth 100000
theorem good_0 : (goodB (lbD 0 0 10) && (goodB (lbD 0 1 10) && (goodB (lbD 0 2 10) && (goodB (lbD 0 3 10) && (goodB (lbD 0 4 10) && (goodB (lbD 0 0 11) && (goodB (lbD 0 1 11) && (goodB (lbD 0 2 11) && (goodB (lbD 0 3 11) && goodB (lbD 0 4 11))))))))) ) = true := by kernel_rfl
theorem good_1 : (goodB (lbD 1 0 10) && (goodB (lbD 1 1 10) && (goodB (lbD 1 2 10) && (goodB (lbD 1 3 10) && (goodB (lbD 1 4 10) && (goodB (lbD 1 0 11) && (goodB (lbD 1 1 11) && (goodB (lbD 1 2 11) && (goodB (lbD 1 3 11) && goodB (lbD 1 4 11))))))))) ) = true := by kernel_rfl
theorem good_2 : (goodB (lbD 2 0 10) && (goodB (lbD 2 1 10) && (goodB (lbD 2 2 10) && (goodB (lbD 2 3 10) && (goodB (lbD 2 4 10) && (goodB (lbD 2 0 11) && (goodB (lbD 2 1 11) && (goodB (lbD 2 2 11) && (goodB (lbD 2 3 11) && goodB (lbD 2 4 11))))))))) ) = true := by kernel_rfl
theorem good_D {f o : Nat} (hf : f < 3) (ho : o = 3 ∨ o = 4) {pt : Nat} (hp : pt < 5) : goodB (lbD f pt (Nat.add 7 o)) = true := by
  have hf' : f = 0 ∨ f = 1 ∨ f = 2 := by omega
  have hp' : pt = 0 ∨ pt = 1 ∨ pt = 2 ∨ pt = 3 ∨ pt = 4 := by omega
  have h0 := good_0
  have h1 := good_1
  have h2 := good_2
  simp only [Bool.and_eq_true] at h0 h1 h2
  obtain ⟨a0, a1, a2, a3, a4, a5, a6, a7, a8, a9⟩ := h0
  obtain ⟨b0, b1, b2, b3, b4, b5, b6, b7, b8, b9⟩ := h1
  obtain ⟨c0, c1, c2, c3, c4, c5, c6, c7, c8, c9⟩ := h2
  clear hf hp
  rcases hf' with rfl | rfl | rfl <;> rcases ho with rfl | rfl <;> rcases hp' with rfl | rfl | rfl | rfl | rfl <;> with_reducible assumption
theorem div_H (E : ∀ f o pt, f < 3 → (o = 3 ∨ o = 4) → pt < 5 → chkD f o pt = true) {w : World} (hw : Lw w) {x : Int} {o : Nat} (ho : o = 3 ∨ o = 4) : DivH w x o := by
  have ha := Sn.wv_in x
  have hp := (pt_ok (Sn.wv x)).2.2.2
  have run : ∀ f, f < 3 → ∀ W, Below w.heap.size w W → _ := fun f hf W hW => run_D (f := f) (o := o) (a := Sn.wv x) hf (by omega) ha (good_D hf ho hp) (E f o _ hf ho hp) (hw.on hW)
  refine ⟨fun W s v hW hs => ?_, fun W s hW hs => ?_, fun W s hW hs => ?_, fun W s hW hs => ?_⟩
  · subst hs
    obtain ⟨e, v', st, rd, gc, us, ps, hR, h0⟩ := run 0 (by omega) W hW
    obtain ⟨rfl, rfl, rfl, h4⟩ := h0 rfl
    rw [place_D (by omega) ha] at h4
    subst h4
    exact Sn.given_div hR
  · subst hs
    obtain ⟨e, v', st, rd, gc, us, ps, hR, h0⟩ := run 0 (by omega) W hW
    exact Sn.two_div hR
  · subst hs
    obtain ⟨e, v', st, rd, gc, us, ps, hR, h0⟩ := run 1 (by omega) W hW
    exact Sn.two_div hR
  · subst hs
    obtain ⟨e, v', st, rd, gc, us, ps, hR, h0⟩ := run 2 (by omega) W hW
    exact Sn.two_div hR
end Sm
end Go.Proofs.YtdmedmmdioabgaaGreatDoor
