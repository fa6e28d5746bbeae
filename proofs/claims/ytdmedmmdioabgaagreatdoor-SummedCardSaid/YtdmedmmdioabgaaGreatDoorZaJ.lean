import Derived.Test.YtdmedmmdioabgaaGreatDoorZaI
/- SUMMED: Split at a text whose words are known; Compile as the evaluator says. -/
set_option linter.unusedVariables false
set_option linter.unusedSimpArgs false
namespace Go.Proofs.YtdmedmmdioabgaaGreatDoor
namespace Sm
open Ev Go.RowKit Sl
/-- a text's words -/
structure Tk (p : Pm) (l : List W3) (toks : List Tok) : Prop where
  sz : p.src.size ≤ 400
  lex : lex p.src (skp p.src 0) = .good toks
  len : toks.length = l.length
  tok : ∀ (i : Nat) (t : Tok) (x : W3), toks[i]? = some t → l[i]? = some x → t.k = x.1 ∧ (∀ ρ, VS p.env ρ x.2.1 (.int .i64 t.n)) ∧ (nmOf t.k t.t).data.toList.map (·.toNat) = x.2.2 ∧ p.pl i = t.p ∧ i < 800
  en : p.pl l.length = p.src.size ∧ l.length < 800
theorem e_pl (p : Pm) {i : Nat} (hi : i < 800) : p.env (100 + i) = .int .i64 (p.pl i) := by
  rw [env_int p (by omega) (by omega)]
  unfold Pm.v Pm.far
  rw [if_pos (by omega), if_neg (by omega), if_pos (by omega), show 100 + i - 100 = i by omega]
theorem toks_V {p : Pm} {ρ : Rh} : ∀ {l : List W3} {toks : List Tok} {i : Nat}, toks.length = l.length → (∀ (j : Nat) (t : Tok) (x : W3), toks[j]? = some t → l[j]? = some x → t.k = x.1 ∧ (∀ ρ, VS p.env ρ x.2.1 (.int .i64 t.n)) ∧ (nmOf t.k t.t).data.toList.map (·.toNat) = x.2.2 ∧ p.pl (i + j) = t.p ∧ i + j < 800) → All2 (VS p.env ρ) (toksF l i) (toks.flatMap Tok.cells)
  | [], [], i, _, _ => .nil
  | x :: l, t :: toks, i, hl, h => by
    obtain ⟨h1, h2, h3, h4, h5⟩ := h 0 t x rfl rfl
    show All2 (VS p.env ρ) (wd x.1 i x.2.1 x.2.2 ++ toksF l (i + 1)) (Tok.cells t ++ toks.flatMap Tok.cells)
    refine All2.app (.cons (by show Value.int .i64 _ = Value.int .i64 _; rw [h1]; rfl) (.cons ?_ (.cons (h2 ρ) (.cons ⟨_, rfl, h3⟩ .nil)))) (toks_V (by simpa using hl) fun j t' x' ht hx => ?_)
    · show Value.int .i64 (t.p : Int) = p.env (100 + i)
      rw [Nat.add_zero] at h4 h5
      rw [e_pl p h5, h4]
    · have := h (j + 1) t' x' ht hx
      rw [show i + 1 + j = i + (j + 1) by omega]
      exact this
  | [], _ :: _, _, h, _ => by cases h
  | _ :: _, [], _, h, _ => by cases h
theorem texts_eq : texts = (List.range 35).map fun k => Sc.s ((Sl.txt k).data.toList.map (·.toNat)) := by kernel_rfl
theorem Lw.tx {w : World} (h : Lw w) : TX w := fun k hk => by
  have e : texts[k]? = some (.s ((Sl.txt k).data.toList.map (·.toNat))) := by rw [texts_eq, List.getElem?_map, List.getElem?_range hk]; rfl
  obtain ⟨v, h1, h2⟩ := h.t k _ e
  rw [h1]
  obtain ⟨s, rfl, hs⟩ := h2 (fun _ => .bool true) (fun _ => none)
  rw [str_inj hs]
theorem fnSpl : FnOk Tryz.prog 31 := ⟨_, Tryz.func31, by kernel_rfl, by kernel_rfl⟩
theorem loc_spl {l : List W3} {args : List AV} {m : M AV} (h : hSpl l args = some m) : Ev.Loc m := by
  unfold hSpl at h
  split at h
  · cases h; exact loc_newBlk fun _ => loc_ret _
  · cases h
theorem spl_sim {p : Pm} {l : List W3} {toks : List Tok} (hT : Tk p l toks) {w0 : World} (hw : Lw w0) {args : List AV} {m : M AV} (hm : hSpl l args = some m) : ∀ s v s' (ρ : Rh) w (us : List Value), m s = .ok v s' → s.nx ≤ 32768 → Gl (Gw w0) ρ s.h w → All2 (VA p.env ρ) args us → HR p.env ρ s.h w → Free ρ s.nx s'.nx →
    FnOk Tryz.prog 31 ∧ Calls Tryz.prog 31 us.toArray w fun e w' => ∃ v' ρ', e = .returned v' ∧ VA p.env ρ' v v' ∧ Post p.env ρ s.h s.nx w ρ' s'.h s'.nx w' := by
  intro s v s' ρ w us h hsx hG ha hr hf
  refine ⟨fnSpl, ?_⟩
  have hw : Lw w := hw.of fun g hg => hG.as' g hg
  unfold hSpl at hm
  split at hm
  · cases hm
    cases ha with
    | cons h1 ha =>
      cases ha
      have h1 : _ = Value.string p.src := h1
      subst h1
      obtain ⟨h8, h7, h9⟩ := newBlk_ok h
      cases h9
      have hf0 : ρ s.nx = none := hf s.nx (Nat.le_refl _) (by show s.nx < s.nx + 1; omega)
      refine (split_short p.src hT.sz w hw.tx (by have := hw.size; omega)).mono ?_
      rintro e w' ⟨v, rfl, hown, hb⟩
      rw [hT.lex] at hown ⊢
      have hown : w'.ownsRow w.heap.size _ 4 v (toks ++ [endTok p.src]).length ((toks ++ [endTok p.src]).flatMap Tok.cells) := hown
      obtain ⟨o1, o2⟩ := hown
      have hlen : (toks ++ [endTok p.src]).length = l.length + 1 := by rw [List.length_append, hT.len]; rfl
      have hV : ∀ ρ, All2 (VS p.env ρ) (toksF (l ++ [sg 0]) 0) ((toks ++ [endTok p.src]).flatMap Tok.cells) := fun ρ => by
        refine toks_V (by rw [hlen, List.length_append]; rfl) fun j t x ht hx => ?_
        rw [Nat.zero_add]
        rcases Nat.lt_or_ge j l.length with q | q
        · rw [List.getElem?_append_left (by rw [hT.len]; exact q)] at ht
          rw [List.getElem?_append_left q] at hx
          exact hT.tok j t x ht hx
        · have hj : j = l.length := by
            have := (List.getElem?_eq_some_iff.1 hx).1
            rw [List.length_append] at this
            simp at this
            omega
          subst hj
          rw [List.getElem?_append_right (by rw [hT.len]; exact Nat.le_refl _), hT.len, Nat.sub_self] at ht
          rw [List.getElem?_append_right (Nat.le_refl _), Nat.sub_self] at hx
          cases ht
          cases hx
          exact ⟨rfl, fun _ => rfl, rfl, hT.en.1, hT.en.2⟩
      rcases o2 with ⟨_, hz⟩ | ⟨g, cap, cur, rfl, hg, hgb, hc1, hc2, hc3, hc4⟩
      · rw [hlen] at hz; omega
      · rw [hlen] at hc1 hc4
        have hcl : (toksF (l ++ [sg 0]) 0).length = (l.length + 1) * 4 := by rw [(hV ρ).len, o1, hlen]
        have hP := Post.made (B := Bk.of (toksF (l ++ [sg 0]) 0)) hr h7 hf0 (ofC_room _ _).1 hgb (.inl rfl) hg (fun j hj => hb.block j hj) (hb.mono (Nat.zero_le _)) (by show (toksF (l ++ [sg 0]) 0).length ≤ cur.size; rw [hcl, hc3]; exact Nat.mul_le_mul_right _ hc1) ((ofC_room _ _).2 h8) (fun j hj => by
          have hj : j < (toksF (l ++ [sg 0]) 0).length := hj
          obtain ⟨u, q1, q2⟩ := (hV ρ).at (List.getElem?_eq_getElem hj)
          rw [← hc4, List.getElem?_take, if_pos (by omega), Array.getElem?_toList] at q1
          refine ⟨u, q1, ?_⟩
          show VS p.env ρ ((ofC _ _).get j) u
          rw [ofC_get _ hj h8, List.getD_eq_getElem?_getD, List.getElem?_eq_getElem hj]
          exact q2) (PlOk.no (plI_of _ _))
        refine ⟨_, _, rfl, ⟨_, rfl, .cons ⟨g, cur.size, cap, upR_new _ _ _, by rw [hlen], hc1, by omega⟩ (.cons rfl (.cons rfl .nil))⟩, hP⟩
  · cases hm
theorem tok1 {p : Pm} (hc : p.c.oneCell' = true) {l : List W3} {toks : List Tok} (hT : Tk p l toks) {w : World} (hw : Lw w) : TOk (T1 l) p.env w := by
  refine ⟨rfl, ok0 (env_ok hc), ⟨fun f args m h => ?_, fun f args m h => ?_⟩⟩
  · have h : hkS l f args = some m := h
    unfold hkS at h
    cases hf : Nat.beq f 31 with
    | true => rw [hf] at h; exact loc_spl h
    | false => rw [hf] at h; cases h
  · have h : hkS l f args = some m := h
    unfold hkS at h
    cases hf : Nat.beq f 31 with
    | true =>
      rw [hf] at h
      obtain rfl := Nat.eq_of_beq_eq_true hf
      exact spl_sim hT hw h
    | false => rw [hf] at h; cases h
theorem TOk.sim {T : Tab} {env : Nat → Value} {w : World} (h : TOk T env w) (n : Nat) : SimC T env (Gw w) (evF T n) := fn_sim h.ok (by rw [h.p]; exact pr_ok) h.hk n
set_option maxRecDepth 100000 in
theorem comp_sim {p : Pm} (hc : p.c.oneCell' = true) {w3 : List W3} {toks : List Tok} (hT : Tk p w3 toks) {l : List Sc} (hl : goodQ l = true) (hn : l.length < 900) (hp : p.pn = pnL p.a p.b l) {q : Q} (hy : Hy p q) {lb : List Sc} (hb : goodB lb = true) (hlb : p.lb = lb) {w : World} (hw : Lw w) {v : AV} {s' : St} (h : compR w3 l q lb = .ok v s') :
    Calls Tryz.prog 16 #[p.c, .string p.src] w fun e w' => ∃ v' ρ', e = .returned v' ∧ VA p.env ρ' v v' ∧ Below w.heap.size w w' := by
  have k1 := tok1 hc hT hw
  have k2 := tok2 hc hl hn hp w
  have k3 := tok3 hc hy hl hn hp w
  have k5 := tok5 hc hb hlb w
  have hS : SimC (T1 w3) p.env (Gw w) (callX w3 l q lb) := by
    intro f args s v s' ρ w' us he
    unfold callX at he
    cases h1 : Nat.beq f 25 with
    | true => rw [h1] at he; exact k3.sim 200 f args s v s' ρ w' us he
    | false =>
      rw [h1] at he
      cases h2 : Nat.beq f 23 with
      | true => rw [h2] at he; exact k2.sim 200 f args s v s' ρ w' us he
      | false =>
        rw [h2] at he
        cases h3 : Nat.beq f 26 with
        | true => rw [h3] at he; exact k5.sim 200 f args s v s' ρ w' us he
        | false => rw [h3] at he; exact k1.sim 200 f args s v s' ρ w' us he
  have hL : ∀ f args, Ev.Loc (callX w3 l q lb f args) := by
    intro f args
    unfold callX
    cases Nat.beq f 25 with
    | true => exact loc_fn k3.hk.loc 200 f args
    | false =>
      cases Nat.beq f 23 with
      | true => exact loc_fn k2.hk.loc 200 f args
      | false =>
        cases Nat.beq f 26 with
        | true => exact loc_fn k5.hk.loc 200 f args
        | false => exact loc_fn k1.hk.loc 200 f args
  have hfr : Free (r0 w) 8 s'.nx := by
    obtain ⟨_, _, _, q2, _⟩ := loc_body (T := T1 w3) hL _ _ _ _ _ _ h (by show 8 ≤ 32768; omega)
    exact (free0 w).sub q2
  obtain ⟨_, hcl⟩ := body_sim (N := Gw w) k1.ok pr_ok hS hL Tryz.func16 (us := [p.c, .string p.src]) h (by show 8 ≤ 32768; omega) (gl0 w) (.cons rfl (.cons rfl .nil)) (hr0 hw) hfr
  refine hcl.mono ?_
  rintro e w' ⟨v', ρ', e1, e2, e3⟩
  exact ⟨v', ρ', e1, e2, below0 e3⟩
end Sm
end Go.Proofs.YtdmedmmdioabgaaGreatDoor
/- SUMMED: a code's bytes, as they are read. -/
set_option linter.unusedVariables false
set_option linter.unusedSimpArgs false
namespace Go.Proofs.YtdmedmmdioabgaaGreatDoor
namespace Sm
open Ev Go.RowKit
noncomputable section
def rj (m : Nat) : Nat := Nat.div (Nat.sub m 5000) 64
def rr (m : Nat) : Nat := Nat.mod (Nat.sub m 5000) 64
/-- is it of one of the numbers? -/
def inJ (m : Nat) : Bool := Nat.ble 5192 m && Nat.blt m 5384
def orc6 (op : BinOp) (x y : Sc) : Option Sc := match op with
  | .or => match x, y with
    | .i .i64 (.ofNat 0), .y m => bif inJ m && Nat.beq (rr m) 7 then some (.y (m + 2)) else none
    | .y m, .y n => bif inJ m && (Nat.ble 17 (rr m) && (Nat.blt (rr m) 24 && Nat.beq (n + 2 * rr m) (m + 23))) then some (bif Nat.beq (rr m) 23 then .y (rj m) else .y (m - 7)) else none
    | _, _ => none
  | .shl => match x, y with
    | .y m, .i .u64 (.ofNat 8) => bif inJ m && (Nat.ble 9 (rr m) && Nat.blt (rr m) 16) then some (.y (m + 8)) else none
    | .y j, .i .u64 (.ofNat 1) => bif Nat.ble 3 j && Nat.blt j 6 then some (.y (5000 + 64 * j + 32)) else none
    | _, _ => none
  | .shr => match x, y with
    | .y m, .i .u64 (.ofNat 1) => bif inJ m && Nat.beq (rr m) 32 then some (.y (rj m)) else none
    | _, _ => none
  | .neq => match x, y with
    | .y i, .y j => bif Nat.ble 3 i && (Nat.blt i 6 && Nat.beq i j) then some (.b false) else none
    | _, _ => none
  | _ => none
/-- a byte becomes a number -/
def ocv6 (d j : Nat) : Option Sc := bif Nat.beq d 3 && (Nat.ble 1048 j && (Nat.blt j 1096 && Nat.ble 8 (Nat.mod (Nat.sub j 1000) 16))) then some (.y (5000 + 64 * (Nat.div (Nat.sub j 1000) 16) + (Nat.mod (Nat.sub j 1000) 16 - 8))) else none
def oln6 (n : Nat) (j : Nat) : Option Sc := bif Nat.beq j 2 then some (.i .i64 (.ofNat n)) else none
def oix6 (lb : List Sc) (j k : Nat) : Option Sc := bif Nat.beq j 2 then nth lb k else none
def osl6 (lb : List Sc) (j a b : Nat) : Option Sc := bif Nat.beq j 2 && (Nat.beq a 0 && (Nat.beq b 2 && eqL2 (lb.take 2) [b8 109, b8 108])) then some (.s [109, 108]) else none
/-- Compile answers at once -/
def hCmp (x : AV) (args : List AV) : Option (M AV) := match args with
  | [.c (.p _ _), .c (.y 1)] => some (ret x)
  | _ => none
def hkR (x : AV) (f : Nat) (args : List AV) : Option (M AV) := bif Nat.beq f 16 then hCmp x args else none
def T6 (lb : List Sc) (x : AV) : Tab := { T0 with orc := orc6, ocv := ocv6, oln := oln6 lb.length, oix := oix6 lb, olk := fun _ => lb.length, osl := osl6 lb, hk := hkR x }
def codY : AV := .tp [.c (.y 2), .c z0, .c z0]
def runR (lb : List Sc) (x : AV) : R AV := evF (T6 lb x) 200 11 [.c (.y 1), .c .sn, .c z0, .c o1, .c (.i .i64 (.ofNat 20000))] ⟨hp0, 8, 0, 0⟩
end
end Sm
end Go.Proofs.YtdmedmmdioabgaaGreatDoor
/- SUMMED: divisions by nought: codes with unknown bytes, and what is evaluated. -/
set_option linter.unusedVariables false
namespace Go.Proofs.YtdmedmmdioabgaaGreatDoor
namespace Sm
open Ev
noncomputable section
/-- the codes: 1000 and more is an unknown byte -/
def lnD (f pt op : Nat) : List Nat := match f, pt with
  | 0, 0 => [109, 108, 0, 1, 0, 1, 0, 4, 0, 0, 0, 0, 0, 0, 1079, 1078, 1077, 1076, 1075, 1074, 1073, 1072, 1, 0, 0, 0, 0, 0, 0, 0, 1, 1, 0, 0, 0, 0, 0, 0, op, 0, 0, 0, 0, 1, 2625, 2624, 33, 0, 0, 0, 0, 0, 0, 0]
  | 0, 1 => [109, 108, 0, 1, 0, 2, 0, 4, 0, 0, 0, 0, 0, 0, 1079, 1078, 1077, 1076, 1075, 1074, 1073, 1072, 0, 0, 0, 0, 0, 0, 0, 0, 1, 0, 0, 0, 0, 0, 0, 0, 1, 1, 0, 1, 0, 0, 0, 0, op, 0, 0, 0, 0, 1, 2625, 2624, 33, 0, 0, 0, 0, 0, 0, 0]
  | 0, 2 => [109, 108, 0, 1, 0, 2, 0, 7, 0, 0, 0, 0, 0, 0, 1079, 1078, 1077, 1076, 1075, 1074, 1073, 1072, 0, 0, 0, 0, 0, 0, 0, 1, 1, 0, 0, 0, 0, 0, 0, 0, 15, 0, 0, 0, 0, 0, 0, 0, 1, 1, 0, 1, 0, 0, 0, 0, 8, 0, 0, 0, 0, 1, 0, 0, 1, 1, 0, 0, 0, 0, 0, 0, op, 0, 0, 0, 0, 1, 2705, 2704, 33, 0, 0, 0, 0, 0, 0, 0]
  | 0, 3 => [109, 108, 0, 1, 0, 2, 0, 7, 0, 0, 0, 0, 0, 0, 1079, 1078, 1077, 1076, 1075, 1074, 1073, 1072, 0, 0, 0, 0, 0, 0, 0, 0, 1, 0, 0, 0, 0, 0, 0, 0, 15, 0, 0, 0, 0, 0, 0, 0, 1, 1, 0, 0, 0, 0, 0, 0, 8, 0, 0, 0, 0, 1, 0, 0, 1, 1, 0, 1, 0, 0, 0, 0, op, 0, 0, 0, 0, 1, 2705, 2704, 33, 0, 0, 0, 0, 0, 0, 0]
  | 0, _ => [109, 108, 0, 1, 0, 3, 0, 7, 0, 0, 0, 0, 0, 0, 1079, 1078, 1077, 1076, 1075, 1074, 1073, 1072, 0, 0, 0, 0, 0, 0, 0, 1, 0, 0, 0, 0, 0, 0, 0, 0, 1, 0, 0, 0, 0, 0, 0, 0, 15, 0, 0, 0, 0, 0, 0, 0, 1, 1, 0, 1, 0, 0, 0, 0, 8, 0, 0, 0, 0, 1, 0, 0, 1, 1, 0, 2, 0, 0, 0, 0, op, 0, 0, 0, 0, 1, 2705, 2704, 33, 0, 0, 0, 0, 0, 0, 0]
  | 1, 0 => [109, 108, 0, 2, 0, 1, 0, 12, 0, 0, 0, 0, 0, 1, 0, 6, 2, 0, 0, 2, 1079, 1078, 1077, 1076, 1075, 1074, 1073, 1072, 20, 0, 0, 0, 0, 1, 0, 0, 5, 0, 0, 0, 0, 0, 0, 0, 4, 7, 0, 0, 0, 0, 0, 0, 1, 0, 0, 0, 0, 0, 0, 0, 1, 1, 0, 0, 0, 0, 0, 0, 32, 0, 0, 2, 0, 0, 0, 0, 5, 0, 0, 0, 0, 0, 0, 0, 5, 1, 0, 1, 0, 0, 0, 0, 4, 0, 0, 0, 0, 0, 0, 0, 4, 1, 0, 1, 0, 0, 0, 0, op, 0, 0, 0, 0, 1, 2721, 2720, 33, 0, 0, 0, 0, 0, 0, 0]
  | 1, 1 => [109, 108, 0, 2, 0, 2, 0, 12, 0, 0, 0, 0, 0, 1, 0, 6, 2, 0, 0, 2, 1079, 1078, 1077, 1076, 1075, 1074, 1073, 1072, 0, 0, 0, 0, 0, 0, 0, 0, 20, 0, 0, 0, 0, 1, 0, 0, 5, 0, 0, 0, 0, 0, 0, 0, 4, 7, 0, 0, 0, 0, 0, 0, 1, 0, 0, 0, 0, 0, 0, 0, 1, 1, 0, 1, 0, 0, 0, 0, 32, 0, 0, 2, 0, 0, 0, 0, 5, 0, 0, 0, 0, 0, 0, 0, 5, 1, 0, 1, 0, 0, 0, 0, 4, 0, 0, 0, 0, 0, 0, 0, 4, 1, 0, 1, 0, 0, 0, 0, op, 0, 0, 0, 0, 1, 2721, 2720, 33, 0, 0, 0, 0, 0, 0, 0]
  | 1, 2 => [109, 108, 0, 2, 0, 2, 0, 15, 0, 0, 0, 0, 0, 1, 0, 9, 2, 0, 0, 2, 1079, 1078, 1077, 1076, 1075, 1074, 1073, 1072, 0, 0, 0, 0, 0, 0, 0, 1, 20, 0, 0, 0, 0, 1, 0, 0, 5, 0, 0, 0, 0, 0, 0, 0, 1, 0, 0, 0, 0, 0, 0, 0, 15, 0, 0, 0, 0, 0, 0, 0, 1, 1, 0, 1, 0, 0, 0, 0, 8, 0, 0, 0, 0, 1, 0, 0, 4, 7, 0, 0, 0, 0, 0, 0, 1, 1, 0, 0, 0, 0, 0, 0, 32, 0, 0, 2, 0, 0, 0, 0, 5, 0, 0, 0, 0, 0, 0, 0, 5, 1, 0, 1, 0, 0, 0, 0, 4, 0, 0, 0, 0, 0, 0, 0, 4, 1, 0, 1, 0, 0, 0, 0, op, 0, 0, 0, 0, 1, 2721, 2720, 33, 0, 0, 0, 0, 0, 0, 0]
  | 1, 3 => [109, 108, 0, 2, 0, 2, 0, 15, 0, 0, 0, 0, 0, 1, 0, 9, 2, 0, 0, 2, 1079, 1078, 1077, 1076, 1075, 1074, 1073, 1072, 0, 0, 0, 0, 0, 0, 0, 0, 20, 0, 0, 0, 0, 1, 0, 0, 5, 0, 0, 0, 0, 0, 0, 0, 1, 0, 0, 0, 0, 0, 0, 0, 15, 0, 0, 0, 0, 0, 0, 0, 1, 1, 0, 0, 0, 0, 0, 0, 8, 0, 0, 0, 0, 1, 0, 0, 4, 7, 0, 0, 0, 0, 0, 0, 1, 1, 0, 1, 0, 0, 0, 0, 32, 0, 0, 2, 0, 0, 0, 0, 5, 0, 0, 0, 0, 0, 0, 0, 5, 1, 0, 1, 0, 0, 0, 0, 4, 0, 0, 0, 0, 0, 0, 0, 4, 1, 0, 1, 0, 0, 0, 0, op, 0, 0, 0, 0, 1, 2721, 2720, 33, 0, 0, 0, 0, 0, 0, 0]
  | 1, _ => [109, 108, 0, 2, 0, 3, 0, 15, 0, 0, 0, 0, 0, 1, 0, 9, 2, 0, 0, 2, 1079, 1078, 1077, 1076, 1075, 1074, 1073, 1072, 0, 0, 0, 0, 0, 0, 0, 1, 0, 0, 0, 0, 0, 0, 0, 0, 20, 0, 0, 0, 0, 1, 0, 0, 5, 0, 0, 0, 0, 0, 0, 0, 1, 0, 0, 0, 0, 0, 0, 0, 15, 0, 0, 0, 0, 0, 0, 0, 1, 1, 0, 1, 0, 0, 0, 0, 8, 0, 0, 0, 0, 1, 0, 0, 4, 7, 0, 0, 0, 0, 0, 0, 1, 1, 0, 2, 0, 0, 0, 0, 32, 0, 0, 2, 0, 0, 0, 0, 5, 0, 0, 0, 0, 0, 0, 0, 5, 1, 0, 1, 0, 0, 0, 0, 4, 0, 0, 0, 0, 0, 0, 0, 4, 1, 0, 1, 0, 0, 0, 0, op, 0, 0, 0, 0, 1, 2721, 2720, 33, 0, 0, 0, 0, 0, 0, 0]
  | _, 0 => [109, 108, 0, 1, 0, 1, 0, 13, 0, 0, 0, 0, 0, 2, 1079, 1078, 1077, 1076, 1075, 1074, 1073, 1072, 19, 0, 0, 2, 0, 0, 0, 0, 1, 1, 0, 0, 0, 0, 0, 0, 21, 0, 0, 0, 0, 1, 0, 0, 1, 1, 0, 0, 0, 0, 0, 0, 21, 0, 0, 1, 0, 1, 0, 0, 22, 1, 0, 0, 0, 0, 0, 0, 5, 1, 0, 0, 0, 0, 0, 0, 22, 1, 0, 0, 0, 1, 0, 0, 5, 1, 0, 1, 0, 0, 0, 0, 4, 0, 0, 0, 0, 0, 0, 0, 4, 1, 0, 1, 0, 0, 0, 0, op, 0, 0, 0, 0, 1, 2833, 2832, 33, 0, 0, 0, 0, 0, 0, 0]
  | _, 1 => [109, 108, 0, 1, 0, 2, 0, 13, 0, 0, 0, 0, 0, 2, 1079, 1078, 1077, 1076, 1075, 1074, 1073, 1072, 0, 0, 0, 0, 0, 0, 0, 0, 19, 0, 0, 2, 0, 0, 0, 0, 1, 1, 0, 0, 0, 0, 0, 0, 21, 0, 0, 0, 0, 1, 0, 0, 1, 1, 0, 1, 0, 0, 0, 0, 21, 0, 0, 1, 0, 1, 0, 0, 22, 1, 0, 0, 0, 0, 0, 0, 5, 1, 0, 0, 0, 0, 0, 0, 22, 1, 0, 0, 0, 1, 0, 0, 5, 1, 0, 1, 0, 0, 0, 0, 4, 0, 0, 0, 0, 0, 0, 0, 4, 1, 0, 1, 0, 0, 0, 0, op, 0, 0, 0, 0, 1, 2833, 2832, 33, 0, 0, 0, 0, 0, 0, 0]
  | _, 2 => [109, 108, 0, 1, 0, 2, 0, 18, 0, 0, 0, 0, 0, 2, 1079, 1078, 1077, 1076, 1075, 1074, 1073, 1072, 0, 0, 0, 0, 0, 0, 0, 1, 1, 0, 0, 0, 0, 0, 0, 0, 15, 0, 0, 0, 0, 0, 0, 0, 1, 1, 0, 1, 0, 0, 0, 0, 8, 0, 0, 0, 0, 1, 0, 0, 5, 0, 0, 0, 0, 0, 0, 0, 19, 0, 0, 2, 0, 0, 0, 0, 4, 1, 0, 0, 0, 0, 0, 0, 21, 0, 0, 0, 0, 1, 0, 0, 1, 1, 0, 0, 0, 0, 0, 0, 21, 0, 0, 1, 0, 1, 0, 0, 22, 1, 0, 0, 0, 0, 0, 0, 5, 1, 0, 0, 0, 0, 0, 0, 22, 1, 0, 0, 0, 1, 0, 0, 5, 1, 0, 1, 0, 0, 0, 0, 4, 0, 0, 0, 0, 0, 0, 0, 4, 1, 0, 1, 0, 0, 0, 0, op, 0, 0, 0, 0, 1, 2913, 2912, 33, 0, 0, 0, 0, 0, 0, 0]
  | _, 3 => [109, 108, 0, 1, 0, 2, 0, 18, 0, 0, 0, 0, 0, 2, 1079, 1078, 1077, 1076, 1075, 1074, 1073, 1072, 0, 0, 0, 0, 0, 0, 0, 0, 1, 0, 0, 0, 0, 0, 0, 0, 15, 0, 0, 0, 0, 0, 0, 0, 1, 1, 0, 0, 0, 0, 0, 0, 8, 0, 0, 0, 0, 1, 0, 0, 5, 0, 0, 0, 0, 0, 0, 0, 19, 0, 0, 2, 0, 0, 0, 0, 4, 1, 0, 0, 0, 0, 0, 0, 21, 0, 0, 0, 0, 1, 0, 0, 1, 1, 0, 1, 0, 0, 0, 0, 21, 0, 0, 1, 0, 1, 0, 0, 22, 1, 0, 0, 0, 0, 0, 0, 5, 1, 0, 0, 0, 0, 0, 0, 22, 1, 0, 0, 0, 1, 0, 0, 5, 1, 0, 1, 0, 0, 0, 0, 4, 0, 0, 0, 0, 0, 0, 0, 4, 1, 0, 1, 0, 0, 0, 0, op, 0, 0, 0, 0, 1, 2913, 2912, 33, 0, 0, 0, 0, 0, 0, 0]
  | _, _ => [109, 108, 0, 1, 0, 3, 0, 18, 0, 0, 0, 0, 0, 2, 1079, 1078, 1077, 1076, 1075, 1074, 1073, 1072, 0, 0, 0, 0, 0, 0, 0, 1, 0, 0, 0, 0, 0, 0, 0, 0, 1, 0, 0, 0, 0, 0, 0, 0, 15, 0, 0, 0, 0, 0, 0, 0, 1, 1, 0, 1, 0, 0, 0, 0, 8, 0, 0, 0, 0, 1, 0, 0, 5, 0, 0, 0, 0, 0, 0, 0, 19, 0, 0, 2, 0, 0, 0, 0, 4, 1, 0, 0, 0, 0, 0, 0, 21, 0, 0, 0, 0, 1, 0, 0, 1, 1, 0, 2, 0, 0, 0, 0, 21, 0, 0, 1, 0, 1, 0, 0, 22, 1, 0, 0, 0, 0, 0, 0, 5, 1, 0, 0, 0, 0, 0, 0, 22, 1, 0, 0, 0, 1, 0, 0, 5, 1, 0, 1, 0, 0, 0, 0, 4, 0, 0, 0, 0, 0, 0, 0, 4, 1, 0, 1, 0, 0, 0, 0, op, 0, 0, 0, 0, 1, 2913, 2912, 33, 0, 0, 0, 0, 0, 0, 0]
def lbD (f pt op : Nat) : List Sc := (lnD f pt op).map fun n => bif Nat.ble 1000 n then .y n else b8 n
/-- the patterns: is it below 0; is what stands there 0; is it 1; the sign's place -/
def ptA (pt : Nat) : Bool := Nat.ble 2 pt
def pt0 (pt : Nat) : Bool := Nat.beq pt 0 || Nat.beq pt 2
def pt1 (pt : Nat) : Bool := Nat.beq pt 3
def ptJ (f pt : Nat) : Nat := match f with
  | 0 => bif ptA pt then 106 else 101
  | 1 => 107
  | _ => bif ptA pt then 119 else 114
/-- the words: nought for the second number -/
def rep5 (x : Sc) : Sc := match x with
  | .y j => bif Nat.beq j 5 then z0 else x
  | _ => x
def rep3 (t : W3) : W3 := (t.1, rep5 t.2.1, t.2.2)
def txtD (f o : Nat) (sa : Bool) : List W3 := (txt f o sa false).map rep3
def tabD (n0 n1 m : Bool) (op : BinOp) : List Row := match op with
  | .neq => [(.y 4, z0, .b (!n0)), (z0, .y 4, .b (!n0))] ++ ifL m [(.y 4, o1, .b (!n1)), (o1, .y 4, .b (!n1))]
  | .eql => [(.y 4, z0, .b n0)]
  | .sub => [(.y 6, o1, .y 12)] ++ ifL (m && n1) [(.y 6, .y 4, .y 12)]
  | .shl => [(.y 6, u1, .y 8), (.y 12, u1, .y 14)]
  | .shr => [(.y 8, u1, .y 6), (.y 14, u1, .y 12)]
  | _ => []
def orcD (n0 n1 m : Bool) (op : BinOp) (x y : Sc) : Option Sc := look3 x y (tabD n0 n1 m op)
def TD (n0 n1 m : Bool) : Tab := Tb (orcD n0 n1 m) ouc (fun _ _ => none)
def callDc (w3 : List W3) (n0 n1 m : Bool) (lb : List Sc) : Cal := fun f args => bif Nat.beq f 25 then evF (TD n0 n1 m) 200 f args else bif Nat.beq f 23 then evF (TD n0 n1 m) 200 f args else bif Nat.beq f 26 then evF (T5 lb) 200 f args else evF (T1 w3) 200 f args
def compD (w3 : List W3) (n0 n1 m : Bool) (lb : List Sc) : R AV := bodyF (T1 w3) (callDc w3 n0 n1 m lb) [.c (.y 0), .c (.y 1)] ((T1 w3).kp 16) Tryz.f16 ⟨hp0, 8, 0, 0⟩
/-- a place's bytes, as they are read -/
def orcP (op : BinOp) (x y : Sc) : Option Sc := match op with
  | .or => match x, y with
    | .i .i64 (.ofNat 0), .y j => bif Nat.ble 100 j && Nat.blt j 125 then some (.y j) else orc6 .or x y
    | _, _ => orc6 .or x y
  | op => orc6 op x y
def ocvP (d j : Nat) : Option Sc := bif Nat.beq d 3 && (Nat.ble 2600 j && Nat.blt j 3000) then (bif Nat.beq (Nat.mod (Nat.sub j 1000) 16) 8 then some (.y (Nat.div (Nat.sub j 1000) 16)) else bif Nat.beq (Nat.mod (Nat.sub j 1000) 16) 9 then some z0 else none) else ocv6 d j
def T6P (lb : List Sc) (x : AV) : Tab := { T0 with orc := orcP, ocv := ocvP, oln := oln6 lb.length, oix := oix6 lb, olk := fun _ => lb.length, osl := osl6 lb, hk := hkR x }
def callDr (lb : List Sc) (n0 n1 m : Bool) : Cal := fun f args => bif Nat.beq f 19 then evF (TD n0 n1 m) 200 f args else evF (T6P lb codY) 200 f args
def runD (lb : List Sc) (n0 n1 m : Bool) : R AV := bodyF (T6P lb codY) (callDr lb n0 n1 m) [.c (.y 1), .c .sn, .c z0, .c o1, .c (.i .i64 (.ofNat 20000))] ((T6P lb codY).kp 11) Tryz.f11 ⟨hp0, 8, 0, 0⟩
def isRp (j : Nat) (r : R AV) : Bool := match r with
  | .ok (.tp [.ag [e, .y k, v, .sn, .i .i64 st, rd, .i .i64 gc, .i .i64 us], .c (.b true)]) _ => eqZ e (.ofNat 32) && (Nat.beq k j && (eqZ v 0 && eqZ rd 0))
  | _ => false
/-- some answer or other -/
def isRq (r : R AV) : Bool := match r with
  | .ok (.tp [.ag [.i .i64 e, .i .i64 p, .i .i64 v, .sn, .i .i64 st, .i .i64 rd, .i .i64 gc, .i .i64 us], .c (.b true)]) _ => true
  | _ => false
def chkD (f o pt : Nat) : Bool := isY (compD (txtD f o (ptA pt)) (pt0 pt) (pt1 pt) (ptA pt) (lbD f pt (Nat.add 7 o))) && bif Nat.beq f 0 then isRp (ptJ f pt) (runD (lbD f pt (Nat.add 7 o)) (pt0 pt) (pt1 pt) (ptA pt)) else isRq (runD (lbD f pt (Nat.add 7 o)) (pt0 pt) (pt1 pt) (ptA pt))
end
end Sm
end Go.Proofs.YtdmedmmdioabgaaGreatDoor
/- SUMMED: texts without unknown numbers: their codes, and what is evaluated of them. -/
set_option linter.unusedVariables false
namespace Go.Proofs.YtdmedmmdioabgaaGreatDoor
namespace Sm
open Ev
noncomputable section
/-- the texts that read -/
def rdT (o : Nat) : List Nat := match o with
  | 0 => [108, 101, 116, 32, 120, 61, 114, 101, 97, 100, 32, 105, 110, 32, 108, 101, 116, 32, 121, 61, 114, 101, 97, 100, 32, 105, 110, 32, 120, 43, 121]
  | 1 => [108, 101, 116, 32, 120, 61, 114, 101, 97, 100, 32, 105, 110, 32, 108, 101, 116, 32, 121, 61, 114, 101, 97, 100, 32, 105, 110, 32, 120, 45, 121]
  | 2 => [108, 101, 116, 32, 120, 61, 114, 101, 97, 100, 32, 105, 110, 32, 108, 101, 116, 32, 121, 61, 114, 101, 97, 100, 32, 105, 110, 32, 120, 42, 121]
  | 3 => [108, 101, 116, 32, 120, 61, 114, 101, 97, 100, 32, 105, 110, 32, 108, 101, 116, 32, 121, 61, 114, 101, 97, 100, 32, 105, 110, 32, 120, 47, 121]
  | 4 => [108, 101, 116, 32, 120, 61, 114, 101, 97, 100, 32, 105, 110, 32, 108, 101, 116, 32, 121, 61, 114, 101, 97, 100, 32, 105, 110, 32, 120, 37, 121]
  | 5 => [108, 101, 116, 32, 120, 61, 114, 101, 97, 100, 32, 105, 110, 32, 108, 101, 116, 32, 121, 61, 114, 101, 97, 100, 32, 105, 110, 32, 105, 102, 32, 120, 61, 121, 32, 116, 104, 101, 110, 32, 49, 32, 101, 108, 115, 101, 32, 48]
  | 6 => [108, 101, 116, 32, 120, 61, 114, 101, 97, 100, 32, 105, 110, 32, 108, 101, 116, 32, 121, 61, 114, 101, 97, 100, 32, 105, 110, 32, 105, 102, 32, 120, 60, 62, 121, 32, 116, 104, 101, 110, 32, 49, 32, 101, 108, 115, 101, 32, 48]
  | 7 => [108, 101, 116, 32, 120, 61, 114, 101, 97, 100, 32, 105, 110, 32, 108, 101, 116, 32, 121, 61, 114, 101, 97, 100, 32, 105, 110, 32, 105, 102, 32, 120, 60, 121, 32, 116, 104, 101, 110, 32, 49, 32, 101, 108, 115, 101, 32, 48]
  | 8 => [108, 101, 116, 32, 120, 61, 114, 101, 97, 100, 32, 105, 110, 32, 108, 101, 116, 32, 121, 61, 114, 101, 97, 100, 32, 105, 110, 32, 105, 102, 32, 120, 60, 61, 121, 32, 116, 104, 101, 110, 32, 49, 32, 101, 108, 115, 101, 32, 48]
  | 9 => [108, 101, 116, 32, 120, 61, 114, 101, 97, 100, 32, 105, 110, 32, 108, 101, 116, 32, 121, 61, 114, 101, 97, 100, 32, 105, 110, 32, 105, 102, 32, 120, 62, 121, 32, 116, 104, 101, 110, 32, 49, 32, 101, 108, 115, 101, 32, 48]
  | _ => [108, 101, 116, 32, 120, 61, 114, 101, 97, 100, 32, 105, 110, 32, 108, 101, 116, 32, 121, 61, 114, 101, 97, 100, 32, 105, 110, 32, 105, 102, 32, 120, 62, 61, 121, 32, 116, 104, 101, 110, 32, 49, 32, 101, 108, 115, 101, 32, 48]
/-- their codes -/
def rdC (o : Nat) : List Nat := match o with
  | 0 => [109, 108, 0, 1, 0, 0, 0, 8, 0, 0, 0, 0, 0, 2, 28, 0, 0, 0, 0, 0, 0, 6, 5, 0, 0, 0, 0, 0, 0, 0, 28, 0, 0, 0, 0, 0, 0, 20, 5, 0, 0, 1, 0, 0, 0, 0, 4, 0, 0, 0, 0, 0, 0, 0, 4, 1, 0, 1, 0, 0, 0, 0, 7, 0, 0, 0, 0, 1, 0, 0, 33, 0, 0, 0, 0, 0, 0, 0]
  | 1 => [109, 108, 0, 1, 0, 0, 0, 8, 0, 0, 0, 0, 0, 2, 28, 0, 0, 0, 0, 0, 0, 6, 5, 0, 0, 0, 0, 0, 0, 0, 28, 0, 0, 0, 0, 0, 0, 20, 5, 0, 0, 1, 0, 0, 0, 0, 4, 0, 0, 0, 0, 0, 0, 0, 4, 1, 0, 1, 0, 0, 0, 0, 8, 0, 0, 0, 0, 1, 0, 0, 33, 0, 0, 0, 0, 0, 0, 0]
  | 2 => [109, 108, 0, 1, 0, 0, 0, 8, 0, 0, 0, 0, 0, 2, 28, 0, 0, 0, 0, 0, 0, 6, 5, 0, 0, 0, 0, 0, 0, 0, 28, 0, 0, 0, 0, 0, 0, 20, 5, 0, 0, 1, 0, 0, 0, 0, 4, 0, 0, 0, 0, 0, 0, 0, 4, 1, 0, 1, 0, 0, 0, 0, 9, 0, 0, 0, 0, 1, 0, 0, 33, 0, 0, 0, 0, 0, 0, 0]
  | 3 => [109, 108, 0, 1, 0, 0, 0, 8, 0, 0, 0, 0, 0, 2, 28, 0, 0, 0, 0, 0, 0, 6, 5, 0, 0, 0, 0, 0, 0, 0, 28, 0, 0, 0, 0, 0, 0, 20, 5, 0, 0, 1, 0, 0, 0, 0, 4, 0, 0, 0, 0, 0, 0, 0, 4, 1, 0, 1, 0, 0, 0, 0, 10, 0, 0, 0, 0, 1, 0, 29, 33, 0, 0, 0, 0, 0, 0, 0]
  | 4 => [109, 108, 0, 1, 0, 0, 0, 8, 0, 0, 0, 0, 0, 2, 28, 0, 0, 0, 0, 0, 0, 6, 5, 0, 0, 0, 0, 0, 0, 0, 28, 0, 0, 0, 0, 0, 0, 20, 5, 0, 0, 1, 0, 0, 0, 0, 4, 0, 0, 0, 0, 0, 0, 0, 4, 1, 0, 1, 0, 0, 0, 0, 11, 0, 0, 0, 0, 1, 0, 29, 33, 0, 0, 0, 0, 0, 0, 0]
  | 5 => [109, 108, 0, 1, 0, 2, 0, 12, 0, 0, 0, 0, 0, 2, 0, 0, 0, 0, 0, 0, 0, 1, 0, 0, 0, 0, 0, 0, 0, 0, 28, 0, 0, 0, 0, 0, 0, 6, 5, 0, 0, 0, 0, 0, 0, 0, 28, 0, 0, 0, 0, 0, 0, 20, 5, 0, 0, 1, 0, 0, 0, 0, 4, 0, 0, 0, 0, 0, 0, 0, 4, 1, 0, 1, 0, 0, 0, 0, 12, 0, 0, 0, 0, 1, 0, 0, 18, 0, 0, 10, 0, 0, 0, 0, 1, 0, 0, 0, 0, 0, 0, 0, 33, 0, 0, 0, 0, 0, 0, 0, 1, 0, 0, 1, 0, 0, 0, 0, 33, 0, 0, 0, 0, 0, 0, 0]
  | 6 => [109, 108, 0, 1, 0, 2, 0, 13, 0, 0, 0, 0, 0, 2, 0, 0, 0, 0, 0, 0, 0, 1, 0, 0, 0, 0, 0, 0, 0, 0, 28, 0, 0, 0, 0, 0, 0, 6, 5, 0, 0, 0, 0, 0, 0, 0, 28, 0, 0, 0, 0, 0, 0, 20, 5, 0, 0, 1, 0, 0, 0, 0, 4, 0, 0, 0, 0, 0, 0, 0, 4, 1, 0, 1, 0, 0, 0, 0, 12, 0, 0, 0, 0, 1, 0, 0, 16, 0, 0, 0, 0, 0, 0, 0, 18, 0, 0, 11, 0, 0, 0, 0, 1, 0, 0, 0, 0, 0, 0, 0, 33, 0, 0, 0, 0, 0, 0, 0, 1, 0, 0, 1, 0, 0, 0, 0, 33, 0, 0, 0, 0, 0, 0, 0]
  | 7 => [109, 108, 0, 1, 0, 2, 0, 12, 0, 0, 0, 0, 0, 2, 0, 0, 0, 0, 0, 0, 0, 1, 0, 0, 0, 0, 0, 0, 0, 0, 28, 0, 0, 0, 0, 0, 0, 6, 5, 0, 0, 0, 0, 0, 0, 0, 28, 0, 0, 0, 0, 0, 0, 20, 5, 0, 0, 1, 0, 0, 0, 0, 4, 0, 0, 0, 0, 0, 0, 0, 4, 1, 0, 1, 0, 0, 0, 0, 13, 0, 0, 0, 0, 1, 0, 0, 18, 0, 0, 10, 0, 0, 0, 0, 1, 0, 0, 0, 0, 0, 0, 0, 33, 0, 0, 0, 0, 0, 0, 0, 1, 0, 0, 1, 0, 0, 0, 0, 33, 0, 0, 0, 0, 0, 0, 0]
  | 8 => [109, 108, 0, 1, 0, 2, 0, 12, 0, 0, 0, 0, 0, 2, 0, 0, 0, 0, 0, 0, 0, 1, 0, 0, 0, 0, 0, 0, 0, 0, 28, 0, 0, 0, 0, 0, 0, 6, 5, 0, 0, 0, 0, 0, 0, 0, 28, 0, 0, 0, 0, 0, 0, 20, 5, 0, 0, 1, 0, 0, 0, 0, 4, 0, 0, 0, 0, 0, 0, 0, 4, 1, 0, 1, 0, 0, 0, 0, 14, 0, 0, 0, 0, 1, 0, 0, 18, 0, 0, 10, 0, 0, 0, 0, 1, 0, 0, 0, 0, 0, 0, 0, 33, 0, 0, 0, 0, 0, 0, 0, 1, 0, 0, 1, 0, 0, 0, 0, 33, 0, 0, 0, 0, 0, 0, 0]
  | 9 => [109, 108, 0, 1, 0, 2, 0, 12, 0, 0, 0, 0, 0, 2, 0, 0, 0, 0, 0, 0, 0, 1, 0, 0, 0, 0, 0, 0, 0, 0, 28, 0, 0, 0, 0, 0, 0, 6, 5, 0, 0, 0, 0, 0, 0, 0, 28, 0, 0, 0, 0, 0, 0, 20, 5, 0, 0, 1, 0, 0, 0, 0, 4, 0, 0, 0, 0, 0, 0, 0, 4, 1, 0, 1, 0, 0, 0, 0, 13, 0, 0, 1, 0, 0, 0, 0, 18, 0, 0, 10, 0, 0, 0, 0, 1, 0, 0, 0, 0, 0, 0, 0, 33, 0, 0, 0, 0, 0, 0, 0, 1, 0, 0, 1, 0, 0, 0, 0, 33, 0, 0, 0, 0, 0, 0, 0]
  | _ => [109, 108, 0, 1, 0, 2, 0, 12, 0, 0, 0, 0, 0, 2, 0, 0, 0, 0, 0, 0, 0, 1, 0, 0, 0, 0, 0, 0, 0, 0, 28, 0, 0, 0, 0, 0, 0, 6, 5, 0, 0, 0, 0, 0, 0, 0, 28, 0, 0, 0, 0, 0, 0, 20, 5, 0, 0, 1, 0, 0, 0, 0, 4, 0, 0, 0, 0, 0, 0, 0, 4, 1, 0, 1, 0, 0, 0, 0, 14, 0, 0, 1, 0, 0, 0, 0, 18, 0, 0, 10, 0, 0, 0, 0, 1, 0, 0, 0, 0, 0, 0, 0, 33, 0, 0, 0, 0, 0, 0, 0, 1, 0, 0, 1, 0, 0, 0, 0, 33, 0, 0, 0, 0, 0, 0, 0]
def ngT : List Nat := [108, 101, 116, 32, 120, 61, 114, 101, 97, 100, 32, 105, 110, 32, 45, 120]
def ngC : List Nat := [109, 108, 0, 1, 0, 0, 0, 5, 0, 0, 0, 0, 0, 1, 28, 0, 0, 0, 0, 0, 0, 6, 5, 0, 0, 0, 0, 0, 0, 0, 4, 0, 0, 0, 0, 0, 0, 0, 15, 0, 0, 0, 0, 0, 0, 0, 33, 0, 0, 0, 0, 0, 0, 0]
/-- the texts that print -/
def prT (o : Nat) : List Nat := match o with
  | 0 => [105, 102, 40, 112, 114, 105, 110, 116, 32, 49, 59, 49, 41, 43, 40, 112, 114, 105, 110, 116, 32, 50, 59, 49, 41, 61, 49, 32, 116, 104, 101, 110, 32, 49, 32, 101, 108, 115, 101, 32, 50]
  | 1 => [105, 102, 40, 112, 114, 105, 110, 116, 32, 49, 59, 49, 41, 45, 40, 112, 114, 105, 110, 116, 32, 50, 59, 49, 41, 61, 49, 32, 116, 104, 101, 110, 32, 49, 32, 101, 108, 115, 101, 32, 50]
  | 2 => [105, 102, 40, 112, 114, 105, 110, 116, 32, 49, 59, 49, 41, 42, 40, 112, 114, 105, 110, 116, 32, 50, 59, 49, 41, 61, 49, 32, 116, 104, 101, 110, 32, 49, 32, 101, 108, 115, 101, 32, 50]
  | 3 => [105, 102, 40, 112, 114, 105, 110, 116, 32, 49, 59, 49, 41, 47, 40, 112, 114, 105, 110, 116, 32, 50, 59, 49, 41, 61, 49, 32, 116, 104, 101, 110, 32, 49, 32, 101, 108, 115, 101, 32, 50]
  | 4 => [105, 102, 40, 112, 114, 105, 110, 116, 32, 49, 59, 49, 41, 37, 40, 112, 114, 105, 110, 116, 32, 50, 59, 49, 41, 61, 49, 32, 116, 104, 101, 110, 32, 49, 32, 101, 108, 115, 101, 32, 50]
  | 5 => [105, 102, 40, 112, 114, 105, 110, 116, 32, 49, 59, 49, 41, 61, 40, 112, 114, 105, 110, 116, 32, 50, 59, 49, 41, 116, 104, 101, 110, 32, 49, 32, 101, 108, 115, 101, 32, 50]
  | 6 => [105, 102, 40, 112, 114, 105, 110, 116, 32, 49, 59, 49, 41, 60, 62, 40, 112, 114, 105, 110, 116, 32, 50, 59, 49, 41, 116, 104, 101, 110, 32, 49, 32, 101, 108, 115, 101, 32, 50]
  | 7 => [105, 102, 40, 112, 114, 105, 110, 116, 32, 49, 59, 49, 41, 60, 40, 112, 114, 105, 110, 116, 32, 50, 59, 49, 41, 116, 104, 101, 110, 32, 49, 32, 101, 108, 115, 101, 32, 50]
  | 8 => [105, 102, 40, 112, 114, 105, 110, 116, 32, 49, 59, 49, 41, 60, 61, 40, 112, 114, 105, 110, 116, 32, 50, 59, 49, 41, 116, 104, 101, 110, 32, 49, 32, 101, 108, 115, 101, 32, 50]
  | 9 => [105, 102, 40, 112, 114, 105, 110, 116, 32, 49, 59, 49, 41, 62, 40, 112, 114, 105, 110, 116, 32, 50, 59, 49, 41, 116, 104, 101, 110, 32, 49, 32, 101, 108, 115, 101, 32, 50]
  | _ => [105, 102, 40, 112, 114, 105, 110, 116, 32, 49, 59, 49, 41, 62, 61, 40, 112, 114, 105, 110, 116, 32, 50, 59, 49, 41, 116, 104, 101, 110, 32, 49, 32, 101, 108, 115, 101, 32, 50]
/-- their codes -/
def prC (o : Nat) : List Nat := match o with
  | 0 => [109, 108, 0, 1, 0, 3, 0, 18, 0, 0, 0, 0, 0, 1, 0, 0, 0, 0, 0, 0, 0, 1, 0, 0, 0, 0, 0, 0, 0, 0, 0, 0, 0, 0, 0, 0, 0, 2, 1, 0, 0, 0, 0, 0, 0, 0, 27, 0, 0, 0, 0, 0, 0, 3, 1, 0, 0, 1, 0, 0, 0, 0, 1, 0, 0, 0, 0, 0, 0, 0, 5, 0, 0, 0, 0, 0, 0, 0, 1, 0, 0, 2, 0, 0, 0, 0, 27, 0, 0, 0, 0, 0, 0, 15, 1, 0, 0, 1, 0, 0, 0, 0, 1, 1, 0, 0, 0, 0, 0, 0, 4, 0, 0, 0, 0, 0, 0, 0, 7, 0, 0, 0, 0, 1, 0, 0, 1, 1, 0, 0, 0, 0, 0, 0, 12, 0, 0, 0, 0, 1, 0, 0, 18, 0, 0, 16, 0, 0, 0, 0, 1, 0, 0, 0, 0, 0, 0, 0, 33, 0, 0, 0, 0, 0, 0, 0, 1, 0, 0, 2, 0, 0, 0, 0, 33, 0, 0, 0, 0, 0, 0, 0]
  | 1 => [109, 108, 0, 1, 0, 3, 0, 18, 0, 0, 0, 0, 0, 1, 0, 0, 0, 0, 0, 0, 0, 1, 0, 0, 0, 0, 0, 0, 0, 0, 0, 0, 0, 0, 0, 0, 0, 2, 1, 0, 0, 0, 0, 0, 0, 0, 27, 0, 0, 0, 0, 0, 0, 3, 1, 0, 0, 1, 0, 0, 0, 0, 1, 0, 0, 0, 0, 0, 0, 0, 5, 0, 0, 0, 0, 0, 0, 0, 1, 0, 0, 2, 0, 0, 0, 0, 27, 0, 0, 0, 0, 0, 0, 15, 1, 0, 0, 1, 0, 0, 0, 0, 1, 1, 0, 0, 0, 0, 0, 0, 4, 0, 0, 0, 0, 0, 0, 0, 8, 0, 0, 0, 0, 1, 0, 0, 1, 1, 0, 0, 0, 0, 0, 0, 12, 0, 0, 0, 0, 1, 0, 0, 18, 0, 0, 16, 0, 0, 0, 0, 1, 0, 0, 0, 0, 0, 0, 0, 33, 0, 0, 0, 0, 0, 0, 0, 1, 0, 0, 2, 0, 0, 0, 0, 33, 0, 0, 0, 0, 0, 0, 0]
  | 2 => [109, 108, 0, 1, 0, 3, 0, 18, 0, 0, 0, 0, 0, 1, 0, 0, 0, 0, 0, 0, 0, 1, 0, 0, 0, 0, 0, 0, 0, 0, 0, 0, 0, 0, 0, 0, 0, 2, 1, 0, 0, 0, 0, 0, 0, 0, 27, 0, 0, 0, 0, 0, 0, 3, 1, 0, 0, 1, 0, 0, 0, 0, 1, 0, 0, 0, 0, 0, 0, 0, 5, 0, 0, 0, 0, 0, 0, 0, 1, 0, 0, 2, 0, 0, 0, 0, 27, 0, 0, 0, 0, 0, 0, 15, 1, 0, 0, 1, 0, 0, 0, 0, 1, 1, 0, 0, 0, 0, 0, 0, 4, 0, 0, 0, 0, 0, 0, 0, 9, 0, 0, 0, 0, 1, 0, 0, 1, 1, 0, 0, 0, 0, 0, 0, 12, 0, 0, 0, 0, 1, 0, 0, 18, 0, 0, 16, 0, 0, 0, 0, 1, 0, 0, 0, 0, 0, 0, 0, 33, 0, 0, 0, 0, 0, 0, 0, 1, 0, 0, 2, 0, 0, 0, 0, 33, 0, 0, 0, 0, 0, 0, 0]
  | 3 => [109, 108, 0, 1, 0, 3, 0, 18, 0, 0, 0, 0, 0, 1, 0, 0, 0, 0, 0, 0, 0, 1, 0, 0, 0, 0, 0, 0, 0, 0, 0, 0, 0, 0, 0, 0, 0, 2, 1, 0, 0, 0, 0, 0, 0, 0, 27, 0, 0, 0, 0, 0, 0, 3, 1, 0, 0, 1, 0, 0, 0, 0, 1, 0, 0, 0, 0, 0, 0, 0, 5, 0, 0, 0, 0, 0, 0, 0, 1, 0, 0, 2, 0, 0, 0, 0, 27, 0, 0, 0, 0, 0, 0, 15, 1, 0, 0, 1, 0, 0, 0, 0, 1, 1, 0, 0, 0, 0, 0, 0, 4, 0, 0, 0, 0, 0, 0, 0, 10, 0, 0, 0, 0, 1, 0, 13, 1, 1, 0, 0, 0, 0, 0, 0, 12, 0, 0, 0, 0, 1, 0, 0, 18, 0, 0, 16, 0, 0, 0, 0, 1, 0, 0, 0, 0, 0, 0, 0, 33, 0, 0, 0, 0, 0, 0, 0, 1, 0, 0, 2, 0, 0, 0, 0, 33, 0, 0, 0, 0, 0, 0, 0]
  | 4 => [109, 108, 0, 1, 0, 3, 0, 18, 0, 0, 0, 0, 0, 1, 0, 0, 0, 0, 0, 0, 0, 1, 0, 0, 0, 0, 0, 0, 0, 0, 0, 0, 0, 0, 0, 0, 0, 2, 1, 0, 0, 0, 0, 0, 0, 0, 27, 0, 0, 0, 0, 0, 0, 3, 1, 0, 0, 1, 0, 0, 0, 0, 1, 0, 0, 0, 0, 0, 0, 0, 5, 0, 0, 0, 0, 0, 0, 0, 1, 0, 0, 2, 0, 0, 0, 0, 27, 0, 0, 0, 0, 0, 0, 15, 1, 0, 0, 1, 0, 0, 0, 0, 1, 1, 0, 0, 0, 0, 0, 0, 4, 0, 0, 0, 0, 0, 0, 0, 11, 0, 0, 0, 0, 1, 0, 13, 1, 1, 0, 0, 0, 0, 0, 0, 12, 0, 0, 0, 0, 1, 0, 0, 18, 0, 0, 16, 0, 0, 0, 0, 1, 0, 0, 0, 0, 0, 0, 0, 33, 0, 0, 0, 0, 0, 0, 0, 1, 0, 0, 2, 0, 0, 0, 0, 33, 0, 0, 0, 0, 0, 0, 0]
  | 5 => [109, 108, 0, 1, 0, 3, 0, 16, 0, 0, 0, 0, 0, 1, 0, 0, 0, 0, 0, 0, 0, 1, 0, 0, 0, 0, 0, 0, 0, 0, 0, 0, 0, 0, 0, 0, 0, 2, 1, 0, 0, 0, 0, 0, 0, 0, 27, 0, 0, 0, 0, 0, 0, 3, 1, 0, 0, 1, 0, 0, 0, 0, 1, 0, 0, 0, 0, 0, 0, 0, 5, 0, 0, 0, 0, 0, 0, 0, 1, 0, 0, 2, 0, 0, 0, 0, 27, 0, 0, 0, 0, 0, 0, 15, 1, 0, 0, 1, 0, 0, 0, 0, 1, 1, 0, 0, 0, 0, 0, 0, 4, 0, 0, 0, 0, 0, 0, 0, 12, 0, 0, 0, 0, 1, 0, 0, 18, 0, 0, 14, 0, 0, 0, 0, 1, 0, 0, 0, 0, 0, 0, 0, 33, 0, 0, 0, 0, 0, 0, 0, 1, 0, 0, 2, 0, 0, 0, 0, 33, 0, 0, 0, 0, 0, 0, 0]
  | 6 => [109, 108, 0, 1, 0, 3, 0, 17, 0, 0, 0, 0, 0, 1, 0, 0, 0, 0, 0, 0, 0, 1, 0, 0, 0, 0, 0, 0, 0, 0, 0, 0, 0, 0, 0, 0, 0, 2, 1, 0, 0, 0, 0, 0, 0, 0, 27, 0, 0, 0, 0, 0, 0, 3, 1, 0, 0, 1, 0, 0, 0, 0, 1, 0, 0, 0, 0, 0, 0, 0, 5, 0, 0, 0, 0, 0, 0, 0, 1, 0, 0, 2, 0, 0, 0, 0, 27, 0, 0, 0, 0, 0, 0, 16, 1, 0, 0, 1, 0, 0, 0, 0, 1, 1, 0, 0, 0, 0, 0, 0, 4, 0, 0, 0, 0, 0, 0, 0, 12, 0, 0, 0, 0, 1, 0, 0, 16, 0, 0, 0, 0, 0, 0, 0, 18, 0, 0, 15, 0, 0, 0, 0, 1, 0, 0, 0, 0, 0, 0, 0, 33, 0, 0, 0, 0, 0, 0, 0, 1, 0, 0, 2, 0, 0, 0, 0, 33, 0, 0, 0, 0, 0, 0, 0]
  | 7 => [109, 108, 0, 1, 0, 3, 0, 16, 0, 0, 0, 0, 0, 1, 0, 0, 0, 0, 0, 0, 0, 1, 0, 0, 0, 0, 0, 0, 0, 0, 0, 0, 0, 0, 0, 0, 0, 2, 1, 0, 0, 0, 0, 0, 0, 0, 27, 0, 0, 0, 0, 0, 0, 3, 1, 0, 0, 1, 0, 0, 0, 0, 1, 0, 0, 0, 0, 0, 0, 0, 5, 0, 0, 0, 0, 0, 0, 0, 1, 0, 0, 2, 0, 0, 0, 0, 27, 0, 0, 0, 0, 0, 0, 15, 1, 0, 0, 1, 0, 0, 0, 0, 1, 1, 0, 0, 0, 0, 0, 0, 4, 0, 0, 0, 0, 0, 0, 0, 13, 0, 0, 0, 0, 1, 0, 0, 18, 0, 0, 14, 0, 0, 0, 0, 1, 0, 0, 0, 0, 0, 0, 0, 33, 0, 0, 0, 0, 0, 0, 0, 1, 0, 0, 2, 0, 0, 0, 0, 33, 0, 0, 0, 0, 0, 0, 0]
  | 8 => [109, 108, 0, 1, 0, 3, 0, 16, 0, 0, 0, 0, 0, 1, 0, 0, 0, 0, 0, 0, 0, 1, 0, 0, 0, 0, 0, 0, 0, 0, 0, 0, 0, 0, 0, 0, 0, 2, 1, 0, 0, 0, 0, 0, 0, 0, 27, 0, 0, 0, 0, 0, 0, 3, 1, 0, 0, 1, 0, 0, 0, 0, 1, 0, 0, 0, 0, 0, 0, 0, 5, 0, 0, 0, 0, 0, 0, 0, 1, 0, 0, 2, 0, 0, 0, 0, 27, 0, 0, 0, 0, 0, 0, 16, 1, 0, 0, 1, 0, 0, 0, 0, 1, 1, 0, 0, 0, 0, 0, 0, 4, 0, 0, 0, 0, 0, 0, 0, 14, 0, 0, 0, 0, 1, 0, 0, 18, 0, 0, 14, 0, 0, 0, 0, 1, 0, 0, 0, 0, 0, 0, 0, 33, 0, 0, 0, 0, 0, 0, 0, 1, 0, 0, 2, 0, 0, 0, 0, 33, 0, 0, 0, 0, 0, 0, 0]
  | 9 => [109, 108, 0, 1, 0, 3, 0, 16, 0, 0, 0, 0, 0, 1, 0, 0, 0, 0, 0, 0, 0, 1, 0, 0, 0, 0, 0, 0, 0, 0, 0, 0, 0, 0, 0, 0, 0, 2, 1, 0, 0, 0, 0, 0, 0, 0, 27, 0, 0, 0, 0, 0, 0, 3, 1, 0, 0, 1, 0, 0, 0, 0, 1, 0, 0, 0, 0, 0, 0, 0, 5, 0, 0, 0, 0, 0, 0, 0, 1, 0, 0, 2, 0, 0, 0, 0, 27, 0, 0, 0, 0, 0, 0, 15, 1, 0, 0, 1, 0, 0, 0, 0, 1, 1, 0, 0, 0, 0, 0, 0, 4, 0, 0, 0, 0, 0, 0, 0, 13, 0, 0, 1, 0, 0, 0, 0, 18, 0, 0, 14, 0, 0, 0, 0, 1, 0, 0, 0, 0, 0, 0, 0, 33, 0, 0, 0, 0, 0, 0, 0, 1, 0, 0, 2, 0, 0, 0, 0, 33, 0, 0, 0, 0, 0, 0, 0]
  | _ => [109, 108, 0, 1, 0, 3, 0, 16, 0, 0, 0, 0, 0, 1, 0, 0, 0, 0, 0, 0, 0, 1, 0, 0, 0, 0, 0, 0, 0, 0, 0, 0, 0, 0, 0, 0, 0, 2, 1, 0, 0, 0, 0, 0, 0, 0, 27, 0, 0, 0, 0, 0, 0, 3, 1, 0, 0, 1, 0, 0, 0, 0, 1, 0, 0, 0, 0, 0, 0, 0, 5, 0, 0, 0, 0, 0, 0, 0, 1, 0, 0, 2, 0, 0, 0, 0, 27, 0, 0, 0, 0, 0, 0, 16, 1, 0, 0, 1, 0, 0, 0, 0, 1, 1, 0, 0, 0, 0, 0, 0, 4, 0, 0, 0, 0, 0, 0, 0, 14, 0, 0, 1, 0, 0, 0, 0, 18, 0, 0, 14, 0, 0, 0, 0, 1, 0, 0, 0, 0, 0, 0, 0, 33, 0, 0, 0, 0, 0, 0, 0, 1, 0, 0, 2, 0, 0, 0, 0, 33, 0, 0, 0, 0, 0, 0, 0]
/-- those that have no type (5 to 10) -/
def p0T (o : Nat) : List Nat := match o with
  | 0 => []
  | 1 => []
  | 2 => []
  | 3 => []
  | 4 => []
  | 5 => [105, 102, 40, 112, 114, 105, 110, 116, 32, 49, 59, 49, 41, 61, 40, 112, 114, 105, 110, 116, 32, 50, 59, 49, 41, 61, 49, 32, 116, 104, 101, 110, 32, 49, 32, 101, 108, 115, 101, 32, 50]
  | 6 => [105, 102, 40, 112, 114, 105, 110, 116, 32, 49, 59, 49, 41, 60, 62, 40, 112, 114, 105, 110, 116, 32, 50, 59, 49, 41, 61, 49, 32, 116, 104, 101, 110, 32, 49, 32, 101, 108, 115, 101, 32, 50]
  | 7 => [105, 102, 40, 112, 114, 105, 110, 116, 32, 49, 59, 49, 41, 60, 40, 112, 114, 105, 110, 116, 32, 50, 59, 49, 41, 61, 49, 32, 116, 104, 101, 110, 32, 49, 32, 101, 108, 115, 101, 32, 50]
  | 8 => [105, 102, 40, 112, 114, 105, 110, 116, 32, 49, 59, 49, 41, 60, 61, 40, 112, 114, 105, 110, 116, 32, 50, 59, 49, 41, 61, 49, 32, 116, 104, 101, 110, 32, 49, 32, 101, 108, 115, 101, 32, 50]
  | 9 => [105, 102, 40, 112, 114, 105, 110, 116, 32, 49, 59, 49, 41, 62, 40, 112, 114, 105, 110, 116, 32, 50, 59, 49, 41, 61, 49, 32, 116, 104, 101, 110, 32, 49, 32, 101, 108, 115, 101, 32, 50]
  | _ => [105, 102, 40, 112, 114, 105, 110, 116, 32, 49, 59, 49, 41, 62, 61, 40, 112, 114, 105, 110, 116, 32, 50, 59, 49, 41, 61, 49, 32, 116, 104, 101, 110, 32, 49, 32, 101, 108, 115, 101, 32, 50]
/-- Compile at a text that is known -/
def compC (src : List Nat) : R AV := evF T0 200 16 [.c (.y 0), .c (.s src)] ⟨hp0, 8, 0, 0⟩
def codS (l : List Nat) : AV := .tp [.c (.s l), .c z0, .c z0]
/-- an input -/
def hpI (l : List Sc) : Hp := set5 2 (Bk.of l) hp0 id
def Tc (x : AV) : Tab := { T0 with hk := hkR x }
/-- x, y are 100, 101; twice 102, 103 -/
def Q.tab7 (q : Q) (op : BinOp) : List Row := match op with
  | .shl => [(.y 100, u1, .y 102), (.y 101, u1, .y 103)] ++ q.tab .shl
  | .shr => [(.y 102, u1, .y q.A), (.y 103, u1, .y q.B)] ++ q.tab .shr
  | op => q.tab op
def Q.orc7 (q : Q) (op : BinOp) (x y : Sc) : Option Sc := look3 x y (q.tab7 op)
def T7 (q : Q) : Tab := Tb q.orc7 ouc (fun _ _ => none)
def callI (x : AV) (q : Q) : Cal := fun f args => bif Nat.beq f 19 then evF (T7 q) 200 f args else evF (Tc x) 200 f args
def runI (l : List Sc) (n : Nat) (x : AV) (q : Q) : R AV := bodyF (Tc x) (callI x q) [.c (.y 1), .c (.sl 2 0 n 1), .c z0, .c o1, .c (.i .i64 (.ofNat 20000))] ((Tc x).kp 11) Tryz.f11 ⟨hpI l, 8, 0, 0⟩
def isRd (e p : Int) (n : Nat) (val : Sc) (r : R AV) : Bool := match r with
  | .ok (.tp [.ag [e', p', v, .sn, .i .i64 st, rd, .i .i64 gc, .i .i64 us], .c (.b true)]) _ => eqZ e' e && (eqZ p' p && (scEqu v val && eqZ rd (.ofNat n)))
  | _ => false
def zbs7 (o : Nat) (sa sb : Bool) : List Bool := bif (bif Nat.ble 9 o then sa else sb) then [false] else [false, true]
def valR (o ord : Nat) : Sc := bif Nat.ble 5 o then .i .i64 (.ofNat (tru o ord)) else .y 18
def isDv (o : Nat) : Bool := Nat.beq o 3 || Nat.beq o 4
def chkR (o : Nat) (sa sb : Bool) : Bool := (ords o sa sb).all fun ord => (zbs7 o sa sb).all fun zb => bif zb && isDv o then isRd (.ofNat 32) (.ofNat 29) 2 z0 (runI [.y 100, .y 101] 2 (codS (rdC o)) (qOf o sa sb ord zb)) else isRd 0 0 2 (valR o ord) (runI [.y 100, .y 101] 2 (codS (rdC o)) (qOf o sa sb ord zb))
def chkRN (sa : Bool) : Bool := isRd 0 0 1 (.y (bif sa then 21 else 6)) (runI [.y 100] 1 (codS ngC) (qOf 11 sa false 0 false))
/-- a run whose output is 1, 2 -/
def isPr (r : R AV) : Bool := match r with
  | .ok (.tp [.ag [e, p, .i .i64 v, .sl b 0 2 1, .i .i64 st, .i .i64 rd, .i .i64 gc, .i .i64 us], .c (.b true)]) s => eqZ e 0 && (eqZ p 0 && (Nat.ble 8 b && (Nat.blt b 32768 && (Nat.ble 2 (get5 b s.h).n && (scEqu ((get5 b s.h).t.get 0) o1 && scEqu ((get5 b s.h).t.get 1) (.i .i64 (.ofNat 2)))))))
  | _ => false
def runP (x : AV) : R AV := evF (Tc x) 200 11 [.c (.y 1), .c .sn, .c z0, .c o1, .c (.i .i64 (.ofNat 20000))] ⟨hp0, 8, 0, 0⟩
def chkP (o : Nat) : Bool := isPr (runP (codS (prC o)))
def isNo (r : R AV) : Bool := match r with
  | .ok (.tp [.ag [a, b, c, .sn, d, e, f, g], .c (.b false)]) _ => eqZ a 0 && (eqZ b 0 && (eqZ c 0 && (eqZ d 0 && (eqZ e 0 && (eqZ f 0 && eqZ g 0)))))
  | _ => false
def chk0 (o : Nat) : Bool := isNo (evF T0 200 11 [.c (.s (p0T o)), .c .sn, .c z0, .c o1, .c (.i .i64 (.ofNat 20000))] ⟨hp0, 8, 0, 0⟩)
end
end Sm
end Go.Proofs.YtdmedmmdioabgaaGreatDoor
