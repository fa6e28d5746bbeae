import Derived.Test.YtdmedmmdioabgaaGreatDoorZaN
import Derived.Test.YtdmedmmdioabgaaGreatDoorZaJ
/- SUMMED: texts without unknown numbers: their codes, their runs at an input: sound. -/
set_option linter.unusedVariables false
set_option linter.unusedSimpArgs false
namespace Go.Proofs.YtdmedmmdioabgaaGreatDoor
namespace Sm
open Ev Go.RowKit
/-! Compile is answered -/
theorem hkr_ok {T : Tab} (hp : T.P = Tryz.prog) {env : Nat → Value} {x : AV} (hT : T.hk = hkR x) {src cv : ByteArray} (h1 : env 1 = .string src) (hx : ∀ ρ, VA env ρ x (.tuple #[.string cv, .int .i64 0, .int .i64 0])) (hC : CmpIs src cv) {w : World} (hw : Lw w) : HkOk T env (Gw w) := by
  refine ⟨fun f args m h => ?_, fun f args m h => ?_⟩
  · rw [hT] at h
    unfold hkR at h
    cases hf : Nat.beq f 16 with
    | true =>
      rw [hf] at h
      replace h : hCmp x args = some m := h
      unfold hCmp at h
      split at h
      · cases h; exact loc_ret _
      · cases h
    | false => rw [hf] at h; cases h
  · rw [hT] at h
    unfold hkR at h
    cases hf : Nat.beq f 16 with
    | true =>
      rw [hf] at h
      replace h : hCmp x args = some m := h
      obtain rfl := Nat.eq_of_beq_eq_true hf
      unfold hCmp at h
      split at h
      · cases h
        intro s v s' ρ w' us he hsx hG ha hr hf
        rw [hp]
        refine ⟨fnCmp, ?_⟩
        cases he
        cases ha with
        | cons h2 ha =>
          cases ha with
          | cons h3 ha =>
            cases ha
            obtain ⟨k, z, _, rfl⟩ := h2
            have h3 : _ = env 1 := h3
            rw [h1] at h3
            subst h3
            refine (hC (.pointer (some ⟨k, _, none⟩)) w' rfl (hw.of fun g hg => hG.as' g hg)).mono ?_
            rintro e w'' ⟨rfl, hb⟩
            exact ⟨_, ρ, rfl, hx ρ, Post.low' hr _ hb⟩
      · cases h
    | false => rw [hf] at h; cases h
theorem nat_bs {s : ByteArray} {l : List Nat} (h : s.data.toList.map (·.toNat) = l) (env : Nat → Value) (ρ : Rh) : VS env ρ (.s l) (.string s) := ⟨s, rfl, h⟩
def byB (l : List Nat) : ByteArray := ⟨(l.map UInt8.ofNat).toArray⟩
theorem byB_nat {l : List Nat} (h : l.all (fun n => Nat.blt n 256) = true) : (byB l).data.toList.map (·.toNat) = l := by
  show ((l.map UInt8.ofNat).toArray.toList).map (·.toNat) = l
  rw [List.map_map]
  induction l with
  | nil => rfl
  | cons n l ih =>
    rw [List.all_cons, Bool.and_eq_true] at h
    have hn : n < 256 := blt_t h.1
    show (UInt8.ofNat n).toNat :: _ = n :: l
    rw [UInt8.toNat_ofNat', Nat.mod_eq_of_lt (by show n < 256; exact hn)]
    congr 1
    exact ih h.2
theorem cod_V {l : List Nat} (h : l.all (fun n => Nat.blt n 256) = true) (env : Nat → Value) (ρ : Rh) : VA env ρ (codS l) (.tuple #[.string (byB l), .int .i64 0, .int .i64 0]) :=
  ⟨#[.string (byB l), .int .i64 0, .int .i64 0], rfl, .cons ⟨_, rfl, byB_nat h⟩ (.cons rfl (.cons rfl .nil))⟩
/-- an environment of nothing but the text and the compiler -/
def env1 (c : Value) (src : ByteArray) (j : Nat) : Value := if j = 0 then c else if j = 1 then .string src else .bool true
theorem env1_ok {c : Value} (hc : c.oneCell' = true) (src : ByteArray) : EnvOk (env1 c src) := fun j => by
  unfold env1
  split
  · exact hc
  · split <;> rfl
/-- Compile at a known text -/
theorem cmp_lit {src : ByteArray} {t l : List Nat} (hs : src.data.toList.map (·.toNat) = t) (hl : l.all (fun n => Nat.blt n 256) = true) (h : isS l (compC t) = true) : CmpIs src (byB l) := by
  intro c w hc hw
  obtain ⟨s', hr⟩ := isS_ok h
  have hj : Jx (env1 c src) w [.c (.y 0), .c (.s t)] ⟨hp0, 8, 0, 0⟩ [c, .string src] w :=
    ⟨⟨r0 w, .cons rfl (.cons ⟨_, rfl, hs⟩ .nil), Post.refl (hr0 hw) _⟩, Nat.le_refl _, by show 8 ≤ 32768; omega⟩
  refine (hj.call (tok0 (env1_ok hc src) w) hr).mono ?_
  rintro e w' ⟨u, rfl, hJ⟩
  obtain ⟨ρ, ha, hP⟩ := hJ.ex
  cases ha with
  | cons h1 _ =>
    obtain ⟨u, hu, rfl⟩ := va3 h1
    obtain ⟨s, rfl, hs'⟩ := hu
    have : s = byB l := str_inj (by rw [hs', byB_nat hl])
    rw [this]
    exact ⟨rfl, below0 hP⟩
/-! memory with an input -/
def r2 (w : World) (k : Nat) : Rh := fun g => if g < 2 then some (g, zOf w g) else if g = 2 then some (k, zOf w k) else none
theorem hpI_at (l : List Sc) {i : Nat} (hi : i < 32768) : get5 i (hpI l) = if i = 2 then Bk.of l else get5 i hp0 := by
  unfold hpI
  rw [l5.2 i 2 _ _ hi (by omega)]
theorem liveI {l : List Sc} (h0 : 0 < l.length) {i : Nat} : Live (hpI l) i ↔ i < 3 := by
  constructor
  · rintro ⟨h1, h2⟩
    rw [hpI_at l h1] at h2
    by_cases e : i = 2
    · omega
    · rw [if_neg e] at h2
      have := live0.1 ⟨h1, h2⟩
      omega
  · intro hi
    refine ⟨by omega, ?_⟩
    rw [hpI_at l (by omega)]
    by_cases e : i = 2
    · rw [if_pos e]; exact (ofC_room l.length l).1
    · rw [if_neg e]; exact (live0.2 (by omega)).2
theorem in_ge {w : World} (hw : Lw w) {k : Nat} {n : Int} (h : w.cell? ⟨k, 0, none⟩ = some (.int .i64 n)) : 2 ≤ k := by
  rcases Nat.lt_or_ge k 2 with q | q
  · exfalso
    have : k = 0 ∨ k = 1 := by omega
    rcases this with rfl | rfl
    · obtain ⟨v, h1, h2⟩ := hw.f 0 _ rfl
      rw [h1] at h
      cases h
      obtain ⟨s, e, _⟩ := h2 (fun _ => .bool true) (fun _ => none)
      cases e
    · obtain ⟨v, h1, h2⟩ := hw.t 0 _ rfl
      rw [h1] at h
      cases h
      obtain ⟨s, e, _⟩ := h2 (fun _ => .bool true) (fun _ => none)
      cases e
  · exact q
theorem blk_in {w : World} {k : Nat} {l : List Sc} {env : Nat → Value} {ρ : Rh} (h0 : 0 < l.length) (hl : l.length ≤ 4096) (hρ : ρ 2 = some (k, zOf w k)) (h : ∀ i x, l[i]? = some x → ∃ v, w.cell? ⟨k, i, none⟩ = some v ∧ VS env ρ x v) : BR env ρ (Bk.of l) 2 w ∧ l.length ≤ zOf w k := by
  have hb : ∃ arr ty fz, w.heap[k]? = some (.cells arr ty fz) := by
    obtain ⟨v, h1, _⟩ := h 0 _ (List.getElem?_eq_getElem h0)
    unfold World.cell? at h1
    cases hb : w.heap[k]? with
    | none => simp only [hb] at h1; cases h1
    | some B =>
      cases B with
      | cells arr ty fz => exact ⟨_, _, _, rfl⟩
      | _ => simp only [hb] at h1; cases h1
  obtain ⟨arr, ty, ⟨lo, hi⟩, hb⟩ := hb
  have hc : ∀ i x, l[i]? = some x → ∃ v, arr[i]? = some v ∧ VS env ρ x v := fun i x hx => by
    obtain ⟨v, h1, h2⟩ := h i x hx
    rw [cell_of hb] at h1
    exact ⟨v, h1, h2⟩
  have hz : zOf w k = arr.size := by unfold zOf; rw [hb]
  have hsz : l.length ≤ arr.size := by
    obtain ⟨v, h1, _⟩ := hc (l.length - 1) _ (List.getElem?_eq_getElem (by omega))
    have := (Array.getElem?_eq_some_iff.1 h1).1
    omega
  refine ⟨⟨k, arr, ty, lo, hi, by rw [hρ, hz], hb, .inl (by omega), hsz, (ofC_room _ l).2 hl, fun j hj => ?_, PlOk.no (plI_of _ l)⟩, by rw [hz]; exact hsz⟩
  have hj : j < l.length := hj
  obtain ⟨v, h1, h2⟩ := hc j (l.getD j .se) (by rw [List.getD_eq_getElem?_getD, List.getElem?_eq_getElem hj]; rfl)
  refine ⟨v, h1, ?_⟩
  have e : ((Bk.of l).t.get j) = l.getD j .se := ofC_get l hj hl
  rw [e]
  exact h2
theorem hrI {env : Nat → Value} {w : World} (hw : Lw w) {k : Nat} (hk : 2 ≤ k) {l : List Sc} (h0 : 0 < l.length) (hl : l.length ≤ 4096) (h : ∀ i x, l[i]? = some x → ∃ v, w.cell? ⟨k, i, none⟩ = some v ∧ VS env (r2 w k) x v) : HR env (r2 w k) (hpI l) w := by
  refine ⟨fun i hi => ?_, fun i hi hd => ?_, fun i j k' z z' hi hj e e' => ?_, fun i x e => ?_⟩
  · have hi := (liveI h0).1 hi
    rw [hpI_at l (by omega)]
    by_cases e : i = 2
    · subst e
      rw [if_pos rfl]
      exact (blk_in h0 hl rfl h).1
    · rw [if_neg e, hp0_at (by omega)]
      by_cases e : i = 0
      · subst e
        rw [if_pos rfl]
        exact blk_of (by omega) (by decide) (by decide) rfl hw.f
      · have e : i = 1 := by omega
        subst e
        rw [if_neg (by omega), if_pos rfl]
        exact blk_of (by omega) (by decide) (by decide) rfl hw.t
  · rw [hpI_at l hi] at hd ⊢
    by_cases e : i = 2
    · rw [if_pos e] at hd
      have := (ofC_room l.length l).1
      exact absurd hd (Nat.ne_of_gt this)
    · rw [if_neg e] at hd ⊢
      exact (hr0 (env := env) hw).ded i hi hd
  · have hi := (liveI h0).1 hi
    have hj := (liveI h0).1 hj
    unfold r2 at e e'
    have key : ∀ {i k z}, i < 3 → (if i < 2 then some (i, zOf w i) else if i = 2 then some (k, zOf w k) else none) = some (k', z) → k' = if i = 2 then k else i := fun {i k z} hi e => by
      by_cases q : i < 2
      · rw [if_pos q] at e
        cases e
        rw [if_neg (by omega)]
      · rw [if_neg q, if_pos (by omega)] at e
        cases e
        rw [if_pos (by omega)]
    have q1 := key hi e
    have q2 := key hj e'
    rw [q1] at q2
    by_cases c1 : i = 2
    · by_cases c2 : j = 2
      · omega
      · rw [if_pos c1, if_neg c2] at q2; omega
    · by_cases c2 : j = 2
      · rw [if_neg c1, if_pos c2] at q2; omega
      · rw [if_neg c1, if_neg c2] at q2; exact q2
  · unfold r2 at e
    split at e
    · omega
    · split at e
      · omega
      · cases e
theorem belowI {env : Nat → Value} {w w' : World} {k : Nat} {l : List Sc} (h0 : 0 < l.length) {ρ' : Rh} {h' : Hp} {n' : Nat} (hp : Post env (r2 w k) (hpI l) 8 w ρ' h' n' w') : Below w.heap.size w w' := by
  refine ⟨hp.low.os, hp.low.tape, hp.low.output, hp.low.size, fun j hj => ?_⟩
  by_cases e : j < 2
  · exact (hp.ro j j (zOf w j) (by omega) ((liveI h0).2 (by omega)) (if_pos e)).2
  · by_cases e2 : j = k
    · subst e2
      exact (hp.ro 2 j (zOf w j) (by omega) ((liveI h0).2 (by omega)) rfl).2
    · refine hp.keep j hj fun i z' hl e' => ?_
      have hi := (liveI h0).1 hl
      unfold r2 at e'
      by_cases q : i < 2
      · rw [if_pos q] at e'
        cases e'
        exact e q
      · rw [if_neg q, if_pos (by omega)] at e'
        cases e'
        exact e2 rfl
theorem glI {w : World} {k : Nat} {l : List Sc} (h0 : 0 < l.length) : Gl (Gw w) (r2 w k) (hpI l) w := ⟨fun g hg => ⟨zOf w g, if_pos hg⟩, fun g hg => (liveI h0).2 (by have : g < 2 := hg; omega), fun _ _ => rfl⟩
theorem freeI (w : World) (k : Nat) : Free (r2 w k) 8 32768 := fun i hi _ => by unfold r2; rw [if_neg (by omega), if_neg (by omega)]
end Sm
end Go.Proofs.YtdmedmmdioabgaaGreatDoor
/- SUMMED: texts that read, run. -/
set_option linter.unusedVariables false
set_option linter.unusedSimpArgs false
namespace Go.Proofs.YtdmedmmdioabgaaGreatDoor
namespace Sm
open Ev Go.RowKit
structure Rd (p : Pm) : Prop where
  x : p.pl 2 = i6 (p.pl 0 * 2)
  y : p.pl 3 = i6 (p.pl 1 * 2)
  a : (p.pl 2).fdiv 2 = p.a
  b : (p.pl 3).fdiv 2 = p.b
theorem d_pl (p : Pm) {i : Nat} (hi : i < 800) : den p (.y (100 + i)) = .i .i64 (p.pl i) := by
  show denY (p.env (100 + i)) (100 + i) = _
  rw [e_pl p hi]; rfl
theorem orc_row7 {p : Pm} {q : Q} (h : Hy p q) (hr : Rd p) {op : BinOp} {x y r : Sc} (hm : (x, y, r) ∈ q.tab7 op) : bin op false (den p x) (den p y) = some (den p r) := by
  have d0 : den p (.y 100) = .i .i64 (p.pl 0) := d_pl p (i := 0) (by omega)
  have d1 : den p (.y 101) = .i .i64 (p.pl 1) := d_pl p (i := 1) (by omega)
  have d2 : den p (.y 102) = .i .i64 (p.pl 2) := d_pl p (i := 2) (by omega)
  have d3 : den p (.y 103) = .i .i64 (p.pl 3) := d_pl p (i := 3) (by omega)
  have du : den p u1 = u1 := rfl
  cases op with
  | shl =>
    rcases List.mem_append.1 hm with hm | hm
    · simp only [List.mem_cons, Prod.mk.injEq, List.not_mem_nil, or_false] at hm
      rcases hm with ⟨rfl, rfl, rfl⟩ | ⟨rfl, rfl, rfl⟩
      · rw [d0, d2, du, shl1, hr.x]
      · rw [d1, d3, du, shl1, hr.y]
    · exact orc_row h hm
  | shr =>
    rcases List.mem_append.1 hm with hm | hm
    · simp only [List.mem_cons, Prod.mk.injEq, List.not_mem_nil, or_false] at hm
      rcases hm with ⟨rfl, rfl, rfl⟩ | ⟨rfl, rfl, rfl⟩
      · rw [d2, du, shr1, hr.a, h.dA, h.vA]
      · rw [d3, du, shr1, hr.b, h.dB, h.vB]
    · exact orc_row h hm
  | _ => exact orc_row h hm
theorem tok7 {p : Pm} (hc : p.c.oneCell' = true) {q : Q} (h : Hy p q) (hr : Rd p) (w : World) : TOk (T7 q) p.env w := by
  have hA := NN_in h.a
  have hB := NN_in h.b
  refine ⟨rfl, ⟨env_ok hc, fun op x y r t xo yo ρ vx vy w e hx hy => ?_, fun op x r ρ vx w e hx => ?_, (fun j b e => by cases e), (fun j r e => by cases e), (fun d j r e => by cases e), (fun j k r e => by cases e), (fun j a b r e => by cases e), (fun r x ρ us e => by cases e)⟩, ⟨(fun f args m h => by cases h), (fun f args m h => by cases h)⟩⟩
  · have e : q.orc7 op x y = some r := e
    have hb := orc_row7 h hr (look3_mem e)
    obtain ⟨vr, h1, h2⟩ := bin_sim (T := T7 q) (w := w) (t := t) hb (fun e => by cases e) (den_V.1 hx) (den_V.1 hy) xo yo
    exact ⟨vr, h1, den_V.2 h2⟩
  · have e : ouc op x = some r := e
    unfold ouc at e
    split at e
    · split at e
      · cases e
        have hx : vx = .int .i64 (NN p.a) := hx
        rw [hx]
        exact ⟨_, uneg (env := p.env) (m := -NN p.a) (by rw [Int.zero_sub, i6_in (by omega) (by omega)]), rfl⟩
      · cases e
        have hx : vx = .int .i64 (NN p.b) := hx
        rw [hx]
        exact ⟨_, uneg (env := p.env) (m := -NN p.b) (by rw [Int.zero_sub, i6_in (by omega) (by omega)]), rfl⟩
      · cases e
        have hx : vx = .int .i64 (-NN p.a - 1) := hx
        rw [hx]
        exact ⟨_, uneg (env := p.env) (m := i6 (-(-NN p.a - 1))) (by rw [Int.zero_sub]), rfl⟩
      · cases e
    · cases e
theorem tokc {env : Nat → Value} (he : EnvOk env) {x : AV} {src cv : ByteArray} (h1 : env 1 = .string src) (hx : ∀ ρ, VA env ρ x (.tuple #[.string cv, .int .i64 0, .int .i64 0])) (hC : CmpIs src cv) {w : World} (hw : Lw w) : TOk (Tc x) env w :=
  ⟨rfl, ok0 (hk := hkR x) he, hkr_ok (T := Tc x) rfl rfl h1 hx hC hw⟩
set_option maxRecDepth 100000 in
theorem runI_sim {p : Pm} (hc : p.c.oneCell' = true) {q : Q} (hy : Hy p q) (hrd : Rd p) {x : AV} {cv : ByteArray} (hx : ∀ ρ, VA p.env ρ x (.tuple #[.string cv, .int .i64 0, .int .i64 0])) (hC : CmpIs p.src cv) {w : World} (hw : Lw w) {k : Nat} (hk : 2 ≤ k) {l : List Sc} (h0 : 0 < l.length) (hl : l.length ≤ 4096) (hcell : ∀ i x, l[i]? = some x → ∃ v, w.cell? ⟨k, i, none⟩ = some v ∧ VS p.env (r2 w k) x v) {v : AV} {s' : St} (h : runI l l.length x q = .ok v s') :
    Calls Tryz.prog 11 #[.string p.src, .slice (some ⟨k, 0, none⟩) l.length l.length, .int .i64 0, .int .i64 1, .int .i64 20000] w fun e w' => ∃ v' ρ', e = .returned v' ∧ VA p.env ρ' v v' ∧ Below w.heap.size w w' := by
  have k7 := tok7 hc hy hrd w
  have kc := tokc (env_ok hc) rfl hx hC hw
  have hS : SimC (Tc x) p.env (Gw w) (callI x q) := by
    intro f args s v s' ρ w' us he
    unfold callI at he
    cases h1 : Nat.beq f 19 with
    | true => rw [h1] at he; exact k7.sim 200 f args s v s' ρ w' us he
    | false => rw [h1] at he; exact kc.sim 200 f args s v s' ρ w' us he
  have hL : ∀ f args, Ev.Loc (callI x q f args) := by
    intro f args
    unfold callI
    cases Nat.beq f 19 with
    | true => exact loc_fn k7.hk.loc 200 f args
    | false => exact loc_fn kc.hk.loc 200 f args
  have hfr : Free (r2 w k) 8 s'.nx := by
    obtain ⟨_, _, _, q2, _⟩ := loc_body (T := Tc x) hL _ _ _ _ _ _ h (by show 8 ≤ 32768; omega)
    exact (freeI w k).sub q2
  obtain ⟨_, hz⟩ := blk_in (ρ := r2 w k) h0 hl rfl hcell
  obtain ⟨_, hcl⟩ := body_sim (N := Gw w) kc.ok pr_ok hS hL Tryz.func11 (us := [.string p.src, .slice (some ⟨k, 0, none⟩) l.length l.length, .int .i64 0, .int .i64 1, .int .i64 20000]) h (by show 8 ≤ 32768; omega) (glI h0) (.cons rfl (.cons ⟨k, zOf w k, l.length, rfl, rfl, Nat.le_refl _, by omega⟩ (.cons rfl (.cons rfl (.cons rfl .nil))))) (hrI hw hk h0 hl hcell) hfr
  refine hcl.mono ?_
  rintro e w' ⟨v', ρ', e1, e2, e3⟩
  exact ⟨v', ρ', e1, e2, belowI h0 e3⟩
theorem isRd_ok {e p : Int} {n : Nat} {val : Sc} {r : R AV} (h : isRd e p n val r = true) : ∃ st gc us s', r = .ok (.tp [.ag [.i .i64 e, .i .i64 p, val, .sn, .i .i64 st, .i .i64 (.ofNat n), .i .i64 gc, .i .i64 us], .c (.b true)]) s' := by
  unfold isRd at h
  split at h
  · simp only [Bool.and_eq_true] at h
    obtain ⟨h1, h2, h3, h4⟩ := h
    rw [eqZ_eq h1, eqZ_eq h2, scEqu_eq h3, eqZ_eq h4]
    exact ⟨_, _, _, _, rfl⟩
  · cases h
theorem va8 {env : Nat → Value} {ρ : Rh} {e p st n gc us : Int} {val : Sc} {v : Value} (h : VA env ρ (.tp [.ag [.i .i64 e, .i .i64 p, val, .sn, .i .i64 st, .i .i64 n, .i .i64 gc, .i .i64 us], .c (.b true)]) v) : ∃ u, VS env ρ val u ∧ v = .tuple #[.agg #[.int .i64 e, .int .i64 p, u, .slice none 0 0, .int .i64 st, .int .i64 n, .int .i64 gc, .int .i64 us], .bool true] := by
  obtain ⟨⟨l0⟩, rfl, ha⟩ := h
  cases ha with
  | cons h1 ha => cases ha with
    | cons h2 ha =>
      cases ha
      obtain ⟨⟨l1⟩, rfl, ha⟩ := h1
      obtain ⟨u0, u1, u2, u3, u4, u5, u6, u7, rfl, e0, e1, e2, e3, e4, e5, e6, e7⟩ := all2_8 ha
      cases e0
      cases e1
      cases e3
      cases e4
      cases e5
      cases e6
      cases e7
      cases h2
      exact ⟨_, e2, rfl⟩
theorem cell_on {w w' : World} (hb : Below w.heap.size w w') {a : Addr} {v : Value} (h : w.cell? a = some v) : w'.cell? a = some v := by
  have hk : a.block < w.heap.size := by
    unfold World.cell? at h
    rcases Nat.lt_or_ge a.block w.heap.size with q | q
    · exact q
    · rw [show w.heap[a.block]? = none from Array.getElem?_eq_none q] at h; cases h
  unfold World.cell? at h ⊢
  simp only [hb.block a.block hk]
  exact h
/-- a run at an input, as evaluated -/
theorem run_rd {p : Pm} (hc : p.c.oneCell' = true) {q : Q} (hy : Hy p q) (hrd : Rd p) {code : List Nat} (hg : code.all (fun n => Nat.blt n 256) = true) (hC : CmpIs p.src (byB code)) {w : World} (hw : Lw w) {k : Nat} {l : List Sc} (h0 : 0 < l.length) (hl : l.length ≤ 4096) (hcell : ∀ i x, l[i]? = some x → ∃ v, w.cell? ⟨k, i, none⟩ = some v ∧ ∀ ρ, VS p.env ρ x v) (hk : 2 ≤ k) {e ps : Int} {val : Sc} {z : Int} (hz : ∀ ρ u, VS p.env ρ val u → u = .int .i64 z) (h : isRd e ps l.length val (runI l l.length (codS code) q) = true) :
    ∃ st gc us, Sn.RunIs p.src (.slice (some ⟨k, 0, none⟩) l.length l.length) w (Sn.rsV e ps z (.slice none 0 0) st (l.length : Nat) gc us) := by
  obtain ⟨st, gc, us, s', hr⟩ := isRd_ok h
  refine ⟨st, gc, us, fun W hW => ?_⟩
  refine (runI_sim hc hy hrd (fun ρ => cod_V hg _ ρ) hC (hw.on hW) hk h0 hl (fun i x hx => ?_) hr).mono ?_
  · obtain ⟨v, h1, h2⟩ := hcell i x hx
    exact ⟨v, cell_on hW h1, h2 _⟩
  · rintro e' w' ⟨v', ρ, rfl, hv, hb⟩
    obtain ⟨u, hu, rfl⟩ := va8 hv
    rw [hz ρ u hu]
    exact ⟨rfl, hb⟩
def pmR (src : ByteArray) (o : Nat) (x y a b : Int) : Pm := ⟨.pointer none, src, [], a, b, o, fun i => if i = 0 then x else if i = 1 then y else if i = 2 then i6 (x * 2) else i6 (y * 2), fun _ => 0, 0⟩
theorem wv_fd (x : Int) : (i6 (x * 2)).fdiv 2 = Sn.wv x := by
  unfold Sn.wv wrap64
  rw [i6_eq, Int.fdiv_eq_ediv_of_nonneg _ (by omega)]
theorem rd_R (src : ByteArray) (o : Nat) (x y : Int) : Rd (pmR src o x y (Sn.wv x) (Sn.wv y)) := ⟨rfl, rfl, wv_fd x, wv_fd y⟩
theorem Hy.as {p p' : Pm} {q : Q} (h : Hy p q) (ea : p'.a = p.a) (eb : p'.b = p.b) (eo : p'.o = p.o) : Hy p' q := by
  obtain ⟨h1, h2, h3, h4, h5, h6, h7, h8, h9⟩ := h
  exact ⟨by rw [ea]; exact h1, by rw [eb]; exact h2, by rw [eo]; exact h3, by rw [ea]; exact h4, by rw [eb]; exact h5, by rw [ea, eb]; exact h6, by rw [ea, eb]; exact h7, by rw [ea, eb]; exact h8, by rw [ea, eb, eo]; exact h9⟩
theorem zO_in7 {o : Nat} (ho : o < 11) (a b : Int) : zO o a b ∈ zbs7 o (bN a) (bN b) := by
  have hb2 : ∀ x : Bool, x ∈ [false, true] := fun x => by cases x <;> decide
  have hn : ∀ c : Int, c < 0 → decide (c = 0) = false := fun c h => decide_eq_false (by omega)
  unfold zO zbs7
  by_cases h9 : 9 ≤ o
  · rw [if_pos h9, show Nat.ble 9 o = true from Nat.ble_eq_true_of_le h9]
    show _ ∈ bif bN a then [false] else [false, true]
    unfold bN
    by_cases hb : a < 0
    · rw [decide_eq_true hb, hn a hb]; decide
    · rw [decide_eq_false hb]; exact hb2 _
  · rw [if_neg h9, ble_f h9]
    show _ ∈ bif bN b then [false] else [false, true]
    unfold bN
    by_cases hb : b < 0
    · rw [decide_eq_true hb, hn b hb]; decide
    · rw [decide_eq_false hb]; exact hb2 _
theorem dv_ok {o : Nat} (ho : o < 11) (a b : Int) : (zO o a b && isDv o) = !Sn.wok o b := by
  unfold Sn.wok isDv
  rw [Bool.not_not]
  by_cases h : o = 3 ∨ o = 4
  · rcases h with rfl | rfl
    · show (decide (b = 0) && true) = (true && b == 0)
      rw [Bool.and_true, Bool.true_and, Bool.eq_iff_iff]; simp
    · show (decide (b = 0) && true) = (true && b == 0)
      rw [Bool.and_true, Bool.true_and, Bool.eq_iff_iff]; simp
  · have h3 : Nat.beq o 3 = false := by rw [nbeq]; exact decide_eq_false (by omega)
    have h4 : Nat.beq o 4 = false := by rw [nbeq]; exact decide_eq_false (by omega)
    have h3' : (o == 3) = false := by simp; omega
    have h4' : (o == 4) = false := by simp; omega
    rw [h3, h4, h3', h4']
    simp
theorem red_is {o : Nat} (ho : o < 11) {x y : Int} (hE : chkR o (bN (Sn.wv x)) (bN (Sn.wv y)) = true) (hg : (rdC o).all (fun n => Nat.blt n 256) = true) {src : ByteArray} (hC : CmpIs src (byB (rdC o))) {w : World} (hw : Lw w) {k : Nat} (c0 : w.cell? ⟨k, 0, none⟩ = some (.int .i64 x)) (c1 : w.cell? ⟨k, 1, none⟩ = some (.int .i64 y)) : Sn.Yes 9 #[.string src, .slice (some ⟨k, 0, none⟩) 2 2, .int .i64 (Sn.wval o (Sn.wv x) (Sn.wv y)), .bool (Sn.wok o (Sn.wv y)), .int .i64 29] w := by
  have ha := Sn.wv_in x
  have hb := Sn.wv_in y
  have h := List.all_eq_true.1 (List.all_eq_true.1 hE _ (oO_in ho (Sn.wv x) (Sn.wv y))) _ (zO_in7 ho (Sn.wv x) (Sn.wv y))
  have hy : Hy (pmR src o x y (Sn.wv x) (Sn.wv y)) (qOf o (bN (Sn.wv x)) (bN (Sn.wv y)) (oO o (Sn.wv x) (Sn.wv y)) (zO o (Sn.wv x) (Sn.wv y))) := (hy_O (f := 0) ho ha hb (.pointer none) [] []).as rfl rfl rfl
  have hk := in_ge hw c0
  have hcell : ∀ i t, [Sc.y 100, Sc.y 101][i]? = some t → ∃ v, w.cell? ⟨k, i, none⟩ = some v ∧ ∀ ρ, VS (pmR src o x y (Sn.wv x) (Sn.wv y)).env ρ t v := fun i t ht => by
    have hi := (List.getElem?_eq_some_iff.1 ht).1
    have : i = 0 ∨ i = 1 := by simp at hi; omega
    rcases this with rfl | rfl
    · cases ht; exact ⟨_, c0, fun ρ => (e_pl (pmR src o x y (Sn.wv x) (Sn.wv y)) (i := 0) (by omega)).symm⟩
    · cases ht; exact ⟨_, c1, fun ρ => (e_pl (pmR src o x y (Sn.wv x) (Sn.wv y)) (i := 1) (by omega)).symm⟩
  rw [dv_ok ho] at h
  cases hd : Sn.wok o (Sn.wv y) with
  | false =>
    rw [hd] at h
    replace h : isRd (.ofNat 32) (.ofNat 29) 2 z0 (runI [.y 100, .y 101] 2 (codS (rdC o)) (qOf o (bN (Sn.wv x)) (bN (Sn.wv y)) (oO o (Sn.wv x) (Sn.wv y)) (zO o (Sn.wv x) (Sn.wv y)))) = true := h
    obtain ⟨st, gc, us, hR⟩ := run_rd (p := pmR src o x y (Sn.wv x) (Sn.wv y)) rfl hy (rd_R _ _ _ _) hg hC hw (l := [.y 100, .y 101]) (by decide) (by decide) hcell hk (val := z0) (z := 0) (fun ρ u hu => hu) h
    exact Sn.given_div hR
  | true =>
    rw [hd] at h
    replace h : isRd 0 0 2 (valR o (oO o (Sn.wv x) (Sn.wv y))) (runI [.y 100, .y 101] 2 (codS (rdC o)) (qOf o (bN (Sn.wv x)) (bN (Sn.wv y)) (oO o (Sn.wv x) (Sn.wv y)) (zO o (Sn.wv x) (Sn.wv y)))) = true := h
    obtain ⟨st, gc, us, hR⟩ := run_rd (p := pmR src o x y (Sn.wv x) (Sn.wv y)) rfl hy (rd_R _ _ _ _) hg hC hw (l := [.y 100, .y 101]) (by decide) (by decide) hcell hk (val := valR o (oO o (Sn.wv x) (Sn.wv y))) (z := Sn.wval o (Sn.wv x) (Sn.wv y)) (fun ρ u hu => by
      unfold valR at hu
      by_cases h5 : 5 ≤ o
      · rw [show Nat.ble 5 o = true from Nat.ble_eq_true_of_le h5] at hu
        have hu : u = .int .i64 ((tru o (oO o (Sn.wv x) (Sn.wv y)) : Nat) : Int) := hu
        have e : oO o (Sn.wv x) (Sn.wv y) = ordO (Sn.wv x) (Sn.wv y) := by unfold oO; rw [if_pos h5]
        rw [hu, e, (tru_val h5 ho _ _).1]
      · rw [ble_f h5] at hu
        have hu : u = .int .i64 (wr63 (i6 (opv o (Sn.wv x) (Sn.wv y)))) := hu
        rw [hu, opv_val (by omega) ha hb hd]) h
    exact Sn.given_ok hR
theorem neg_is {x : Int} (hE : chkRN (bN (Sn.wv x)) = true) (hg : ngC.all (fun n => Nat.blt n 256) = true) {src : ByteArray} (hC : CmpIs src (byB ngC)) {w : World} (hw : Lw w) {k : Nat} (c0 : w.cell? ⟨k, 0, none⟩ = some (.int .i64 x)) : Sn.Yes 9 #[.string src, .slice (some ⟨k, 0, none⟩) 1 1, .int .i64 (Sn.wv (-Sn.wv x)), .bool true, .int .i64 0] w := by
  have ha := Sn.wv_in x
  have hk := in_ge hw c0
  have hy : Hy (pmR src 11 x 0 (Sn.wv x) (Sn.wv 0)) (qOf 11 (bN (Sn.wv x)) false 0 false) := by
    have b0 : Sn.wv 0 = 0 := by unfold Sn.wv wrap64; omega
    rw [b0]
    refine ⟨⟨ha.1, by show Sn.wv x < _; omega⟩, ⟨by show _ ≤ (0 : Int); omega, by show (0 : Int) < _; omega⟩, rfl, ?_, rfl, (fun h => by cases h), (fun h => by cases h), (fun h => by cases h), fun h => absurd h (by show ¬ 11 ≤ 10; omega)⟩
    show iA (bN (Sn.wv x)) = if Sn.wv x < 0 then 12 else 4
    unfold bN
    by_cases h : Sn.wv x < 0
    · rw [decide_eq_true h, if_pos h]; rfl
    · rw [decide_eq_false h, if_neg h]; rfl
  have hcell : ∀ i t, [Sc.y 100][i]? = some t → ∃ v, w.cell? ⟨k, i, none⟩ = some v ∧ ∀ ρ, VS (pmR src 11 x 0 (Sn.wv x) (Sn.wv 0)).env ρ t v := fun i t ht => by
    have hi := (List.getElem?_eq_some_iff.1 ht).1
    have : i = 0 := by simp at hi; omega
    subst this
    cases ht; exact ⟨_, c0, fun ρ => (e_pl (pmR src 11 x 0 (Sn.wv x) (Sn.wv 0)) (i := 0) (by omega)).symm⟩
  obtain ⟨st, gc, us, hR⟩ := run_rd (p := pmR src 11 x 0 (Sn.wv x) (Sn.wv 0)) rfl hy (rd_R _ _ _ _) hg hC hw (l := [.y 100]) (by decide) (by decide) hcell hk (val := .y (bif bN (Sn.wv x) then 21 else 6)) (z := Sn.wv (-Sn.wv x)) (fun ρ u hu => by
    by_cases h : Sn.wv x < 0
    · have hs : bN (Sn.wv x) = true := decide_eq_true h
      rw [hs] at hu
      have hu : u = .int .i64 (wr63 (i6 (-(-NN (Sn.wv x) - 1)))) := hu
      have : NN (Sn.wv x) = -(Sn.wv x + 1) := by unfold NN; rw [if_pos h]
      have e2 : -(-NN (Sn.wv x) - 1) = -Sn.wv x := by rw [this]; omega
      rw [hu, e2, wr63_wv]
    · have hs : bN (Sn.wv x) = false := decide_eq_false h
      rw [hs] at hu
      have hu : u = .int .i64 (-NN (Sn.wv x)) := hu
      have : NN (Sn.wv x) = Sn.wv x := by unfold NN; rw [if_neg h]
      have h2 : ∀ a : Int, Sn.I5 a → ¬ a < 0 → -a = Sn.wv (-a) := fun a h1 h2 => by
        unfold Sn.wv wrap64
        omega
      rw [hu, this, ← h2 _ ha h]) hE
  exact Sn.given_ok hR
end Sm
end Go.Proofs.YtdmedmmdioabgaaGreatDoor
/- SUMMED: texts that print, run. -/
set_option linter.unusedVariables false
set_option linter.unusedSimpArgs false
namespace Go.Proofs.YtdmedmmdioabgaaGreatDoor
namespace Sm
open Ev Go.RowKit
theorem isPr_ok {r : R AV} (h : isPr r = true) : ∃ v b st rd gc us s, r = .ok (.tp [.ag [.i .i64 0, .i .i64 0, .i .i64 v, .sl b 0 2 1, .i .i64 st, .i .i64 rd, .i .i64 gc, .i .i64 us], .c (.b true)]) s ∧ 8 ≤ b ∧ b < 32768 ∧ 2 ≤ (get5 b s.h).n ∧ (get5 b s.h).t.get 0 = o1 ∧ (get5 b s.h).t.get 1 = .i .i64 (.ofNat 2) := by
  unfold isPr at h
  split at h
  · simp only [Bool.and_eq_true] at h
    obtain ⟨h1, h2, h3, h4, h5, h6, h7⟩ := h
    rw [eqZ_eq h1, eqZ_eq h2]
    exact ⟨_, _, _, _, _, _, _, rfl, ble_t h3, blt_t h4, ble_t h5, scEqu_eq h6, scEqu_eq h7⟩
  · cases h
theorem isNo_ok {r : R AV} (h : isNo r = true) : ∃ s, r = .ok (.tp [.ag [.i .i64 0, .i .i64 0, .i .i64 0, .sn, .i .i64 0, .i .i64 0, .i .i64 0, .i .i64 0], .c (.b false)]) s := by
  unfold isNo at h
  split at h
  · simp only [Bool.and_eq_true] at h
    obtain ⟨h1, h2, h3, h4, h5, h6, h7⟩ := h
    rw [eqZ_eq h1, eqZ_eq h2, eqZ_eq h3, eqZ_eq h4, eqZ_eq h5, eqZ_eq h6, eqZ_eq h7]
    exact ⟨_, rfl⟩
  · cases h
theorem run_prt {src : ByteArray} {code : List Nat} (hg : code.all (fun n => Nat.blt n 256) = true) (hC : CmpIs src (byB code)) (hE : isPr (runP (codS code)) = true) {w : World} (hw : Lw w) : Calls Tryz.prog 11 #[.string src, .slice none 0 0, .int .i64 0, .int .i64 1, .int .i64 20000] w fun e w' => ∃ v g c st rd gc us, e = .returned (.tuple #[Sn.rsV 0 0 v (.slice (some ⟨g, 0, none⟩) 2 c) st rd gc us, .bool true]) ∧ w.heap.size ≤ g ∧ w'.cell? ⟨g, 0, none⟩ = some (.int .i64 1) ∧ w'.cell? ⟨g, 1, none⟩ = some (.int .i64 2) ∧ Below w.heap.size w w' := by
  obtain ⟨v, b, st, rd, gc, us, s, hr, h8, hb3, hn, hg0, hg1⟩ := isPr_ok hE
  have he := env1_ok (c := .pointer none) rfl src
  have hj : Jx (env1 (.pointer none) src) w [.c (.y 1), .c .sn, .c z0, .c o1, .c (.i .i64 (.ofNat 20000))] ⟨hp0, 8, 0, 0⟩ [.string src, .slice none 0 0, .int .i64 0, .int .i64 1, .int .i64 20000] w :=
    ⟨⟨r0 w, .cons rfl (.cons rfl (.cons rfl (.cons rfl (.cons rfl .nil)))), Post.refl (hr0 hw) _⟩, Nat.le_refl _, by show 8 ≤ 32768; omega⟩
  refine (hj.call (tokc he rfl (fun ρ => cod_V hg _ ρ) hC hw) hr).mono ?_
  rintro e w' ⟨u, rfl, hJ⟩
  obtain ⟨ρ, ha, hP⟩ := hJ.ex
  cases ha with
  | cons h1 _ =>
    obtain ⟨⟨l0⟩, rfl, ha⟩ := h1
    cases ha with
    | cons h1 ha => cases ha with
      | cons h2 ha =>
        cases ha
        obtain ⟨⟨l1⟩, rfl, ha⟩ := h1
        obtain ⟨u0, u1, u2, u3, u4, u5, u6, u7, rfl, e0, e1, e2, e3, e4, e5, e6, e7⟩ := all2_8 ha
        cases e0
        cases e1
        cases e2
        cases e4
        cases e5
        cases e6
        cases e7
        cases h2
        obtain ⟨g, z, c, q1, rfl, q2, q3⟩ := e3
        have hlv : Live s.h b := ⟨hb3, by
          rcases Nat.eq_zero_or_pos (get5 b s.h).t.room with e | e
          · have := hP.hr.ded b hb3 e; omega
          · exact e⟩
        obtain ⟨k, arr, ty, lo, hi, d1, d2, d3, d4, d5, d6, d7⟩ := (hP.hr.blk b hlv).ex
        rw [q1] at d1
        cases d1
        obtain ⟨v0, a1, a2⟩ := d6 0 (by omega)
        obtain ⟨v1, b1, b2⟩ := d6 1 (by omega)
        rw [hg0] at a2
        rw [hg1] at b2
        have a2 : v0 = .int .i64 1 := a2
        have b2 : v1 = .int .i64 2 := b2
        refine ⟨v, g, c, st, rd, gc, us, rfl, ?_, by rw [cell_of d2, a1, a2], by rw [cell_of d2, b1, b2], below0 hP⟩
        rcases Nat.lt_or_ge g w.heap.size with q | q
        · exfalso
          obtain ⟨j, z', hl, ej⟩ := hP.orig b g _ hlv q1 q
          have hj := live0.1 hl
          have := hP.hr.inj b j g _ _ hlv (hP.ro j g z' (by omega) hl ej).1 q1 (hP.ext _ _ ej)
          omega
        · exact q
theorem run_no {src : ByteArray} {t : List Nat} (hs : src.data.toList.map (·.toNat) = t) (hE : isNo (evF T0 200 11 [.c (.s t), .c .sn, .c z0, .c o1, .c (.i .i64 (.ofNat 20000))] ⟨hp0, 8, 0, 0⟩) = true) {w : World} (hw : Lw w) : Calls Tryz.prog 11 #[.string src, .slice none 0 0, .int .i64 0, .int .i64 1, .int .i64 20000] w fun e w' => e = .returned (.tuple #[Sn.rsV 0 0 0 (.slice none 0 0) 0 0 0 0, .bool false]) ∧ Below w.heap.size w w' := by
  obtain ⟨s, hr⟩ := isNo_ok hE
  have he := env1_ok (c := .pointer none) rfl src
  have hj : Jx (env1 (.pointer none) src) w [.c (.s t), .c .sn, .c z0, .c o1, .c (.i .i64 (.ofNat 20000))] ⟨hp0, 8, 0, 0⟩ [.string src, .slice none 0 0, .int .i64 0, .int .i64 1, .int .i64 20000] w :=
    ⟨⟨r0 w, .cons ⟨_, rfl, hs⟩ (.cons rfl (.cons rfl (.cons rfl (.cons rfl .nil)))), Post.refl (hr0 hw) _⟩, Nat.le_refl _, by show 8 ≤ 32768; omega⟩
  refine (hj.call (tok0 he w) hr).mono ?_
  rintro e w' ⟨u, rfl, hJ⟩
  obtain ⟨ρ, ha, hP⟩ := hJ.ex
  cases ha with
  | cons h1 _ =>
    obtain ⟨⟨l0⟩, rfl, ha⟩ := h1
    cases ha with
    | cons h1 ha => cases ha with
      | cons h2 ha =>
        cases ha
        obtain ⟨⟨l1⟩, rfl, ha⟩ := h1
        obtain ⟨u0, u1, u2, u3, u4, u5, u6, u7, rfl, e0, e1, e2, e3, e4, e5, e6, e7⟩ := all2_8 ha
        cases e0
        cases e1
        cases e2
        cases e3
        cases e4
        cases e5
        cases e6
        cases e7
        cases h2
        exact ⟨rfl, below0 hP⟩
/-! the texts -/
theorem txt_rd {o : Nat} (ho : o < 11) : (Sn.bs (Sn.redS o)).data.toList.map (·.toNat) = rdT o := by
  have ho' : o = 0 ∨ o = 1 ∨ o = 2 ∨ o = 3 ∨ o = 4 ∨ o = 5 ∨ o = 6 ∨ o = 7 ∨ o = 8 ∨ o = 9 ∨ o = 10 := by omega
  clear ho
  rcases ho' with rfl | rfl | rfl | rfl | rfl | rfl | rfl | rfl | rfl | rfl | rfl <;> rfl
theorem txt_pr {o : Nat} (ho : o < 11) : (Sn.bs (Sn.prtS o)).data.toList.map (·.toNat) = prT o := by
  have ho' : o = 0 ∨ o = 1 ∨ o = 2 ∨ o = 3 ∨ o = 4 ∨ o = 5 ∨ o = 6 ∨ o = 7 ∨ o = 8 ∨ o = 9 ∨ o = 10 := by omega
  clear ho
  rcases ho' with rfl | rfl | rfl | rfl | rfl | rfl | rfl | rfl | rfl | rfl | rfl <;> rfl
theorem txt_p0 {o : Nat} (ho : o < 11) (h5 : 5 ≤ o) : (Sn.bs (Sn.prt0 o)).data.toList.map (·.toNat) = p0T o := by
  have ho' : o = 5 ∨ o = 6 ∨ o = 7 ∨ o = 8 ∨ o = 9 ∨ o = 10 := by omega
  clear ho h5
  rcases ho' with rfl | rfl | rfl | rfl | rfl | rfl <;> rfl
theorem txt_ng : (Sn.bs Sn.negS).data.toList.map (·.toNat) = ngT := rfl
theorem cod_in {o : Nat} (ho : o < 11) : (rdC o).all (fun n => Nat.blt n 256) = true ∧ (prC o).all (fun n => Nat.blt n 256) = true := by
  have ho' : o = 0 ∨ o = 1 ∨ o = 2 ∨ o = 3 ∨ o = 4 ∨ o = 5 ∨ o = 6 ∨ o = 7 ∨ o = 8 ∨ o = 9 ∨ o = 10 := by omega
  clear ho
  rcases ho' with rfl | rfl | rfl | rfl | rfl | rfl | rfl | rfl | rfl | rfl | rfl <;> exact ⟨by kernel_rfl, by kernel_rfl⟩
/-- all that was evaluated, but divisions by nought -/
structure Evd : Prop where
  c : ∀ f o sa sb, f < 3 → o < 11 → chk f o sa sb = true
  n : ∀ sa, chkN sa = true
  r : ∀ o sa sb, o < 11 → chkR o sa sb = true
  rn : ∀ sa, chkRN sa = true
  q : ∀ o, o < 11 → isS (rdC o) (compC (rdT o)) = true
  qn : isS ngC (compC ngT) = true
  u : ∀ o, o < 11 → isS (prC o) (compC (prT o)) = true
  p : ∀ o, o < 11 → chkP o = true
  z : ∀ o, o < 11 → 5 ≤ o → chk0 o = true
/-- divisions by nought -/
structure DivH (w : World) (x : Int) (o : Nat) : Prop where
  g1 : ∀ W s v, Below w.heap.size w W → s = Sn.bs (Sn.eS o (Sn.wv x) 0) → Sn.Yes 9 #[.string s, .slice none 0 0, .int .i64 v, .bool false, .int .i64 ((Sn.saidS (Sn.wv x)).length : Nat)] W
  t1 : ∀ W s, Below w.heap.size w W → s = Sn.bs (Sn.eS o (Sn.wv x) 0) → Sn.Yes 10 #[.string s, .bool false] W
  t2 : ∀ W s, Below w.heap.size w W → s = Sn.bs (Sn.recS o (Sn.wv x) 0) → Sn.Yes 10 #[.string s, .bool false] W
  t3 : ∀ W s, Below w.heap.size w W → s = Sn.bs (Sn.tupS o (Sn.wv x) 0) → Sn.Yes 10 #[.string s, .bool false] W
theorem wval_in {o : Nat} (ho : o < 11) {a b : Int} (ha : Sn.I5 a) (hb : Sn.I5 b) (hd : Sn.wok o b = true) : Sn.I5 (Sn.wval o a b) := by
  by_cases h5 : 5 ≤ o
  · obtain ⟨h1, h2⟩ := tru_val h5 ho a b
    rw [← h1]
    rcases h2 with e | e <;> rw [e] <;> exact ⟨by decide, by decide⟩
  · rw [← opv_val (by omega) ha hb hd, wr63_wv]
    exact Sn.wv_in _
theorem sum_H (E : Evd) {w : World} (hw : Lw w) {x y : Int} {o : Nat} (ho : o < 11) (hD : (o = 3 ∨ o = 4) → Sn.wv y = 0 → DivH w x o) : Sn.SumH w x y o := by
  have ha := Sn.wv_in x
  have hb := Sn.wv_in y
  have run : ∀ {f : Nat}, f < 3 → Sn.wok o (Sn.wv y) = true → ∀ W, Below w.heap.size w W → Sn.RunIs (Sn.bs (txS f o (Sn.wv x) (Sn.wv y))) (.slice none 0 0) W (Sn.rsV 0 0 (Sn.wval o (Sn.wv x) (Sn.wv y)) (.slice none 0 0) 2 0 0 0) := fun {f} hf hd W hW => run_two (wval_in ho ha hb hd) (cmp_two hf ho ha hb hd (E.c f o _ _ hf ho)) (hw.on hW)
  have hdv : Sn.wok o (Sn.wv y) = false → (o = 3 ∨ o = 4) ∧ Sn.wv y = 0 := fun h => by
    unfold Sn.wok at h
    simp at h
    exact ⟨by omega, h.2⟩
  refine ⟨fun W s hW hs => ?_, fun W s hW hs => ?_, fun W s hW hs => ?_, fun W s hW hs => ?_, fun W s k hW hs c0 c1 => ?_, fun W s k hW hs c0 => ?_, fun W s hW hs => ?_, fun h5 W s hW hs => ?_, fun W s hW hs => ?_⟩
  · cases hd : Sn.wok o (Sn.wv y) with
    | true => subst hs; exact Sn.given_ok (run (f := 0) (by omega) hd W hW)
    | false =>
      obtain ⟨h1, h2⟩ := hdv hd
      have := (hD h1 h2).g1 W s (Sn.wval o (Sn.wv x) (Sn.wv y)) hW (by rw [hs, h2])
      exact this
  · cases hd : Sn.wok o (Sn.wv y) with
    | true => subst hs; exact Sn.two_ok (run (f := 0) (by omega) hd W hW)
    | false =>
      obtain ⟨h1, h2⟩ := hdv hd
      exact (hD h1 h2).t1 W s hW (by rw [hs, h2])
  · cases hd : Sn.wok o (Sn.wv y) with
    | true => subst hs; exact Sn.two_ok (run (f := 1) (by omega) hd W hW)
    | false =>
      obtain ⟨h1, h2⟩ := hdv hd
      exact (hD h1 h2).t2 W s hW (by rw [hs, h2])
  · cases hd : Sn.wok o (Sn.wv y) with
    | true => subst hs; exact Sn.two_ok (run (f := 2) (by omega) hd W hW)
    | false =>
      obtain ⟨h1, h2⟩ := hdv hd
      exact (hD h1 h2).t3 W s hW (by rw [hs, h2])
  · subst hs
    exact red_is ho (E.r o _ _ ho) (cod_in ho).1 (cmp_lit (txt_rd ho) (cod_in ho).1 (E.q o ho)) (hw.on hW) c0 c1
  · subst hs
    exact neg_is (E.rn _) rfl (cmp_lit txt_ng rfl E.qn) (hw.on hW) c0
  · subst hs
    exact Sn.given_ok (run_two (Sn.wv_in _) (cmp_min ha (E.n _)) (hw.on hW))
  · subst hs
    exact run_no (txt_p0 ho h5) (E.z o ho h5) (hw.on hW)
  · subst hs
    exact run_prt (cod_in ho).2 (cmp_lit (txt_pr ho) (cod_in ho).2 (E.u o ho)) (E.p o ho) (hw.on hW)
end Sm
end Go.Proofs.YtdmedmmdioabgaaGreatDoor
