import Derived.Test.YtdmedmmdioabgaaGreatDoorProg
import Derived.Test.YtdmedmmdioabgaaGreatDoorZaF
import Derived.Deep.LoopGhost
import Derived.Lib.Hide
import Derived.Handy
import Derived.Test.YtdmedmmdioabgaaGreatDoorZaA
import Derived.KernelRfl
import Derived.Test.YtdmedmmdioabgaaGreatDoorZaE
import Derived.Test.YtdmedmmdioabgaaGreatDoorZaG
/- WALKS: emitter.number: each number is a constant once. -/
set_option linter.unusedVariables false
set_option linter.unusedSimpArgs false
namespace Go.Proofs.YtdmedmmdioabgaaGreatDoor
namespace Sm
open Go.RowKit
def lnA (reg x : Int) : Value := .agg #[.int .i64 1, .int .i64 reg, .int .i64 x, .int .i64 0, .int .i64 0]
theorem wpList_appR {P : Program} {ops : Array Oper} {rest : List Oper} {o : Oper} {a : Act} {w w' : World} {Q : Exit → Act → World → Prop} (hgd : o.guard = none) (s x : Operand) (t : TypeId) (ho : o.op = .call { callee := .builtin .append, args := #[s, x], argTypes := #[t, t] }) {v : Value} (hr : (Builtin.append_ #[t, t] o.type #[a.eval s, a.eval x]).run P w = .ok v w') (h : wpList P ops Q rest (a.put o.dst v) w') : wpList P ops Q (o :: rest) a w := by
  refine wpList_plain hgd fun K hK => ?_
  unfold Oper.wp execOp
  simp only [ho, resolve, invoke, builtin, Sem.run_bind, Sem.run_pure, Result.andThen_ok, List.map_toArray, List.map_cons, List.map_nil, hr]
  exact hK _ _ h
set_option maxRecDepth 100000 in
theorem number_w {w : World} {ke cap : Nat} {base : Option Addr} {D : List Int} {m reg : Int} {R : World → Prop} (hke : ke < w.heap.size)
    (h3 : w.cell? ⟨ke, 3, none⟩ = some (.slice base D.length cap))
    (hD : ∀ (j : Nat) (z : Int), D[j]? = some z → ∃ kc, base = some ⟨kc, 0, none⟩ ∧ w.cell? ⟨kc, j, none⟩ = some (.int .i64 z)) (hd : D.length ≤ 1000)
    (hfound : ∀ p : Nat, D[p]? = some m → (∀ j : Nat, j < p → D[j]? ≠ some m) → Calls Tryz.prog 103 #[.pointer (some ⟨ke, 0, none⟩), lnA reg p] w fun e w' => e = .returned (.tuple #[]) ∧ R w')
    (hnew : m ∉ D → ∃ b1 n1 c1 w1, (Builtin.append_ #[30, 30] 30 #[.slice base D.length cap, .slice (some ⟨w.heap.size, 0, none⟩) 1 1]).run Tryz.prog (w.alloc (.cells #[.int .i64 m] 3)) = .ok (.slice b1 n1 c1) w1 ∧ (∃ u, w1.cell? ⟨ke, 3, none⟩ = some u) ∧ w1.frozen? ⟨ke, 3, none⟩ = false ∧
      Calls Tryz.prog 103 #[.pointer (some ⟨ke, 0, none⟩), lnA reg D.length] (w1.setCell ⟨ke, 3, none⟩ (.slice b1 n1 c1)) fun e w' => e = .returned (.tuple #[]) ∧ R w') :
    Calls Tryz.prog 157 #[.pointer (some ⟨ke, 0, none⟩), .int .i64 m, .int .i64 reg] w fun e w' => e = .returned (.tuple #[]) ∧ R w' := by
  have HF := Lib.hid hfound
  have HN := Lib.hid hnew
  have HD := Lib.hid hD
  clear hfound hnew hD
  go_enter Tryz.func157, Tryz.ntmps157
  go_wp2
  obtain ⟨L, hL⟩ : ∃ L, L = D.length := ⟨_, rfl⟩
  rw [← hL] at h3 hd
  have HLn := Lib.hid hL
  clear hL
  go_loopg [6] L (fun gh u (wr : World) => ∃ j : Nat, j ≤ L ∧ gh = L - j ∧ u = .int .i64 (j : Nat) ∧ (∀ i : Nat, i < j → D[i]? ≠ some m) ∧ wr = w)
  case atStart => exact ⟨0, Nat.zero_le _, rfl, rfl, fun i h => absurd h (Nat.not_lt_zero _), rfl⟩
  case round =>
    obtain ⟨j, hj, hgk, rfl, hlt, rfl⟩ := hrel
    have HL := Lib.hid hlt
    clear hlt
    rcases Nat.lt_or_ge j L with hjd | hjd
    · obtain ⟨z, hz⟩ : ∃ z, D[j]? = some z := ⟨_, List.getElem?_eq_getElem (by rw [← HLn.out]; exact hjd)⟩
      obtain ⟨kc, rfl, hcz⟩ := HD.out j z hz
      have g1 : (j : Int) < (L : Int) := by omega
      have HZ := Lib.hid hz
      clear hz
      by_cases he : z = m
      · subst he
        have HC := Lib.hid (HF.out j HZ.out HL.out)
        go_wp2_with (first | (go_at_call 103; refine HC.out.mono ?_; rintro e w1 ⟨rfl, hR⟩))
        go_returns
        exact ⟨rfl, hR⟩
      · have g2 : (z != m) = true := by simpa using he
        go_wp2
        go_roundg (L - (j + 1))
        case rel => exact ⟨j + 1, by omega, rfl, by go_num, fun i hi => by
          rcases Nat.lt_or_ge i j with q | q
          · exact HL.out i q
          · rw [show i = j by omega, HZ.out]; simpa using he, rfl⟩
        case measure => omega
    · have g1 : ¬ (j : Int) < (L : Int) := by omega
      have hjl : j = L := by omega
      subst hjl
      have hnm : m ∉ D := fun hm => by
        obtain ⟨i, hi⟩ := List.getElem?_of_mem hm
        exact HL.out i (by rw [HLn.out]; exact (List.getElem?_eq_some_iff.1 hi).1) hi
      obtain ⟨b1, n1, c1, w1, hrun, ⟨u, hu⟩, hfz, hcall⟩ := HN.out hnm
      rw [← HLn.out] at hrun hcall
      have HR := Lib.hid hrun
      have HC := Lib.hid hcall
      clear hrun hcall hnm
      go_wp2_with (first | (at_builtin; refine wpList_appR rfl (.tmp 42) (.tmp 44) 30 rfl HR.out ?_) | (go_at_call 103; refine HC.out.mono ?_; rintro e w1 ⟨rfl, hR⟩))
      go_returns
      exact ⟨rfl, hR⟩
theorem con_w {w : World} {g n c i : Nat} {vf vl : Value} {a0 : Int} (hn : n ≤ 70000) (hi : i < n) (hg : g < w.heap.size) (d0 : w.cell? ⟨g, i, none⟩ = some (.int .i64 a0)) :
    Calls Tryz.prog 166 #[.agg #[vf, .slice (some ⟨g, 0, none⟩) n c, vl], .int .i64 i] w fun e w' => e = .returned (.int .i64 a0) ∧ Below w.heap.size w w' := by
  have g1 : decide ((n : Int) ≤ (i : Int)) = false := by simp; omega
  have g2 : (i : Int) < (n : Int) := by omega
  go_enter Tryz.func166, Tryz.ntmps166
  go_wp2
  go_returns
  exact ⟨rfl, (Below.refl _ _).alloc (Nat.le_refl _) _⟩
end Sm
end Go.Proofs.YtdmedmmdioabgaaGreatDoor
/- SUMMED: the program's own tables, as the evaluator takes them. -/
set_option linter.unusedVariables false
namespace Go.Proofs.YtdmedmmdioabgaaGreatDoor
namespace Sm
open Ev
noncomputable section
/-- the variables -/
def texts : List Sc := [.s [], .s [], .s [], .s [108, 101, 116], .s [114, 101, 99], .s [105, 110], .s [105, 102], .s [116, 104, 101, 110], .s [101, 108, 115, 101], .s [102, 117, 110], .s [110, 111, 116], .s [116, 114, 117, 101], .s [102, 97, 108, 115, 101], .s [114, 101, 97, 100], .s [112, 114, 105, 110, 116], .s [108, 101, 110], .s [97, 114, 114, 97, 121], .s [112, 117, 116], .s [46, 40], .s [60, 62], .s [60, 61], .s [62, 61], .s [45, 62], .s [40], .s [41], .s [44], .s [59], .s [61], .s [60], .s [62], .s [43], .s [45], .s [42], .s [47], .s [37]]
def flds : List Sc := [.s [], .s [114, 107, 48, 48], .s [114, 114, 48, 48], .s [114, 115, 48, 48], .s [114, 115, 48, 48], .s [114, 115, 48, 48], .s [48, 115, 48, 48], .s [114, 114, 114, 48], .s [114, 114, 114, 48], .s [114, 114, 114, 48], .s [114, 114, 114, 42], .s [114, 114, 114, 42], .s [114, 114, 114, 48], .s [114, 114, 114, 48], .s [114, 114, 114, 48], .s [114, 114, 48, 48], .s [114, 114, 48, 48], .s [48, 108, 48, 48], .s [114, 108, 48, 48], .s [114, 42, 48, 48], .s [114, 42, 102, 48], .s [114, 42, 114, 48], .s [114, 114, 42, 48], .s [114, 114, 114, 42], .s [114, 114, 114, 42], .s [114, 114, 114, 42], .s [114, 114, 48, 48], .s [114, 48, 48, 42], .s [114, 48, 48, 42], .s [48, 102, 48, 48], .s [48, 97, 48, 48], .s [48, 102, 48, 48], .s [48, 97, 48, 48], .s [48, 48, 48, 48]]
/-- which temps each function reads behind a region's end -/
def kpL : List Nat := [0, 0, 0, 71, 1048519, 5, 19, 967, 13, 7199, 115, 97311, 19, 5, 29, 1, 4083, 1, 31775, 19, 51, 253, 31, 63, 15, 31, 64595129457254073007, 61, 63, 799, 19, 1021, 243, 15, 7, 123, 197107, 7, 199, 61, 455, 455, 115, 51, 63, 127, 199, 5, 13, 51, 1011, 21, 19, 271, 7, 23, 55, 59, 399, 4135, 23, 1011, 2035, 1011, 207, 51, 30064778587, 59, 5, 23, 23, 31, 247, 61, 23, 1563, 59, 27, 1019, 16777339, 27, 11, 59, 5, 1, 5, 115, 199, 5, 499, 5, 51, 61, 5, 65789, 125, 61, 61, 3, 13, 455, 271, 13, 11, 15, 60129542887, 999, 231, 207, 999, 103, 8796093038695, 3763, 3, 5, 63, 55, 2007, 5, 207, 71, 15, 87, 4726978168888072601707, 79, 8388699, 103, 39, 19, 7, 5, 199, 8079, 55, 111, 111, 495, 27, 61, 5, 5, 29, 125, 27, 61, 61, 1311, 4951760157141661837356433607, 15, 19, 71, 143, 3, 16271, 4071, 4071, 16455, 71, 962072937871, 19, 29, 5, 51, 18898761361109473624283, 19, 19, 23, 51, 23, 5, 251, 29, 27, 87, 175, 27, 19, 1, 61, 36917, 87, 967, 4039, 967, 199, 3103, 66503, 199, 7, 119, 115, 15903, 6163, 8079, 31, 911, 2147485967, 103, 967, 5, 61, 783, 118231, 19, 271, 199, 967, 455, 199, 455, 1991, 63050394783187123, 215, 19, 189, 19, 51, 71, 199, 381, 19, 967, 61, 53, 19, 93, 125, 1, 1, 1, 1, 1, 1, 1, 1, 1, 1, 1, 1, 1, 1, 1, 1, 0, 0, 0, 0, 0]
def Tb (orc : BinOp → Sc → Sc → Option Sc) (ouc : UnOp → Sc → Option Sc) (hk : Nat → List AV → Option (M AV)) : Tab := ⟨Tryz.prog, fun k => headOr (drp k kpL) 0, orc, ouc, fun _ => none, fun _ => none, fun _ _ => none, fun _ _ => none, fun _ => 0, fun _ _ _ => none, fun _ => none, hk⟩
def T0 : Tab := Tb (fun _ _ _ => none) (fun _ _ => none) (fun _ _ => none)
def hp0 : Hp := set5 0 (Bk.of flds) (set5 1 (Bk.of texts) (full5 dead) id) id
def z0 : Sc := .i .i64 (.ofNat 0)
/-- two that are told to be one -/
def scEq (a b : Sc) : Bool := match a, b with
  | .i .i64 m, .i .i64 n => ieq m n
  | .y i, .y j => Nat.beq i j
  | _, _ => false
def retT (v : AV) : M AV := match v with
  | .tp [] => ret (.tp [])
  | _ => no 7
/-- emitter.number: its number is the i-th that is asked for -/
def numG (pq : Nat → Option Sc) (eb : Nat) (B : Bk) (i : Nat) (n : Sc) (reg : Int) : M AV := optm 7 (pq i) fun x => iff (scEq n x) (fresh ⟨0, .pl (Nat.succ i)⟩ fun id => B.t.set 3 (.ps id (Nat.succ i)) fun t => Ev.put eb ⟨B.n, t⟩ (bnd (evF T0 9 103 [.c (.p eb 0), .ag [.i .i64 (.ofNat 1), .i .i64 reg, .y (Nat.add 4000 i), z0, z0]]) retT)) (no 7)
def hNum (pq : Nat → Option Sc) (args : List AV) : Option (M AV) := match args with
  | [.c (.p eb 0), .c n, .c (.i .i64 reg)] => some (iff (Nat.ble 8 eb) (Ev.look eb fun B => iff (Nat.blt 3 B.n) (match B.t.get 3 with
    | .sn => numG pq eb B 0 n reg
    | .ps b i => iff (Nat.beq eb b) (no 7) (Ev.look b fun C => optm 7 (plI C.t) fun j => iff (Nat.beq i j) (Ev.put b dead (numG pq eb B i n reg)) (no 7))
    | _ => no 7) (no 7)) (no 7))
  | _ => none
/-- Code.Constant: at the place of the i-th number that was asked for -/
def hCon (pq : Nat → Option Sc) (args : List AV) : Option (M AV) := match args with
  | [.ag [f, .ps b i, l], .c (.y j)] => some (iff (Nat.ble i 1000) (iff (Nat.ble 4000 j) (iff (Nat.blt (Nat.sub j 4000) i) (Ev.look b fun C => optm 7 (plI C.t) fun i' => iff (Nat.beq i i') (optm 7 (pq (Nat.sub j 4000)) retC) (no 7)) (no 7)) (no 7)) (no 7))
  | _ => none
end
end Sm
end Go.Proofs.YtdmedmmdioabgaaGreatDoor
/- SUMMED: the pool's hooks are sound: emitter.number, Code.Constant. -/
set_option linter.unusedVariables false
set_option linter.unusedSimpArgs false
namespace Go.Proofs.YtdmedmmdioabgaaGreatDoor
namespace Sm
open Ev Go.RowKit
theorem scEq_eq {a b : Sc} (h : scEq a b = true) : a = b := by
  unfold scEq at h
  split at h
  · rw [ieq_eq] at h; rw [eq_of_beq h]
  · rw [Nat.eq_of_beq_eq_true h]
  · cases h
theorem loc0 : HkLoc T0 := fun f args m h => by cases h
theorem locT (v : AV) : Ev.Loc (retT v) := by
  unfold retT
  split
  · exact loc_ret _
  · exact loc_no _
theorem loc_cset {j : Nat} {x : Sc} {t : Cl} {K : Cl → M AV} (hK : ∀ t, Ev.Loc (K t)) : Ev.Loc (t.set j x K) := by rw [Cl.set_K]; exact hK _
theorem loc_numG (pq : Nat → Option Sc) (eb : Nat) (B : Bk) (i : Nat) (n : Sc) (reg : Int) : Ev.Loc (numG pq eb B i n reg) :=
  loc_optm fun x => loc_iff (loc_fresh fun id => loc_cset fun t => loc_put (loc_bnd (loc_fn loc0 _ _ _) locT)) (loc_no _)
theorem loc_num {pq : Nat → Option Sc} {args : List AV} {m : M AV} (h : hNum pq args = some m) : Ev.Loc m := by
  unfold hNum at h
  split at h
  · cases h
    refine loc_iff (loc_look fun B => loc_iff ?_ (loc_no _)) (loc_no _)
    split
    · exact loc_numG _ _ _ _ _ _
    · exact loc_iff (loc_no _) (loc_look fun C => loc_optm fun j => loc_iff (loc_put (loc_numG _ _ _ _ _ _)) (loc_no _))
    · exact loc_no _
  · cases h
theorem loc_con {pq : Nat → Option Sc} {args : List AV} {m : M AV} (h : hCon pq args = some m) : Ev.Loc m := by
  unfold hCon at h
  split at h
  · cases h
    exact loc_iff (loc_iff (loc_iff (loc_look fun C => loc_optm fun i => loc_iff (loc_optm fun x => loc_retC _) (loc_no _)) (loc_no _)) (loc_no _)) (loc_no _)
  · cases h
/-- what the i-th number and its place are -/
structure Pq (env : Nat → Value) (pq : Nat → Option Sc) : Prop where
  num : ∀ i x, pq i = some x → ∃ z, env (3000 + i) = .int .i64 z ∧ ∀ ρ, VS env ρ x (.int .i64 z)
  pos : ∀ i x, pq i = some x → env (4000 + i) = .int .i64 (((ddI env (i + 1)).idxOf (pI env i) : Nat) : Int)
  few : ∀ i x, pq i = some x → i < 900
theorem fnNum : FnOk Tryz.prog 157 := ⟨_, Tryz.func157, by kernel_rfl, by kernel_rfl⟩
theorem fnCon : FnOk Tryz.prog 166 := ⟨_, Tryz.func166, by kernel_rfl, by kernel_rfl⟩
theorem tInt1 : isK T0 30 1 = true := by kernel_rfl
theorem tInt2 : ezB T0 30 = true := by kernel_rfl
theorem tInt3 : ezT T0 30 = 1 := by kernel_rfl
theorem tInt4 : limT T0 (elT T0 30) = 100000 := by kernel_rfl
theorem tInt5 : Tryz.prog.underlying 30 = some (.slice 3) := by kernel_rfl
section
variable {env : Nat → Value} {N : Gs} {pq : Nat → Option Sc}
theorem idx_first {D : List Int} {m : Int} {p : Nat} (h1 : D[p]? = some m) (h2 : ∀ j : Nat, j < p → D[j]? ≠ some m) : D.idxOf m = p := by
  induction D generalizing p with
  | nil => cases h1
  | cons a D ih =>
    cases p with
    | zero => cases h1; simp
    | succ p =>
      have ha : a ≠ m := fun e => h2 0 (by omega) (by rw [e]; rfl)
      rw [List.idxOf_cons, show (a == m) = false by simpa using ha]
      have := ih (p := p) h1 (fun j hj => h2 (j + 1) (by omega))
      rw [this]
      rfl
theorem num_core (hn : EnvOk env) (hS : SimC T0 env N (evF T0 9)) (hQ : Pq env pq) {s s2 : St} {eb i : Nat} {n : Sc} {reg : Int} {v : AV} {s' : St} {ρ : Rh} {w : World} {k z : Nat} {u : Value} (h8 : 8 ≤ eb) (h3 : 3 < (get5 eb s.h).n) (hc : PoolH s.h ((get5 eb s.h).t.get 3) i) (hbn : ∀ b j, (get5 eb s.h).t.get 3 = .ps b j → eb ≠ b) (hs2 : s2.h = killC s.h ((get5 eb s.h).t.get 3)) (hn2 : s2.nx = s.nx)
    (h : numG pq eb (get5 eb s.h) i n reg s2 = .ok v s') (hsx : s.nx ≤ 32768) (hG : Gl N ρ s.h w) (hk : ρ eb = some (k, z)) (hu : VS env ρ n u) (hr : HR env ρ s.h w) (hf : Free ρ s.nx s'.nx) :
    Calls Tryz.prog 157 #[.pointer (some ⟨k, 0, none⟩), u, .int .i64 reg] w fun e w' => ∃ v' ρ', e = .returned v' ∧ VA env ρ' v v' ∧ Post env ρ s.h s.nx w ρ' s'.h s'.nx w' := by
  obtain ⟨x, hx, ha⟩ := optm_ok h
  obtain ⟨he, hb⟩ := iff_no ha
  have he := scEq_eq he
  clear h ha
  subst he
  obtain ⟨hx2, hd⟩ := fresh_ok hb
  rw [Cl.set_K] at hd
  obtain ⟨_, hg⟩ := put_ok hd
  obtain ⟨v1, s5, h5, h6⟩ := bnd_ok hg
  have hv1 : v1 = .tp [] ∧ v = .tp [] ∧ s5 = s' := by
    unfold retT at h6
    split at h6
    · cases h6; exact ⟨rfl, rfl, rfl⟩
    · exact no_ok h6
  obtain ⟨rfl, rfl, rfl⟩ := hv1
  clear hb hd hg h6
  obtain ⟨m, hm, hvm⟩ := hQ.num i n hx
  have hpi : pI env i = m := by unfold pI; rw [hm]; rfl
  have hum : u = .int .i64 m := by
    have h1 := hvm ρ
    cases n with
    | i k n => have h1 : Value.int .i64 m = .int k n := h1; have hu : u = .int k n := hu; rw [hu, h1]
    | y j => have h1 : Value.int .i64 m = env j := h1; have hu : u = env j := hu; rw [hu, h1]
    | p b o => obtain ⟨_, _, _, e⟩ := h1; cases e
    | sl b o l q => obtain ⟨_, _, _, _, e, _⟩ := h1; cases e
    | ps b o => obtain ⟨_, _, _, _, e, _⟩ := h1; cases e
    | s l => obtain ⟨_, e, _⟩ := h1; cases e
    | se => obtain ⟨_, _, e⟩ := h1; cases e
    | b x => cases h1
    | pn => cases h1
    | sn => cases h1
  subst hum
  obtain ⟨hlv, arr, ty, lo, hi, hz, g1, g2, g3, g4, g5⟩ := hr.get hk (by omega)
  have g2 : lo = hi ∨ arr.size ≤ lo := g2.resolve_left (by omega)
  obtain ⟨vc, ha3, hvc⟩ := g5 3 h3
  generalize hcc : (get5 eb s.h).t.get 3 = c at hc hbn hs2 hvc
  obtain ⟨base, cap, rfl, hD⟩ := pool_at hr hc hvc
  have hke := hr.lt hlv hk
  rw [hn2] at hx2
  have hf0 : ρ s.nx = none := by
    have := (loc_fn loc0 _ _ _ _ _ _ h5 (by show s2.nx + 1 ≤ 32768; omega))
    obtain ⟨_, _, q1, _⟩ := this
    have q1 : s2.nx + 1 ≤ s5.nx := q1
    exact hf s.nx (Nat.le_refl _) (by omega)
  have hnx5 : s.nx + 1 ≤ s5.nx := by
    obtain ⟨_, _, q1, _⟩ := (loc_fn loc0 _ _ _ _ _ _ h5 (by show s2.nx + 1 ≤ 32768; omega))
    have q1 : s2.nx + 1 ≤ s5.nx := q1
    omega
  have hen : eb ≠ s.nx := fun e => by rw [e, hf0] at hk; cases hk
  have hlt := hlv.1
  have hkc : get5 eb (killC s.h c) = get5 eb s.h := by
    unfold killC
    split
    · rename_i b j
      rcases hc with ⟨e, _⟩ | ⟨b', e, hb8, hbl, hbp⟩
      · cases e
      · cases e
        have hb' : b < 32768 := by
          obtain ⟨_, _, _, e, _⟩ := hvc
          exact hr.dom _ _ e
        rw [get_hset hlt hb', if_neg (hbn b i rfl)]
    · rfl
  have hge : get5 eb (hset (killC s.h c) s.nx ⟨0, .pl (i + 1)⟩) = get5 eb s.h := by rw [get_hset hlt hx2, if_neg hen, hkc]
  have hlen := dd_len (env := env) i
  have hif := hQ.few i n hx
  have hXp := hQ.pos i n hx
  -- the line, from where the pool has grown
  have fin : ∀ {ρ1 : Rh} {w0 w1 w2 : World} {vc' : Value} {p : Nat}, Post env ρ s.h s.nx w ρ s.h s.nx w0 → Post env ρ s.h s.nx w0 ρ1 (hset (killC s.h c) s.nx ⟨0, .pl (i + 1)⟩) (s.nx + 1) w1 → VS env ρ1 (.ps s.nx (i + 1)) vc' → ((w2 = w1 ∧ w1.cell? ⟨k, 3, none⟩ = some vc') ∨ w2 = w1.setCell ⟨k, 3, none⟩ vc') → (ddI env (i + 1)).idxOf m = p →
      Calls Tryz.prog 103 #[.pointer (some ⟨k, 0, none⟩), lnA reg p] w2 fun e w' => e = .returned (.tuple #[]) ∧ ∃ ρ', Post env ρ s.h s.nx w ρ' s5.h s5.nx w' := by
    intro ρ1 w0 w1 w2 vc' p hP0 hP1 hv1 hw hp
    have hk1 : ρ1 eb = some (k, z) := hP1.ext _ _ hk
    have hlv1 : Live (hset (killC s.h c) s.nx ⟨0, .pl (i + 1)⟩) eb := ⟨hlt, by rw [hge]; exact hlv.2⟩
    have hP2 := Post.cell hP1.hr (s.nx + 1) h8 hlv1 hk1 (j := 3) (by rw [hge]; exact h3) hv1 hw
    rw [hge] at hP2
    have hP := (hP0.trans hP1 (Nat.le_refl _) (Nat.le_succ _)).trans hP2 (Nat.le_succ _) (Nat.le_refl _)
    have hst : hset (hset s2.h s2.nx ⟨0, .pl (i + 1)⟩) eb ⟨(get5 eb s.h).n, (get5 eb s.h).t.set 3 (.ps s2.nx (i + 1)) id⟩ = hset (hset (killC s.h c) s.nx ⟨0, .pl (i + 1)⟩) eb ⟨(get5 eb s.h).n, (get5 eb s.h).t.set 3 (.ps s.nx (i + 1)) id⟩ := by rw [hs2, hn2]
    have hcl := (hS _ _ _ _ _ ρ1 w2 [.pointer (some ⟨k, 0, none⟩), lnA reg p] h5 (by show s2.nx + 1 ≤ 32768; omega) (by show Gl N ρ1 (hset (hset s2.h s2.nx ⟨0, .pl (i + 1)⟩) eb _) w2; rw [hst]; exact hG.step hP) (.cons ⟨k, z, hk1, rfl⟩ (.cons ⟨_, rfl, .cons rfl (.cons rfl (.cons (by show Value.int .i64 p = env (4000 + i); rw [hXp, hpi, hp]) (.cons rfl (.cons rfl .nil))))⟩ .nil)) (by show HR env ρ1 (hset (hset s2.h s2.nx ⟨0, .pl (i + 1)⟩) eb _) w2; rw [hst]; exact hP.hr) (by show Free ρ1 (s2.nx + 1) s5.nx; rw [hn2]; exact Free.step hP hf (Nat.le_succ _) hnx5)).2
    refine hcl.mono ?_
    rintro e w' ⟨v', ρ', rfl, hv', hP3⟩
    obtain ⟨ar, rfl, hal⟩ := hv'
    have har : ar = #[] := by
      have := hal.len
      exact Array.eq_empty_of_size_eq_zero (by rw [← Array.length_toList]; exact this.symm)
    subst har
    have hP3 : Post env ρ1 (hset (hset s2.h s2.nx ⟨0, .pl (i + 1)⟩) eb ⟨(get5 eb s.h).n, (get5 eb s.h).t.set 3 (.ps s2.nx (i + 1)) id⟩) (s2.nx + 1) w2 ρ' s5.h s5.nx w' := hP3
    rw [hst, hn2] at hP3
    exact ⟨rfl, ρ', hP.trans hP3 (Nat.le_succ _) hnx5⟩
  have hcell3 : w.cell? ⟨k, 3, none⟩ = some (.slice base (ddI env i).length cap) := by rw [cell_of g1]; exact ha3
  refine (number_w (R := fun w' => ∃ ρ', Post env ρ s.h s.nx w ρ' s5.h s5.nx w') hke hcell3 (fun j z hz => by obtain ⟨kc, q1, _, q2⟩ := hD j z hz; exact ⟨kc, q1, q2⟩) (by omega) (fun p hp1 hp2 => ?_) (fun hnm => ?_)).mono ?_
  · have hmem : pI env i ∈ ddI env i := by rw [hpi]; exact List.mem_of_getElem? hp1
    obtain ⟨ρ1, hv1, hP1⟩ := pool_old hr hx2 hf0 hc hvc hmem
    exact fin (Post.refl hr _) hP1 hv1 (.inl ⟨rfl, hcell3⟩) (by rw [dd_old hmem]; exact idx_first hp1 hp2)
  · have hnm' : pI env i ∉ ddI env i := by rw [hpi]; exact hnm
    have hP0 := Post.idle (w' := w.alloc (.cells #[.int .i64 m] 3)) hr s.nx (fun j hj => ((Below.refl w.heap.size w).alloc (Nat.le_refl _) _).block j hj) ((Below.refl 0 w).alloc (Nat.zero_le _) _)
    have hsrc : Src Tryz.prog 1 30 (.slice (some ⟨w.heap.size, 0, none⟩) 1 1) 1 [.int .i64 (pI env i)] (w.alloc (.cells #[.int .i64 m] 3)) := by
      have hce : ∀ w' : World, w'.heap = (w.alloc (.cells #[.int .i64 m] 3)).heap → ∀ j u, [Value.int .i64 (pI env i)][j]? = some u → w'.cell? ((⟨w.heap.size, 0, none⟩ : Addr).add j) = some u := fun w' hw j u hu => by
        have := cells_new w [.int .i64 (pI env i)] 3 w.heap.size rfl j u hu
        rw [hpi] at this
        unfold World.cell? at this ⊢
        rw [hw]
        exact this
      refine ⟨.inl ⟨_, tInt5⟩, fun _ => rfl, ?_, ?_, rfl, fun u hu => ?_⟩
      · exact run_firstCells_some _ 1 1 _ 1 1 _ rfl (hce _ rfl)
      · exact run_firstCells_some _ 1 1 _ 1 1 _ rfl (hce _ rfl)
      · rw [List.mem_singleton] at hu; rw [hu]; rfl
    obtain ⟨b1, n1, c1, ρ1, w1, q1, q2, q3⟩ := pool_new (T := T0) (ty := 30) hn hP0.hr hx2 hf0 tInt1 tInt2 tInt3 (by rw [tInt4]; omega) hc hvc hnm' hsrc
    obtain ⟨_, arr1, ty1, lo1, hi1, _, p1, p2, p3, _, p5⟩ := q3.hr.get (q3.ext _ _ hk) (by rw [hge]; omega)
    rw [hge] at p3
    refine ⟨b1, n1, c1, w1, q1, ⟨_, by rw [cell_of p1]; exact Array.getElem?_eq_getElem (by omega)⟩, frozen_of p1 (p2.resolve_left (by omega)) (by omega), ?_⟩
    refine fin hP0 q3 q2 (.inr rfl) ?_
    rw [dd_new hnm', hpi, List.idxOf_append, if_neg hnm]
    simp
  · rintro e w' ⟨rfl, ρ', hP⟩
    exact ⟨.tuple #[], ρ', rfl, ⟨#[], rfl, .nil⟩, hP⟩
theorem num_sim (hn : EnvOk env) (hS : SimC T0 env N (evF T0 9)) (hQ : Pq env pq) {args : List AV} {m : M AV} (hm : hNum pq args = some m) : ∀ s v s' (ρ : Rh) w (us : List Value), m s = .ok v s' → s.nx ≤ 32768 → Gl N ρ s.h w → All2 (VA env ρ) args us → HR env ρ s.h w → Free ρ s.nx s'.nx →
    FnOk Tryz.prog 157 ∧ Calls Tryz.prog 157 us.toArray w fun e w' => ∃ v' ρ', e = .returned v' ∧ VA env ρ' v v' ∧ Post env ρ s.h s.nx w ρ' s'.h s'.nx w' := by
  intro s v s' ρ w us h hsx hG ha hr hf
  refine ⟨fnNum, ?_⟩
  unfold hNum at hm
  split at hm
  · rename_i eb n reg
    cases hm
    cases ha with
    | cons h1 ha =>
      cases ha with
      | cons h2 ha =>
        cases ha with
        | cons h3 ha =>
          cases ha
          obtain ⟨k, z, hk, rfl⟩ := h1
          have h3 : _ = Value.int .i64 reg := h3
          subst h3
          obtain ⟨h8, hb⟩ := iff_no h
          have h8 : 8 ≤ eb := ble_t h8
          obtain ⟨s1, e1, e2, hc⟩ := look_same hb
          obtain ⟨h4, hd⟩ := iff_no hc
          have h4 : 3 < (get5 eb s.h).n := blt_t h4
          clear h hb hc
          generalize hq : (get5 eb s.h).t.get 3 = c at hd
          cases c with
          | sn =>
            exact num_core hn hS hQ (s2 := s1) h8 h4 (.inl ⟨hq, rfl⟩) (fun b j e => by rw [hq] at e; cases e) (by rw [hq]; exact e1) e2 hd hsx hG hk h2 hr hf
          | ps b i =>
            rcases iff_ok hd with ⟨_, q⟩ | ⟨hne, hd1⟩
            · exact no_ok q
            have hne : eb ≠ b := fun e => by rw [e, Nat.beq_refl] at hne; cases hne
            obtain ⟨s2, e3, e4, he⟩ := look_same hd1
            obtain ⟨j, hj, he1⟩ := optm_ok he
            obtain ⟨hij, he2⟩ := iff_no he1
            have hij : i = j := Nat.eq_of_beq_eq_true hij
            subst hij
            obtain ⟨hb8, he3⟩ := put_ok he2
            rw [e1] at hj e3
            have hroom : 0 < (get5 b s.h).t.room := by
              cases ht : (get5 b s.h).t with
              | pl q => exact Nat.zero_lt_succ 7
              | _ => rw [ht] at hj; cases hj
            exact num_core hn hS hQ (s2 := ⟨hset s2.h b dead, s2.nx, s2.rd, s2.wr ||| bit b⟩) h8 h4 (.inr ⟨b, hq, hb8, hroom, hj⟩) (fun b' j' e => by rw [hq] at e; cases e; exact hne) (by show hset s2.h b dead = _; rw [hq, e3]; rfl) (e4.trans e2) he3 hsx hG hk h2 hr hf
          | _ => exact no_ok hd
  · cases hm
theorem Post.low' {ρ : Rh} {h : Hp} {w w' : World} (hr : HR env ρ h w) (n : Nat) (hb : Below w.heap.size w w') : Post env ρ h n w ρ h n w' :=
  Post.idle hr n (fun j hj => hb.block j hj) (hb.mono (Nat.zero_le _))
theorem con_sim (hQ : Pq env pq) {args : List AV} {m : M AV} (hm : hCon pq args = some m) : ∀ s v s' (ρ : Rh) w (us : List Value), m s = .ok v s' → s.nx ≤ 32768 → Gl N ρ s.h w → All2 (VA env ρ) args us → HR env ρ s.h w → Free ρ s.nx s'.nx →
    FnOk Tryz.prog 166 ∧ Calls Tryz.prog 166 us.toArray w fun e w' => ∃ v' ρ', e = .returned v' ∧ VA env ρ' v v' ∧ Post env ρ s.h s.nx w ρ' s'.h s'.nx w' := by
  intro s v s' ρ w us h hsx hG ha hr hf
  refine ⟨fnCon, ?_⟩
  unfold hCon at hm
  split at hm
  · rename_i f b i l j
    cases hm
    cases ha with
    | cons h1 ha =>
      cases ha with
      | cons h2 ha =>
        cases ha
        obtain ⟨arr, rfl, ha⟩ := h1
        have h2 : _ = env j := h2
        subst h2
        obtain ⟨c0, ha0⟩ := iff_no h
        have c0 : i ≤ 1000 := ble_t c0
        obtain ⟨c1, ha1⟩ := iff_no ha0
        obtain ⟨c2, ha2⟩ := iff_no ha1
        obtain ⟨s1, e1, e2, ha3⟩ := look_same ha2
        obtain ⟨i', hi', ha4⟩ := optm_ok ha3
        obtain ⟨c3, ha5⟩ := iff_no ha4
        obtain ⟨x, hx, ha6⟩ := optm_ok ha5
        have c1 : 4000 ≤ j := ble_t c1
        have c2 : j - 4000 < i := blt_t c2
        have c3 : i = i' := Nat.eq_of_beq_eq_true c3
        subst c3
        clear h ha0 ha1 ha2 ha3 ha4 ha5
        cases ha6
        obtain ⟨t, rfl⟩ : ∃ t, j = 4000 + t := ⟨j - 4000, by omega⟩
        rw [Nat.add_sub_cancel_left] at c2
        have hsub : Nat.sub (4000 + t) 4000 = t := Nat.add_sub_cancel_left 4000 t
        rw [hsub] at hx
        obtain ⟨l0⟩ := arr
        cases ha with
        | cons k1 ha =>
          cases ha with
          | cons k2 ha =>
            cases ha with
            | cons k3 ha =>
              cases ha
              obtain ⟨k, z, cap, e, rfl, q1, q2⟩ := k2
              have hroom : 0 < (get5 b s.h).t.room := by
                cases ht : (get5 b s.h).t with
                | pl q => exact Nat.zero_lt_succ 7
                | _ => rw [ht] at hi'; cases hi'
              have hlv : Live s.h b := ⟨hr.dom b _ e, hroom⟩
              obtain ⟨k', arr, ty, lo, hi, e', g1, _, _, _, _, g6⟩ := (hr.blk b hlv).ex
              rw [e] at e'
              cases e'
              obtain ⟨m, hm1, hm2⟩ := hQ.num t x hx
              have hpi : pI env t = m := by unfold pI; rw [hm1]; rfl
              have hpos := hQ.pos t x hx
              have hmem : ∀ q, t < q → pI env t ∈ ddI env q ∧ (ddI env q).idxOf (pI env t) = (ddI env (t + 1)).idxOf (pI env t) := by
                intro q hq
                induction q with
                | zero => omega
                | succ q ih =>
                  by_cases hqt : q = t
                  · subst hqt
                    refine ⟨?_, rfl⟩
                    by_cases hin : pI env q ∈ ddI env q
                    · rw [dd_old hin]; exact hin
                    · rw [dd_new hin]; simp
                  · obtain ⟨d1, d2⟩ := ih (by omega)
                    by_cases hin : pI env q ∈ ddI env q
                    · rw [dd_old hin]; exact ⟨d1, d2⟩
                    · rw [dd_new hin]; exact ⟨List.mem_append_left _ d1, by rw [List.idxOf_append, if_pos d1]; exact d2⟩
              obtain ⟨d1, d2⟩ := hmem i (by omega)
              have hlt := List.idxOf_lt_length_of_mem d1
              have hat : (ddI env i)[(ddI env i).idxOf (pI env t)]? = some (pI env t) := by rw [List.getElem?_eq_getElem hlt, List.getElem_idxOf]
              have hce : w.cell? ⟨k, (ddI env i).idxOf (pI env t), none⟩ = some (.int .i64 m) := by rw [cell_of g1, g6 i hi' _ _ hat, hpi]
              have hdl := dd_len (env := env) i
              rw [hpos, ← d2]
              have hi70 : (ddI env i).length ≤ 70000 := by omega
              refine (con_w (w := w) hi70 hlt (hr.lt hlv e) hce).mono ?_
              rintro e w' ⟨rfl, hb⟩
              exact ⟨_, ρ, rfl, hm2 ρ, by rw [e1, e2]; exact Post.low' hr _ hb⟩
  · cases hm
end
end Sm
end Go.Proofs.YtdmedmmdioabgaaGreatDoor
/- SUMMED: the texts' words, and what the evaluator is asked. -/
set_option linter.unusedVariables false
namespace Go.Proofs.YtdmedmmdioabgaaGreatDoor
namespace Sm
open Ev
noncomputable section
def wd (k : Nat) (at' : Nat) (n : Sc) (t : List Nat) : List Sc := [.i .i64 (.ofNat k), .y (Nat.add 100 at'), n, .s t]
abbrev W3 := Nat × Sc × List Nat
/-- tokens: kind, number, text -/
def toksF (l : List W3) : Nat → List Sc := @List.rec _ (fun _ => Nat → List Sc) (fun _ => []) (fun q _ ih i => wd q.1 i q.2.1 q.2.2 ++ ih (Nat.succ i)) l
def sg (k : Nat) : W3 := (k, z0, [])
def nm (c : Nat) : W3 := (2, z0, [c])
def nu (s : Sc) : W3 := (1, s, [])
def o1 : Sc := .i .i64 (.ofNat 1)
def said (neg : Bool) (s : Sc) : List W3 := bif neg then [sg 23, sg 31, nu s, sg 31, nu o1, sg 24] else [nu s]
def opK (o : Nat) : Nat := headOr (drp o [30, 31, 32, 33, 34, 27, 19, 28, 20, 29, 21]) 0
def cmpd (o : Nat) (l : List W3) : List W3 := bif Nat.ble 5 o then [sg 6] ++ l ++ [sg 7, nu o1, sg 8, nu z0] else l
def fE (o : Nat) : List W3 := cmpd o [nm 120, sg (opK o), nm 121]
/-- the text: 0 plain, 1 let rec, 2 a tuple -/
def txt (f o : Nat) (sa sb : Bool) : List W3 := match f with
  | 0 => cmpd o (said sa (.y 4) ++ [sg (opK o)] ++ said sb (.y 5))
  | 1 => [sg 3, sg 4, nm 102, nm 120, nm 121, sg 27] ++ fE o ++ [sg 5, nm 102, sg 23] ++ said sa (.y 4) ++ [sg 24, sg 23] ++ said sb (.y 5) ++ [sg 24]
  | 2 => [sg 3, sg 23, nm 120, sg 25, nm 121, sg 24, sg 27, sg 23] ++ said sa (.y 4) ++ [sg 25] ++ said sb (.y 5) ++ [sg 24, sg 5] ++ fE o
  | _ => sg 31 :: said sa (.y 4)
def stT (l : List W3) : St := set5 8 (Bk.of (toksF (l ++ [sg 0]) 0)) hp0 fun h => ⟨h, 9, 0, 0⟩
def isOk (r : R AV) : Bool := @R.rec _ (fun _ => Bool) (fun _ _ => true) (fun _ => false) r
def thenR (r : R AV) (f : AV → St → R AV) : R AV := @R.rec _ (fun _ => R AV) f (fun n => .no n) r
end
end Sm
end Go.Proofs.YtdmedmmdioabgaaGreatDoor
/- SUMMED: the variables as they are laid; calls one behind the other. -/
set_option linter.unusedVariables false
set_option linter.unusedSimpArgs false
namespace Go.Proofs.YtdmedmmdioabgaaGreatDoor
namespace Sm
open Ev Go.RowKit
/-- the variables as they are laid -/
structure Lw (w : World) : Prop where
  t : ∀ i x, texts[i]? = some x → ∃ v, w.cell? ⟨1, i, none⟩ = some v ∧ ∀ env ρ, VS env ρ x v
  f : ∀ i x, flds[i]? = some x → ∃ v, w.cell? ⟨0, i, none⟩ = some v ∧ ∀ env ρ, VS env ρ x v
def zOf (w : World) (g : Nat) : Nat := match w.heap[g]? with
  | some (.cells arr _ _) => arr.size
  | _ => 0
def r0 (w : World) : Rh := fun g => if g < 2 then some (g, zOf w g) else none
theorem hp0_at {i : Nat} (hi : i < 32768) : get5 i hp0 = if i = 0 then Bk.of flds else if i = 1 then Bk.of texts else dead := by
  unfold hp0
  rw [l5.2 i 0 _ _ hi (by omega), l5.2 i 1 _ _ hi (by omega), full5_get]
theorem live0 {i : Nat} : Live hp0 i ↔ i < 2 := by
  constructor
  · rintro ⟨h1, h2⟩
    rw [hp0_at h1] at h2
    by_cases e : i = 0
    · omega
    · rw [if_neg e] at h2
      by_cases e1 : i = 1
      · omega
      · rw [if_neg e1] at h2; exact absurd h2 (Nat.not_lt_zero _)
  · intro hi
    refine ⟨by omega, ?_⟩
    rw [hp0_at (by omega)]
    split
    · exact (ofC_room flds.length flds).1
    · rw [if_pos (by omega)]; exact (ofC_room texts.length texts).1
theorem blk_of {w : World} {g : Nat} {l : List Sc} {env : Nat → Value} {ρ : Rh} (hg : g < 8) (h0 : 0 < l.length) (hl : l.length ≤ 4096) (hρ : ρ g = some (g, zOf w g)) (h : ∀ i x, l[i]? = some x → ∃ v, w.cell? ⟨g, i, none⟩ = some v ∧ ∀ env ρ, VS env ρ x v) : BR env ρ (Bk.of l) g w := by
  have hb : ∃ arr ty fz, w.heap[g]? = some (.cells arr ty fz) := by
    obtain ⟨v, h1, _⟩ := h 0 _ (List.getElem?_eq_getElem h0)
    unfold World.cell? at h1
    cases hb : w.heap[g]? with
    | none => simp only [hb] at h1; cases h1
    | some B =>
      cases B with
      | cells arr ty fz => exact ⟨_, _, _, rfl⟩
      | _ => simp only [hb] at h1; cases h1
  obtain ⟨arr, ty, ⟨lo, hi⟩, hb⟩ := hb
  have hc : ∀ i x, l[i]? = some x → ∃ v, arr[i]? = some v ∧ ∀ env ρ, VS env ρ x v := fun i x hx => by
    obtain ⟨v, h1, h2⟩ := h i x hx
    rw [cell_of hb] at h1
    exact ⟨v, h1, h2⟩
  have hz : zOf w g = arr.size := by unfold zOf; rw [hb]
  have hsz : l.length ≤ arr.size := by
    obtain ⟨v, h1, _⟩ := hc (l.length - 1) _ (List.getElem?_eq_getElem (by omega))
    have := (Array.getElem?_eq_some_iff.1 h1).1
    omega
  refine ⟨g, arr, ty, lo, hi, by rw [hρ, hz], hb, .inl hg, hsz, (ofC_room _ l).2 hl, fun j hj => ?_, PlOk.no (plI_of _ l)⟩
  have hj : j < l.length := hj
  obtain ⟨v, h1, h2⟩ := hc j (l.getD j .se) (by rw [List.getD_eq_getElem?_getD, List.getElem?_eq_getElem hj]; rfl)
  refine ⟨v, h1, ?_⟩
  have e : ((Bk.of l).t.get j) = l.getD j .se := ofC_get l hj hl
  rw [e]
  exact h2 env _
theorem hr0 {env : Nat → Value} {w : World} (hw : Lw w) : HR env (r0 w) hp0 w := by
  refine ⟨fun i hl => ?_, fun i hi hd => ?_, fun i j k z z' hi hj e e' => ?_, fun i x e => ?_⟩
  · have hi := live0.1 hl
    rw [hp0_at (by omega)]
    by_cases e : i = 0
    · subst e
      rw [if_pos rfl]
      exact blk_of (by omega) (by decide) (by decide) rfl hw.f
    · have e : i = 1 := by omega
      subst e
      rw [if_neg (by omega), if_pos rfl]
      exact blk_of (by omega) (by decide) (by decide) rfl hw.t
  · rw [hp0_at hi] at hd ⊢
    split at hd
    · have := (ofC_room flds.length flds).1
      exact absurd hd (Nat.ne_of_gt this)
    · rename_i e0
      rw [if_neg e0]
      split at hd
      · have := (ofC_room texts.length texts).1
        exact absurd hd (Nat.ne_of_gt this)
      · rename_i e1
        rw [if_neg e1]; rfl
  · unfold r0 at e e'
    rw [if_pos (live0.1 hi)] at e
    rw [if_pos (live0.1 hj)] at e'
    cases e
    cases e'
    rfl
  · unfold r0 at e
    split at e
    · omega
    · cases e
theorem Lw.of {w w' : World} (h : Lw w) (e : ∀ g, g < 2 → w'.heap[g]? = w.heap[g]?) : Lw w' := by
  have key : ∀ g i v, g < 2 → w.cell? ⟨g, i, none⟩ = some v → w'.cell? ⟨g, i, none⟩ = some v := fun g i v hg hv => by
    unfold World.cell? at hv ⊢
    simp only [e g hg]
    exact hv
  exact ⟨fun i x hx => by obtain ⟨v, h1, h2⟩ := h.t i x hx; exact ⟨v, key _ _ _ (by omega) h1, h2⟩, fun i x hx => by obtain ⟨v, h1, h2⟩ := h.f i x hx; exact ⟨v, key _ _ _ (by omega) h1, h2⟩⟩
theorem Lw.size {w : World} (h : Lw w) : 2 ≤ w.heap.size := by
  obtain ⟨v, h1, _⟩ := h.t 0 _ rfl
  unfold World.cell? at h1
  rcases Nat.lt_or_ge 1 w.heap.size with q | q
  · omega
  · rw [show w.heap[(⟨1, 0, none⟩ : Addr).block]? = none from Array.getElem?_eq_none q] at h1; cases h1
theorem Lw.on {w w' : World} (h : Lw w) (hb : Below w.heap.size w w') : Lw w' := h.of fun g hg => hb.block g (by have := h.size; omega)
def Gw (w : World) : Gs := ⟨2, w, by omega⟩
theorem gl0 (w : World) : Gl (Gw w) (r0 w) hp0 w := ⟨fun g hg => ⟨zOf w g, if_pos hg⟩, fun g hg => live0.2 hg, fun _ _ => rfl⟩
theorem below0 {env : Nat → Value} {w w' : World} {ρ' : Rh} {h' : Hp} {n' : Nat} (hp : Post env (r0 w) hp0 8 w ρ' h' n' w') : Below w.heap.size w w' := by
  refine ⟨hp.low.os, hp.low.tape, hp.low.output, hp.low.size, fun k hk => ?_⟩
  by_cases e : k < 2
  · exact (hp.ro k k (zOf w k) (by omega) (live0.2 e) (if_pos e)).2
  · refine hp.keep k hk fun i z' hl e' => ?_
    have hi := live0.1 hl
    unfold r0 at e'
    rw [if_pos hi] at e'
    cases e'
    exact e hi
theorem free0 (w : World) : Free (r0 w) 8 32768 := fun i hi _ => if_neg (by omega)
set_option maxRecDepth 100000 in
theorem pr_all : (Tryz.prog.funcs.toList.all (fnOk 2)) = true := by kernel_rfl
theorem pr_mixed : Tryz.prog.follows .mixedOrders = true := by kernel_rfl
theorem pr_ok : PrOk Tryz.prog 2 := ⟨fun f fn h => List.all_eq_true.1 pr_all fn (by rw [← Array.getElem?_toList] at h; exact List.mem_of_getElem? h), pr_mixed⟩
/-- a state that was come to, and a value in it -/
structure Jx (env : Nat → Value) (w : World) (vs : List AV) (s : St) (us : List Value) (w' : World) : Prop where
  ex : ∃ ρ, All2 (VA env ρ) vs us ∧ Post env (r0 w) hp0 8 w ρ s.h s.nx w'
  lo : 8 ≤ s.nx
  hi : s.nx ≤ 32768
theorem Jx.on {env : Nat → Value} {w w' w'' : World} {vs : List AV} {s : St} {us : List Value} (h : Jx env w vs s us w') (hb : Below w'.heap.size w' w'') : Jx env w vs s us w'' := by
  obtain ⟨ρ, h1, h2⟩ := h.ex
  exact ⟨⟨ρ, h1, h2.trans (Post.low' h2.hr _ hb) h.lo (Nat.le_refl _)⟩, h.lo, h.hi⟩
theorem Jx.below {env : Nat → Value} {w w' : World} {vs : List AV} {s : St} {us : List Value} (h : Jx env w vs s us w') : Below w.heap.size w w' := by
  obtain ⟨ρ, _, h2⟩ := h.ex
  exact below0 h2
/-- a table that is sound -/
structure TOk (T : Tab) (env : Nat → Value) (w : World) : Prop where
  p : T.P = Tryz.prog
  ok : Ok T env
  hk : HkOk T env (Gw w)
theorem Jx.call {T : Tab} {env : Nat → Value} {w w' : World} {vs : List AV} {s : St} {us : List Value} (hT : TOk T env w) (h : Jx env w vs s us w') {n f : Nat} {v : AV} {s2 : St} (he : evF T n f vs s = .ok v s2) :
    Calls Tryz.prog f us.toArray w' fun e w'' => ∃ u, e = .returned u ∧ Jx env w [v] s2 [u] w'' := by
  obtain ⟨ρ, h1, h2⟩ := h.ex
  have hl := loc_fn hT.hk.loc n f vs s v s2 he h.hi
  obtain ⟨_, _, q1, q2, _⟩ := hl
  have hP : PrOk T.P (Gw w).n := by rw [hT.p]; exact pr_ok
  have hc := (fn_sim (N := Gw w) hT.ok hP hT.hk n f vs s v s2 ρ w' us he h.hi ((gl0 w).step h2) h1 h2.hr ((Free.step h2 (free0 w) h.lo h.hi).sub q2)).2
  rw [hT.p] at hc
  refine hc.mono ?_
  rintro e w'' ⟨u, ρ', rfl, hv, hp⟩
  exact ⟨u, rfl, ⟨ρ', .cons hv .nil, h2.trans hp h.lo q1⟩, Nat.le_trans h.lo q1, q2⟩
end Sm
end Go.Proofs.YtdmedmmdioabgaaGreatDoor
