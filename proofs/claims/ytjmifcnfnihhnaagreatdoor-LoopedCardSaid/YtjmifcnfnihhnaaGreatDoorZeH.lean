import Derived.Test.YtjmifcnfnihhnaaGreatDoorZeA
import Derived.Test.YtjmifcnfnihhnaaGreatDoorProg
import Derived.KernelRfl
import Derived.Test.YtjmifcnfnihhnaaGreatDoorZeF
import Derived.Deep.LoopGhost
import Derived.Lib.Hide
import Derived.Handy
import Derived.Test.YtjmifcnfnihhnaaGreatDoorZeD
/- SUMMED: the program's own tables, as the evaluator takes them. -/
set_option linter.unusedVariables false
namespace Go.Proofs.YtjmifcnfnihhnaaGreatDoor
namespace Sm
open Ev
noncomputable section
/-- the variables -/
def texts : List Sc := [.s [], .s [], .s [], .s [108, 101, 116], .s [114, 101, 99], .s [105, 110], .s [105, 102], .s [116, 104, 101, 110], .s [101, 108, 115, 101], .s [102, 117, 110], .s [110, 111, 116], .s [116, 114, 117, 101], .s [102, 97, 108, 115, 101], .s [114, 101, 97, 100], .s [112, 114, 105, 110, 116], .s [108, 101, 110], .s [97, 114, 114, 97, 121], .s [112, 117, 116], .s [46, 40], .s [60, 62], .s [60, 61], .s [62, 61], .s [45, 62], .s [40], .s [41], .s [44], .s [59], .s [61], .s [60], .s [62], .s [43], .s [45], .s [42], .s [47], .s [37]]
def flds : List Sc := [.s [], .s [114, 107, 48, 48], .s [114, 114, 48, 48], .s [114, 115, 48, 48], .s [114, 115, 48, 48], .s [114, 115, 48, 48], .s [48, 115, 48, 48], .s [114, 114, 114, 48], .s [114, 114, 114, 48], .s [114, 114, 114, 48], .s [114, 114, 114, 42], .s [114, 114, 114, 42], .s [114, 114, 114, 48], .s [114, 114, 114, 48], .s [114, 114, 114, 48], .s [114, 114, 48, 48], .s [114, 114, 48, 48], .s [48, 108, 48, 48], .s [114, 108, 48, 48], .s [114, 42, 48, 48], .s [114, 42, 102, 48], .s [114, 42, 114, 48], .s [114, 114, 42, 48], .s [114, 114, 114, 42], .s [114, 114, 114, 42], .s [114, 114, 114, 42], .s [114, 114, 48, 48], .s [114, 48, 48, 42], .s [114, 48, 48, 42], .s [48, 102, 48, 48], .s [48, 97, 48, 48], .s [48, 102, 48, 48], .s [48, 97, 48, 48], .s [48, 48, 48, 48]]
/-- which temps each function reads behind a region's end -/
def kpL : List Nat := [0, 0, 0, 71, 113982837842983129870077688367927159293062641155239930226341059257789499572167, 5, 19, 29, 13, 28735, 21, 97311, 131015, 19, 1, 4083, 1, 31775, 19, 51, 253, 31, 63, 15, 31, 64595129457254073007, 61, 63, 799, 19, 1021, 243, 15, 7, 123, 197107, 7, 199, 61, 455, 455, 115, 51, 63, 127, 199, 5, 13, 51, 1011, 21, 19, 271, 7, 23, 55, 59, 399, 4135, 23, 1011, 2035, 1011, 207, 51, 30064778587, 59, 5, 23, 23, 31, 247, 61, 23, 1563, 59, 27, 1019, 16777339, 27, 11, 59, 5, 1, 5, 115, 199, 5, 499, 5, 51, 61, 5, 65789, 125, 61, 61, 3, 13, 455, 271, 13, 11, 15, 60129542887, 999, 231, 207, 999, 103, 8796093038695, 3763, 3, 5, 63, 55, 2007, 5, 207, 71, 15, 87, 4726978168888072601707, 79, 8388699, 103, 39, 19, 7, 5, 199, 8079, 55, 111, 111, 495, 27, 61, 5, 5, 29, 125, 27, 61, 61, 1311, 4951760157141661837356433607, 15, 19, 71, 143, 3, 16271, 4071, 4071, 16455, 71, 962072937871, 19, 29, 5, 51, 18898761361109473624283, 19, 19, 23, 51, 23, 5, 251, 29, 27, 87, 175, 27, 19, 1, 61, 36917, 87, 967, 4039, 967, 199, 3103, 66503, 199, 7, 119, 115, 15903, 6163, 8079, 31, 911, 2147485967, 103, 967, 5, 61, 783, 118231, 19, 271, 199, 967, 455, 199, 455, 1991, 63050394783187123, 215, 19, 189, 19, 51, 71, 199, 381, 19, 967, 61, 53, 19, 93, 125, 1, 1, 1, 1, 1, 1, 1, 1, 1, 1, 1, 1, 1, 1, 1, 1, 0, 0, 0, 0, 0]
def Tb (orc : BinOp → Sc → Sc → Option Sc) (ouc : UnOp → Sc → Option Sc) (hk : Nat → List AV → Option (M AV)) : Tab := ⟨Tryz.prog, fun k => headOr (drp k kpL) 0, orc, ouc, fun _ => none, fun _ => none, fun _ _ => none, fun _ _ => none, fun _ => 0, fun _ _ _ => none, fun _ => none, hk⟩
def T0 : Tab := Tb (fun _ _ _ => none) (fun _ _ => none) (fun _ _ => none)
def hp0 : Hp := set5 0 (Bk.of flds) (set5 1 (Bk.of texts) (full5 dead) id) id
def z0 : Sc := .i .i64 (.ofNat 0)
/-- two that are told to be one -/
def scEq (a b : Sc) : Bool := match a, b with
  | .i .i64 m, .i .i64 n => ieq m n
  | .y i, .y j => Nat.beq i j
  | _, _ => false
def retT (v : AV) : M AV := match v with
  | .tp [] => ret (.tp [])
  | _ => no 7
/-- emitter.number: its number is the i-th that is asked for -/
def numG (pq : Nat → Option Sc) (eb : Nat) (B : Bk) (i : Nat) (n : Sc) (reg : Int) : M AV := optm 7 (pq i) fun x => iff (scEq n x) (fresh ⟨0, .pl (Nat.succ i)⟩ fun id => B.t.set 3 (.ps id (Nat.succ i)) fun t => Ev.put eb ⟨B.n, t⟩ (bnd (evF T0 9 102 [.c (.p eb 0), .ag [.i .i64 (.ofNat 1), .i .i64 reg, .y (Nat.add 4000 i), z0, z0]]) retT)) (no 7)
def hNum (pq : Nat → Option Sc) (args : List AV) : Option (M AV) := match args with
  | [.c (.p eb 0), .c n, .c (.i .i64 reg)] => some (iff (Nat.ble 8 eb) (Ev.look eb fun B => iff (Nat.blt 3 B.n) (match B.t.get 3 with
    | .sn => numG pq eb B 0 n reg
    | .ps b i => iff (Nat.beq eb b) (no 7) (Ev.look b fun C => optm 7 (plI C.t) fun j => iff (Nat.beq i j) (Ev.put b dead (numG pq eb B i n reg)) (no 7))
    | _ => no 7) (no 7)) (no 7))
  | _ => none
/-- Code.Constant: at the place of the i-th number that was asked for -/
def hCon (pq : Nat → Option Sc) (args : List AV) : Option (M AV) := match args with
  | [.ag [f, .ps b i, l], .c (.y j)] => some (iff (Nat.ble i 1000) (iff (Nat.ble 4000 j) (iff (Nat.blt (Nat.sub j 4000) i) (Ev.look b fun C => optm 7 (plI C.t) fun i' => iff (Nat.beq i i') (optm 7 (pq (Nat.sub j 4000)) retC) (no 7)) (no 7)) (no 7)) (no 7))
  | _ => none
end
end Sm
end Go.Proofs.YtjmifcnfnihhnaaGreatDoor
/- WALKS: emitter.number: each number is a constant once. -/
set_option linter.unusedVariables false
set_option linter.unusedSimpArgs false
namespace Go.Proofs.YtjmifcnfnihhnaaGreatDoor
namespace Sm
open Go.RowKit
def lnA (reg x : Int) : Value := .agg #[.int .i64 1, .int .i64 reg, .int .i64 x, .int .i64 0, .int .i64 0]
theorem wpList_appR {P : Program} {ops : Array Oper} {rest : List Oper} {o : Oper} {a : Act} {w w' : World} {Q : Exit → Act → World → Prop} (hgd : o.guard = none) (s x : Operand) (t : TypeId) (ho : o.op = .call { callee := .builtin .append, args := #[s, x], argTypes := #[t, t] }) {v : Value} (hr : (Builtin.append_ #[t, t] o.type #[a.eval s, a.eval x]).run P w = .ok v w') (h : wpList P ops Q rest (a.put o.dst v) w') : wpList P ops Q (o :: rest) a w := by
  refine wpList_plain hgd fun K hK => ?_
  unfold Oper.wp execOp
  simp only [ho, resolve, invoke, builtin, Sem.run_bind, Sem.run_pure, Result.andThen_ok, List.map_toArray, List.map_cons, List.map_nil, hr]
  exact hK _ _ h
set_option maxRecDepth 100000 in
theorem number_w {w : World} {ke cap : Nat} {base : Option Addr} {D : List Int} {m reg : Int} {R : World → Prop} (hke : ke < w.heap.size)
    (h3 : w.cell? ⟨ke, 3, none⟩ = some (.slice base D.length cap))
    (hD : ∀ (j : Nat) (z : Int), D[j]? = some z → ∃ kc, base = some ⟨kc, 0, none⟩ ∧ w.cell? ⟨kc, j, none⟩ = some (.int .i64 z)) (hd : D.length ≤ 1000)
    (hfound : ∀ p : Nat, D[p]? = some m → (∀ j : Nat, j < p → D[j]? ≠ some m) → Calls Tryz.prog 102 #[.pointer (some ⟨ke, 0, none⟩), lnA reg p] w fun e w' => e = .returned (.tuple #[]) ∧ R w')
    (hnew : m ∉ D → ∃ b1 n1 c1 w1, (Builtin.append_ #[27, 27] 27 #[.slice base D.length cap, .slice (some ⟨w.heap.size, 0, none⟩) 1 1]).run Tryz.prog (w.alloc (.cells #[.int .i64 m] 3)) = .ok (.slice b1 n1 c1) w1 ∧ (∃ u, w1.cell? ⟨ke, 3, none⟩ = some u) ∧ w1.frozen? ⟨ke, 3, none⟩ = false ∧
      Calls Tryz.prog 102 #[.pointer (some ⟨ke, 0, none⟩), lnA reg D.length] (w1.setCell ⟨ke, 3, none⟩ (.slice b1 n1 c1)) fun e w' => e = .returned (.tuple #[]) ∧ R w') :
    Calls Tryz.prog 156 #[.pointer (some ⟨ke, 0, none⟩), .int .i64 m, .int .i64 reg] w fun e w' => e = .returned (.tuple #[]) ∧ R w' := by
  have HF := Lib.hid hfound
  have HN := Lib.hid hnew
  have HD := Lib.hid hD
  clear hfound hnew hD
  go_enter Tryz.func156, Tryz.ntmps156
  go_wp2
  obtain ⟨L, hL⟩ : ∃ L, L = D.length := ⟨_, rfl⟩
  rw [← hL] at h3 hd
  have HLn := Lib.hid hL
  clear hL
  go_loopg [6] L (fun gh u (wr : World) => ∃ j : Nat, j ≤ L ∧ gh = L - j ∧ u = .int .i64 (j : Nat) ∧ (∀ i : Nat, i < j → D[i]? ≠ some m) ∧ wr = w)
  case atStart => exact ⟨0, Nat.zero_le _, rfl, rfl, fun i h => absurd h (Nat.not_lt_zero _), rfl⟩
  case round =>
    obtain ⟨j, hj, hgk, rfl, hlt, rfl⟩ := hrel
    have HL := Lib.hid hlt
    clear hlt
    rcases Nat.lt_or_ge j L with hjd | hjd
    · obtain ⟨z, hz⟩ : ∃ z, D[j]? = some z := ⟨_, List.getElem?_eq_getElem (by rw [← HLn.out]; exact hjd)⟩
      obtain ⟨kc, rfl, hcz⟩ := HD.out j z hz
      have g1 : (j : Int) < (L : Int) := by omega
      have HZ := Lib.hid hz
      clear hz
      by_cases he : z = m
      · subst he
        have HC := Lib.hid (HF.out j HZ.out HL.out)
        go_wp2_with (first | (go_at_call 102; refine HC.out.mono ?_; rintro e w1 ⟨rfl, hR⟩))
        go_returns
        exact ⟨rfl, hR⟩
      · have g2 : (z != m) = true := by simpa using he
        go_wp2
        go_roundg (L - (j + 1))
        case rel => exact ⟨j + 1, by omega, rfl, by go_num, fun i hi => by
          rcases Nat.lt_or_ge i j with q | q
          · exact HL.out i q
          · rw [show i = j by omega, HZ.out]; simpa using he, rfl⟩
        case measure => omega
    · have g1 : ¬ (j : Int) < (L : Int) := by omega
      have hjl : j = L := by omega
      subst hjl
      have hnm : m ∉ D := fun hm => by
        obtain ⟨i, hi⟩ := List.getElem?_of_mem hm
        exact HL.out i (by rw [HLn.out]; exact (List.getElem?_eq_some_iff.1 hi).1) hi
      obtain ⟨b1, n1, c1, w1, hrun, ⟨u, hu⟩, hfz, hcall⟩ := HN.out hnm
      rw [← HLn.out] at hrun hcall
      have HR := Lib.hid hrun
      have HC := Lib.hid hcall
      clear hrun hcall hnm
      go_wp2_with (first | (at_builtin; refine wpList_appR rfl (.tmp 42) (.tmp 44) 27 rfl HR.out ?_) | (go_at_call 102; refine HC.out.mono ?_; rintro e w1 ⟨rfl, hR⟩))
      go_returns
      exact ⟨rfl, hR⟩
theorem con_w {w : World} {g n c i : Nat} {vf vl : Value} {a0 : Int} (hn : n ≤ 70000) (hi : i < n) (hg : g < w.heap.size) (d0 : w.cell? ⟨g, i, none⟩ = some (.int .i64 a0)) :
    Calls Tryz.prog 165 #[.agg #[vf, .slice (some ⟨g, 0, none⟩) n c, vl], .int .i64 i] w fun e w' => e = .returned (.int .i64 a0) ∧ Below w.heap.size w w' := by
  have g1 : decide ((n : Int) ≤ (i : Int)) = false := by simp; omega
  have g2 : (i : Int) < (n : Int) := by omega
  go_enter Tryz.func165, Tryz.ntmps165
  go_wp2
  go_returns
  exact ⟨rfl, (Below.refl _ _).alloc (Nat.le_refl _) _⟩
end Sm
end Go.Proofs.YtjmifcnfnihhnaaGreatDoor
/- SUMMED: the pool's hooks are sound: emitter.number, Code.Constant. -/
set_option linter.unusedVariables false
set_option linter.unusedSimpArgs false
namespace Go.Proofs.YtjmifcnfnihhnaaGreatDoor
namespace Sm
open Ev Go.RowKit
theorem scEq_eq {a b : Sc} (h : scEq a b = true) : a = b := by
  unfold scEq at h
  split at h
  · rw [ieq_eq] at h; rw [eq_of_beq h]
  · rw [Nat.eq_of_beq_eq_true h]
  · cases h
theorem loc0 : HkLoc T0 := fun f args m h => by cases h
theorem locT (v : AV) : Ev.Loc (retT v) := by
  unfold retT
  split
  · exact loc_ret _
  · exact loc_no _
theorem loc_cset {j : Nat} {x : Sc} {t : Cl} {K : Cl → M AV} (hK : ∀ t, Ev.Loc (K t)) : Ev.Loc (t.set j x K) := by rw [Cl.set_K]; exact hK _
theorem loc_numG (pq : Nat → Option Sc) (eb : Nat) (B : Bk) (i : Nat) (n : Sc) (reg : Int) : Ev.Loc (numG pq eb B i n reg) :=
  loc_optm fun x => loc_iff (loc_fresh fun id => loc_cset fun t => loc_put (loc_bnd (loc_fn loc0 _ _ _) locT)) (loc_no _)
theorem loc_num {pq : Nat → Option Sc} {args : List AV} {m : M AV} (h : hNum pq args = some m) : Ev.Loc m := by
  unfold hNum at h
  split at h
  · cases h
    refine loc_iff (loc_look fun B => loc_iff ?_ (loc_no _)) (loc_no _)
    split
    · exact loc_numG _ _ _ _ _ _
    · exact loc_iff (loc_no _) (loc_look fun C => loc_optm fun j => loc_iff (loc_put (loc_numG _ _ _ _ _ _)) (loc_no _))
    · exact loc_no _
  · cases h
theorem loc_con {pq : Nat → Option Sc} {args : List AV} {m : M AV} (h : hCon pq args = some m) : Ev.Loc m := by
  unfold hCon at h
  split at h
  · cases h
    exact loc_iff (loc_iff (loc_iff (loc_look fun C => loc_optm fun i => loc_iff (loc_optm fun x => loc_retC _) (loc_no _)) (loc_no _)) (loc_no _)) (loc_no _)
  · cases h
/-- what the i-th number and its place are -/
structure Pq (env : Nat → Value) (pq : Nat → Option Sc) : Prop where
  num : ∀ i x, pq i = some x → ∃ z, env (3000 + i) = .int .i64 z ∧ ∀ ρ, VS env ρ x (.int .i64 z)
  pos : ∀ i x, pq i = some x → env (4000 + i) = .int .i64 (((ddI env (i + 1)).idxOf (pI env i) : Nat) : Int)
  few : ∀ i x, pq i = some x → i < 900
theorem fnNum : FnOk Tryz.prog 156 := ⟨_, Tryz.func156, by kernel_rfl, by kernel_rfl⟩
theorem fnCon : FnOk Tryz.prog 165 := ⟨_, Tryz.func165, by kernel_rfl, by kernel_rfl⟩
theorem tInt1 : isK T0 27 1 = true := by kernel_rfl
theorem tInt2 : ezB T0 27 = true := by kernel_rfl
theorem tInt3 : ezT T0 27 = 1 := by kernel_rfl
theorem tInt4 : limT T0 (elT T0 27) = 100000 := by kernel_rfl
theorem tInt5 : Tryz.prog.underlying 27 = some (.slice 3) := by kernel_rfl
section
variable {env : Nat → Value} {N : Gs} {pq : Nat → Option Sc}
theorem idx_first {D : List Int} {m : Int} {p : Nat} (h1 : D[p]? = some m) (h2 : ∀ j : Nat, j < p → D[j]? ≠ some m) : D.idxOf m = p := by
  induction D generalizing p with
  | nil => cases h1
  | cons a D ih =>
    cases p with
    | zero => cases h1; simp
    | succ p =>
      have ha : a ≠ m := fun e => h2 0 (by omega) (by rw [e]; rfl)
      rw [List.idxOf_cons, show (a == m) = false by simpa using ha]
      have := ih (p := p) h1 (fun j hj => h2 (j + 1) (by omega))
      rw [this]
      rfl
theorem num_core (hn : EnvOk env) (hS : SimC T0 env N (evF T0 9)) (hQ : Pq env pq) {s s2 : St} {eb i : Nat} {n : Sc} {reg : Int} {v : AV} {s' : St} {ρ : Rh} {w : World} {k z : Nat} {u : Value} (h8 : 8 ≤ eb) (h3 : 3 < (get5 eb s.h).n) (hc : PoolH s.h ((get5 eb s.h).t.get 3) i) (hbn : ∀ b j, (get5 eb s.h).t.get 3 = .ps b j → eb ≠ b) (hs2 : s2.h = killC s.h ((get5 eb s.h).t.get 3)) (hn2 : s2.nx = s.nx)
    (h : numG pq eb (get5 eb s.h) i n reg s2 = .ok v s') (hsx : s.nx ≤ 32768) (hG : Gl N ρ s.h w) (hk : ρ eb = some (k, z)) (hu : VS env ρ n u) (hr : HR env ρ s.h w) (hf : Free ρ s.nx s'.nx) :
    Calls Tryz.prog 156 #[.pointer (some ⟨k, 0, none⟩), u, .int .i64 reg] w fun e w' => ∃ v' ρ', e = .returned v' ∧ VA env ρ' v v' ∧ Post env ρ s.h s.nx w ρ' s'.h s'.nx w' := by
  obtain ⟨x, hx, ha⟩ := optm_ok h
  obtain ⟨he, hb⟩ := iff_no ha
  have he := scEq_eq he
  clear h ha
  subst he
  obtain ⟨hx2, hd⟩ := fresh_ok hb
  rw [Cl.set_K] at hd
  obtain ⟨_, hg⟩ := put_ok hd
  obtain ⟨v1, s5, h5, h6⟩ := bnd_ok hg
  have hv1 : v1 = .tp [] ∧ v = .tp [] ∧ s5 = s' := by
    unfold retT at h6
    split at h6
    · cases h6; exact ⟨rfl, rfl, rfl⟩
    · exact no_ok h6
  obtain ⟨rfl, rfl, rfl⟩ := hv1
  clear hb hd hg h6
  obtain ⟨m, hm, hvm⟩ := hQ.num i n hx
  have hpi : pI env i = m := by unfold pI; rw [hm]; rfl
  have hum : u = .int .i64 m := by
    have h1 := hvm ρ
    cases n with
    | i k n => have h1 : Value.int .i64 m = .int k n := h1; have hu : u = .int k n := hu; rw [hu, h1]
    | y j => have h1 : Value.int .i64 m = env j := h1; have hu : u = env j := hu; rw [hu, h1]
    | p b o => obtain ⟨_, _, _, e⟩ := h1; cases e
    | sl b o l q => obtain ⟨_, _, _, _, e, _⟩ := h1; cases e
    | ps b o => obtain ⟨_, _, _, _, e, _⟩ := h1; cases e
    | s l => obtain ⟨_, e, _⟩ := h1; cases e
    | se => obtain ⟨_, _, e⟩ := h1; cases e
    | b x => cases h1
    | pn => cases h1
    | sn => cases h1
  subst hum
  obtain ⟨hlv, arr, ty, lo, hi, hz, g1, g2, g3, g4, g5⟩ := hr.get hk (by omega)
  have g2 : lo = hi ∨ arr.size ≤ lo := g2.resolve_left (by omega)
  obtain ⟨vc, ha3, hvc⟩ := g5 3 h3
  generalize hcc : (get5 eb s.h).t.get 3 = c at hc hbn hs2 hvc
  obtain ⟨base, cap, rfl, hD⟩ := pool_at hr hc hvc
  have hke := hr.lt hlv hk
  rw [hn2] at hx2
  have hf0 : ρ s.nx = none := by
    have := (loc_fn loc0 _ _ _ _ _ _ h5 (by show s2.nx + 1 ≤ 32768; omega))
    obtain ⟨_, _, q1, _⟩ := this
    have q1 : s2.nx + 1 ≤ s5.nx := q1
    exact hf s.nx (Nat.le_refl _) (by omega)
  have hnx5 : s.nx + 1 ≤ s5.nx := by
    obtain ⟨_, _, q1, _⟩ := (loc_fn loc0 _ _ _ _ _ _ h5 (by show s2.nx + 1 ≤ 32768; omega))
    have q1 : s2.nx + 1 ≤ s5.nx := q1
    omega
  have hen : eb ≠ s.nx := fun e => by rw [e, hf0] at hk; cases hk
  have hlt := hlv.1
  have hkc : get5 eb (killC s.h c) = get5 eb s.h := by
    unfold killC
    split
    · rename_i b j
      rcases hc with ⟨e, _⟩ | ⟨b', e, hb8, hbl, hbp⟩
      · cases e
      · cases e
        have hb' : b < 32768 := by
          obtain ⟨_, _, _, e, _⟩ := hvc
          exact hr.dom _ _ e
        rw [get_hset hlt hb', if_neg (hbn b i rfl)]
    · rfl
  have hge : get5 eb (hset (killC s.h c) s.nx ⟨0, .pl (i + 1)⟩) = get5 eb s.h := by rw [get_hset hlt hx2, if_neg hen, hkc]
  have hlen := dd_len (env := env) i
  have hif := hQ.few i n hx
  have hXp := hQ.pos i n hx
  -- the line, from where the pool has grown
  have fin : ∀ {ρ1 : Rh} {w0 w1 w2 : World} {vc' : Value} {p : Nat}, Post env ρ s.h s.nx w ρ s.h s.nx w0 → Post env ρ s.h s.nx w0 ρ1 (hset (killC s.h c) s.nx ⟨0, .pl (i + 1)⟩) (s.nx + 1) w1 → VS env ρ1 (.ps s.nx (i + 1)) vc' → ((w2 = w1 ∧ w1.cell? ⟨k, 3, none⟩ = some vc') ∨ w2 = w1.setCell ⟨k, 3, none⟩ vc') → (ddI env (i + 1)).idxOf m = p →
      Calls Tryz.prog 102 #[.pointer (some ⟨k, 0, none⟩), lnA reg p] w2 fun e w' => e = .returned (.tuple #[]) ∧ ∃ ρ', Post env ρ s.h s.nx w ρ' s5.h s5.nx w' := by
    intro ρ1 w0 w1 w2 vc' p hP0 hP1 hv1 hw hp
    have hk1 : ρ1 eb = some (k, z) := hP1.ext _ _ hk
    have hlv1 : Live (hset (killC s.h c) s.nx ⟨0, .pl (i + 1)⟩) eb := ⟨hlt, by rw [hge]; exact hlv.2⟩
    have hP2 := Post.cell hP1.hr (s.nx + 1) h8 hlv1 hk1 (j := 3) (by rw [hge]; exact h3) hv1 hw
    rw [hge] at hP2
    have hP := (hP0.trans hP1 (Nat.le_refl _) (Nat.le_succ _)).trans hP2 (Nat.le_succ _) (Nat.le_refl _)
    have hst : hset (hset s2.h s2.nx ⟨0, .pl (i + 1)⟩) eb ⟨(get5 eb s.h).n, (get5 eb s.h).t.set 3 (.ps s2.nx (i + 1)) id⟩ = hset (hset (killC s.h c) s.nx ⟨0, .pl (i + 1)⟩) eb ⟨(get5 eb s.h).n, (get5 eb s.h).t.set 3 (.ps s.nx (i + 1)) id⟩ := by rw [hs2, hn2]
    have hcl := (hS _ _ _ _ _ ρ1 w2 [.pointer (some ⟨k, 0, none⟩), lnA reg p] h5 (by show s2.nx + 1 ≤ 32768; omega) (by show Gl N ρ1 (hset (hset s2.h s2.nx ⟨0, .pl (i + 1)⟩) eb _) w2; rw [hst]; exact hG.step hP) (.cons ⟨k, z, hk1, rfl⟩ (.cons ⟨_, rfl, .cons rfl (.cons rfl (.cons (by show Value.int .i64 p = env (4000 + i); rw [hXp, hpi, hp]) (.cons rfl (.cons rfl .nil))))⟩ .nil)) (by show HR env ρ1 (hset (hset s2.h s2.nx ⟨0, .pl (i + 1)⟩) eb _) w2; rw [hst]; exact hP.hr) (by show Free ρ1 (s2.nx + 1) s5.nx; rw [hn2]; exact Free.step hP hf (Nat.le_succ _) hnx5)).2
    refine hcl.mono ?_
    rintro e w' ⟨v', ρ', rfl, hv', hP3⟩
    obtain ⟨ar, rfl, hal⟩ := hv'
    have har : ar = #[] := by
      have := hal.len
      exact Array.eq_empty_of_size_eq_zero (by rw [← Array.length_toList]; exact this.symm)
    subst har
    have hP3 : Post env ρ1 (hset (hset s2.h s2.nx ⟨0, .pl (i + 1)⟩) eb ⟨(get5 eb s.h).n, (get5 eb s.h).t.set 3 (.ps s2.nx (i + 1)) id⟩) (s2.nx + 1) w2 ρ' s5.h s5.nx w' := hP3
    rw [hst, hn2] at hP3
    exact ⟨rfl, ρ', hP.trans hP3 (Nat.le_succ _) hnx5⟩
  have hcell3 : w.cell? ⟨k, 3, none⟩ = some (.slice base (ddI env i).length cap) := by rw [cell_of g1]; exact ha3
  refine (number_w (R := fun w' => ∃ ρ', Post env ρ s.h s.nx w ρ' s5.h s5.nx w') hke hcell3 (fun j z hz => by obtain ⟨kc, q1, _, q2⟩ := hD j z hz; exact ⟨kc, q1, q2⟩) (by omega) (fun p hp1 hp2 => ?_) (fun hnm => ?_)).mono ?_
  · have hmem : pI env i ∈ ddI env i := by rw [hpi]; exact List.mem_of_getElem? hp1
    obtain ⟨ρ1, hv1, hP1⟩ := pool_old hr hx2 hf0 hc hvc hmem
    exact fin (Post.refl hr _) hP1 hv1 (.inl ⟨rfl, hcell3⟩) (by rw [dd_old hmem]; exact idx_first hp1 hp2)
  · have hnm' : pI env i ∉ ddI env i := by rw [hpi]; exact hnm
    have hP0 := Post.idle (w' := w.alloc (.cells #[.int .i64 m] 3)) hr s.nx (fun j hj => ((Below.refl w.heap.size w).alloc (Nat.le_refl _) _).block j hj) ((Below.refl 0 w).alloc (Nat.zero_le _) _)
    have hsrc : Src Tryz.prog 1 27 (.slice (some ⟨w.heap.size, 0, none⟩) 1 1) 1 [.int .i64 (pI env i)] (w.alloc (.cells #[.int .i64 m] 3)) := by
      have hce : ∀ w' : World, w'.heap = (w.alloc (.cells #[.int .i64 m] 3)).heap → ∀ j u, [Value.int .i64 (pI env i)][j]? = some u → w'.cell? ((⟨w.heap.size, 0, none⟩ : Addr).add j) = some u := fun w' hw j u hu => by
        have := cells_new w [.int .i64 (pI env i)] 3 w.heap.size rfl j u hu
        rw [hpi] at this
        unfold World.cell? at this ⊢
        rw [hw]
        exact this
      refine ⟨.inl ⟨_, tInt5⟩, fun _ => rfl, ?_, ?_, rfl, fun u hu => ?_⟩
      · exact run_firstCells_some _ 1 1 _ 1 1 _ rfl (hce _ rfl)
      · exact run_firstCells_some _ 1 1 _ 1 1 _ rfl (hce _ rfl)
      · rw [List.mem_singleton] at hu; rw [hu]; rfl
    obtain ⟨b1, n1, c1, ρ1, w1, q1, q2, q3⟩ := pool_new (T := T0) (ty := 27) hn hP0.hr hx2 hf0 tInt1 tInt2 tInt3 (by rw [tInt4]; omega) hc hvc hnm' hsrc
    obtain ⟨_, arr1, ty1, lo1, hi1, _, p1, p2, p3, _, p5⟩ := q3.hr.get (q3.ext _ _ hk) (by rw [hge]; omega)
    rw [hge] at p3
    refine ⟨b1, n1, c1, w1, q1, ⟨_, by rw [cell_of p1]; exact Array.getElem?_eq_getElem (by omega)⟩, frozen_of p1 (p2.resolve_left (by omega)) (by omega), ?_⟩
    refine fin hP0 q3 q2 (.inr rfl) ?_
    rw [dd_new hnm', hpi, List.idxOf_append, if_neg hnm]
    simp
  · rintro e w' ⟨rfl, ρ', hP⟩
    exact ⟨.tuple #[], ρ', rfl, ⟨#[], rfl, .nil⟩, hP⟩
theorem num_sim (hn : EnvOk env) (hS : SimC T0 env N (evF T0 9)) (hQ : Pq env pq) {args : List AV} {m : M AV} (hm : hNum pq args = some m) : ∀ s v s' (ρ : Rh) w (us : List Value), m s = .ok v s' → s.nx ≤ 32768 → Gl N ρ s.h w → All2 (VA env ρ) args us → HR env ρ s.h w → Free ρ s.nx s'.nx →
    FnOk Tryz.prog 156 ∧ Calls Tryz.prog 156 us.toArray w fun e w' => ∃ v' ρ', e = .returned v' ∧ VA env ρ' v v' ∧ Post env ρ s.h s.nx w ρ' s'.h s'.nx w' := by
  intro s v s' ρ w us h hsx hG ha hr hf
  refine ⟨fnNum, ?_⟩
  unfold hNum at hm
  split at hm
  · rename_i eb n reg
    cases hm
    cases ha with
    | cons h1 ha =>
      cases ha with
      | cons h2 ha =>
        cases ha with
        | cons h3 ha =>
          cases ha
          obtain ⟨k, z, hk, rfl⟩ := h1
          have h3 : _ = Value.int .i64 reg := h3
          subst h3
          obtain ⟨h8, hb⟩ := iff_no h
          have h8 : 8 ≤ eb := ble_t h8
          obtain ⟨s1, e1, e2, hc⟩ := look_same hb
          obtain ⟨h4, hd⟩ := iff_no hc
          have h4 : 3 < (get5 eb s.h).n := blt_t h4
          clear h hb hc
          generalize hq : (get5 eb s.h).t.get 3 = c at hd
          cases c with
          | sn =>
            exact num_core hn hS hQ (s2 := s1) h8 h4 (.inl ⟨hq, rfl⟩) (fun b j e => by rw [hq] at e; cases e) (by rw [hq]; exact e1) e2 hd hsx hG hk h2 hr hf
          | ps b i =>
            rcases iff_ok hd with ⟨_, q⟩ | ⟨hne, hd1⟩
            · exact no_ok q
            have hne : eb ≠ b := fun e => by rw [e, Nat.beq_refl] at hne; cases hne
            obtain ⟨s2, e3, e4, he⟩ := look_same hd1
            obtain ⟨j, hj, he1⟩ := optm_ok he
            obtain ⟨hij, he2⟩ := iff_no he1
            have hij : i = j := Nat.eq_of_beq_eq_true hij
            subst hij
            obtain ⟨hb8, he3⟩ := put_ok he2
            rw [e1] at hj e3
            have hroom : 0 < (get5 b s.h).t.room := by
              cases ht : (get5 b s.h).t with
              | pl q => exact Nat.zero_lt_succ 7
              | _ => rw [ht] at hj; cases hj
            exact num_core hn hS hQ (s2 := ⟨hset s2.h b dead, s2.nx, s2.rd, s2.wr ||| bit b⟩) h8 h4 (.inr ⟨b, hq, hb8, hroom, hj⟩) (fun b' j' e => by rw [hq] at e; cases e; exact hne) (by show hset s2.h b dead = _; rw [hq, e3]; rfl) (e4.trans e2) he3 hsx hG hk h2 hr hf
          | _ => exact no_ok hd
  · cases hm
theorem Post.low' {ρ : Rh} {h : Hp} {w w' : World} (hr : HR env ρ h w) (n : Nat) (hb : Below w.heap.size w w') : Post env ρ h n w ρ h n w' :=
  Post.idle hr n (fun j hj => hb.block j hj) (hb.mono (Nat.zero_le _))
theorem con_sim (hQ : Pq env pq) {args : List AV} {m : M AV} (hm : hCon pq args = some m) : ∀ s v s' (ρ : Rh) w (us : List Value), m s = .ok v s' → s.nx ≤ 32768 → Gl N ρ s.h w → All2 (VA env ρ) args us → HR env ρ s.h w → Free ρ s.nx s'.nx →
    FnOk Tryz.prog 165 ∧ Calls Tryz.prog 165 us.toArray w fun e w' => ∃ v' ρ', e = .returned v' ∧ VA env ρ' v v' ∧ Post env ρ s.h s.nx w ρ' s'.h s'.nx w' := by
  intro s v s' ρ w us h hsx hG ha hr hf
  refine ⟨fnCon, ?_⟩
  unfold hCon at hm
  split at hm
  · rename_i f b i l j
    cases hm
    cases ha with
    | cons h1 ha =>
      cases ha with
      | cons h2 ha =>
        cases ha
        obtain ⟨arr, rfl, ha⟩ := h1
        have h2 : _ = env j := h2
        subst h2
        obtain ⟨c0, ha0⟩ := iff_no h
        have c0 : i ≤ 1000 := ble_t c0
        obtain ⟨c1, ha1⟩ := iff_no ha0
        obtain ⟨c2, ha2⟩ := iff_no ha1
        obtain ⟨s1, e1, e2, ha3⟩ := look_same ha2
        obtain ⟨i', hi', ha4⟩ := optm_ok ha3
        obtain ⟨c3, ha5⟩ := iff_no ha4
        obtain ⟨x, hx, ha6⟩ := optm_ok ha5
        have c1 : 4000 ≤ j := ble_t c1
        have c2 : j - 4000 < i := blt_t c2
        have c3 : i = i' := Nat.eq_of_beq_eq_true c3
        subst c3
        clear h ha0 ha1 ha2 ha3 ha4 ha5
        cases ha6
        obtain ⟨t, rfl⟩ : ∃ t, j = 4000 + t := ⟨j - 4000, by omega⟩
        rw [Nat.add_sub_cancel_left] at c2
        have hsub : Nat.sub (4000 + t) 4000 = t := Nat.add_sub_cancel_left 4000 t
        rw [hsub] at hx
        obtain ⟨l0⟩ := arr
        cases ha with
        | cons k1 ha =>
          cases ha with
          | cons k2 ha =>
            cases ha with
            | cons k3 ha =>
              cases ha
              obtain ⟨k, z, cap, e, rfl, q1, q2⟩ := k2
              have hroom : 0 < (get5 b s.h).t.room := by
                cases ht : (get5 b s.h).t with
                | pl q => exact Nat.zero_lt_succ 7
                | _ => rw [ht] at hi'; cases hi'
              have hlv : Live s.h b := ⟨hr.dom b _ e, hroom⟩
              obtain ⟨k', arr, ty, lo, hi, e', g1, _, _, _, _, g6⟩ := (hr.blk b hlv).ex
              rw [e] at e'
              cases e'
              obtain ⟨m, hm1, hm2⟩ := hQ.num t x hx
              have hpi : pI env t = m := by unfold pI; rw [hm1]; rfl
              have hpos := hQ.pos t x hx
              have hmem : ∀ q, t < q → pI env t ∈ ddI env q ∧ (ddI env q).idxOf (pI env t) = (ddI env (t + 1)).idxOf (pI env t) := by
                intro q hq
                induction q with
                | zero => omega
                | succ q ih =>
                  by_cases hqt : q = t
                  · subst hqt
                    refine ⟨?_, rfl⟩
                    by_cases hin : pI env q ∈ ddI env q
                    · rw [dd_old hin]; exact hin
                    · rw [dd_new hin]; simp
                  · obtain ⟨d1, d2⟩ := ih (by omega)
                    by_cases hin : pI env q ∈ ddI env q
                    · rw [dd_old hin]; exact ⟨d1, d2⟩
                    · rw [dd_new hin]; exact ⟨List.mem_append_left _ d1, by rw [List.idxOf_append, if_pos d1]; exact d2⟩
              obtain ⟨d1, d2⟩ := hmem i (by omega)
              have hlt := List.idxOf_lt_length_of_mem d1
              have hat : (ddI env i)[(ddI env i).idxOf (pI env t)]? = some (pI env t) := by rw [List.getElem?_eq_getElem hlt, List.getElem_idxOf]
              have hce : w.cell? ⟨k, (ddI env i).idxOf (pI env t), none⟩ = some (.int .i64 m) := by rw [cell_of g1, g6 i hi' _ _ hat, hpi]
              have hdl := dd_len (env := env) i
              rw [hpos, ← d2]
              have hi70 : (ddI env i).length ≤ 70000 := by omega
              refine (con_w (w := w) hi70 hlt (hr.lt hlv e) hce).mono ?_
              rintro e w' ⟨rfl, hb⟩
              exact ⟨_, ρ, rfl, hm2 ρ, by rw [e1, e2]; exact Post.low' hr _ hb⟩
  · cases hm
end
end Sm
end Go.Proofs.YtjmifcnfnihhnaaGreatDoor
/- SUMMED: the texts' words, and what the evaluator is asked. -/
set_option linter.unusedVariables false
namespace Go.Proofs.YtjmifcnfnihhnaaGreatDoor
namespace Sm
open Ev
noncomputable section
def wd (k : Nat) (at' : Nat) (n : Sc) (t : List Nat) : List Sc := [.i .i64 (.ofNat k), .y (Nat.add 100 at'), n, .s t]
abbrev W3 := Nat × Sc × List Nat
/-- tokens: kind, number, text -/
def toksF (l : List W3) : Nat → List Sc := @List.rec _ (fun _ => Nat → List Sc) (fun _ => []) (fun q _ ih i => wd q.1 i q.2.1 q.2.2 ++ ih (Nat.succ i)) l
def sg (k : Nat) : W3 := (k, z0, [])
def nm (c : Nat) : W3 := (2, z0, [c])
def nu (s : Sc) : W3 := (1, s, [])
def o1 : Sc := .i .i64 (.ofNat 1)
def said (neg : Bool) (s : Sc) : List W3 := bif neg then [sg 23, sg 31, nu s, sg 31, nu o1, sg 24] else [nu s]
def opK (o : Nat) : Nat := headOr (drp o [30, 31, 32, 33, 34, 27, 19, 28, 20, 29, 21]) 0
def cmpd (o : Nat) (l : List W3) : List W3 := bif Nat.ble 5 o then [sg 6] ++ l ++ [sg 7, nu o1, sg 8, nu z0] else l
def fE (o : Nat) : List W3 := cmpd o [nm 120, sg (opK o), nm 121]
/-- the text: 0 plain, 1 let rec, 2 a tuple -/
def txt (f o : Nat) (sa sb : Bool) : List W3 := match f with
  | 0 => cmpd o (said sa (.y 4) ++ [sg (opK o)] ++ said sb (.y 5))
  | 1 => [sg 3, sg 4, nm 102, nm 120, nm 121, sg 27] ++ fE o ++ [sg 5, nm 102, sg 23] ++ said sa (.y 4) ++ [sg 24, sg 23] ++ said sb (.y 5) ++ [sg 24]
  | 2 => [sg 3, sg 23, nm 120, sg 25, nm 121, sg 24, sg 27, sg 23] ++ said sa (.y 4) ++ [sg 25] ++ said sb (.y 5) ++ [sg 24, sg 5] ++ fE o
  | _ => sg 31 :: said sa (.y 4)
def stT (l : List W3) : St := set5 8 (Bk.of (toksF (l ++ [sg 0]) 0)) hp0 fun h => ⟨h, 9, 0, 0⟩
def isOk (r : R AV) : Bool := @R.rec _ (fun _ => Bool) (fun _ _ => true) (fun _ => false) r
def thenR (r : R AV) (f : AV → St → R AV) : R AV := @R.rec _ (fun _ => R AV) f (fun n => .no n) r
end
end Sm
end Go.Proofs.YtjmifcnfnihhnaaGreatDoor
/- SUMMED: the variables as they are laid; calls one behind the other. -/
set_option linter.unusedVariables false
set_option linter.unusedSimpArgs false
namespace Go.Proofs.YtjmifcnfnihhnaaGreatDoor
namespace Sm
open Ev Go.RowKit
/-- the variables as they are laid -/
structure Lw (w : World) : Prop where
  t : ∀ i x, texts[i]? = some x → ∃ v, w.cell? ⟨1, i, none⟩ = some v ∧ ∀ env ρ, VS env ρ x v
  f : ∀ i x, flds[i]? = some x → ∃ v, w.cell? ⟨0, i, none⟩ = some v ∧ ∀ env ρ, VS env ρ x v
def zOf (w : World) (g : Nat) : Nat := match w.heap[g]? with
  | some (.cells arr _ _) => arr.size
  | _ => 0
def r0 (w : World) : Rh := fun g => if g < 2 then some (g, zOf w g) else none
theorem hp0_at {i : Nat} (hi : i < 32768) : get5 i hp0 = if i = 0 then Bk.of flds else if i = 1 then Bk.of texts else dead := by
  unfold hp0
  rw [l5.2 i 0 _ _ hi (by omega), l5.2 i 1 _ _ hi (by omega), full5_get]
theorem live0 {i : Nat} : Live hp0 i ↔ i < 2 := by
  constructor
  · rintro ⟨h1, h2⟩
    rw [hp0_at h1] at h2
    by_cases e : i = 0
    · omega
    · rw [if_neg e] at h2
      by_cases e1 : i = 1
      · omega
      · rw [if_neg e1] at h2; exact absurd h2 (Nat.not_lt_zero _)
  · intro hi
    refine ⟨by omega, ?_⟩
    rw [hp0_at (by omega)]
    split
    · exact (ofC_room flds.length flds).1
    · rw [if_pos (by omega)]; exact (ofC_room texts.length texts).1
theorem blk_of {w : World} {g : Nat} {l : List Sc} {env : Nat → Value} {ρ : Rh} (hg : g < 8) (h0 : 0 < l.length) (hl : l.length ≤ 4096) (hρ : ρ g = some (g, zOf w g)) (h : ∀ i x, l[i]? = some x → ∃ v, w.cell? ⟨g, i, none⟩ = some v ∧ ∀ env ρ, VS env ρ x v) : BR env ρ (Bk.of l) g w := by
  have hb : ∃ arr ty fz, w.heap[g]? = some (.cells arr ty fz) := by
    obtain ⟨v, h1, _⟩ := h 0 _ (List.getElem?_eq_getElem h0)
    unfold World.cell? at h1
    cases hb : w.heap[g]? with
    | none => simp only [hb] at h1; cases h1
    | some B =>
      cases B with
      | cells arr ty fz => exact ⟨_, _, _, rfl⟩
      | _ => simp only [hb] at h1; cases h1
  obtain ⟨arr, ty, ⟨lo, hi⟩, hb⟩ := hb
  have hc : ∀ i x, l[i]? = some x → ∃ v, arr[i]? = some v ∧ ∀ env ρ, VS env ρ x v := fun i x hx => by
    obtain ⟨v, h1, h2⟩ := h i x hx
    rw [cell_of hb] at h1
    exact ⟨v, h1, h2⟩
  have hz : zOf w g = arr.size := by unfold zOf; rw [hb]
  have hsz : l.length ≤ arr.size := by
    obtain ⟨v, h1, _⟩ := hc (l.length - 1) _ (List.getElem?_eq_getElem (by omega))
    have := (Array.getElem?_eq_some_iff.1 h1).1
    omega
  refine ⟨g, arr, ty, lo, hi, by rw [hρ, hz], hb, .inl hg, hsz, (ofC_room _ l).2 hl, fun j hj => ?_, PlOk.no (plI_of _ l)⟩
  have hj : j < l.length := hj
  obtain ⟨v, h1, h2⟩ := hc j (l.getD j .se) (by rw [List.getD_eq_getElem?_getD, List.getElem?_eq_getElem hj]; rfl)
  refine ⟨v, h1, ?_⟩
  have e : ((Bk.of l).t.get j) = l.getD j .se := ofC_get l hj hl
  rw [e]
  exact h2 env _
theorem hr0 {env : Nat → Value} {w : World} (hw : Lw w) : HR env (r0 w) hp0 w := by
  refine ⟨fun i hl => ?_, fun i hi hd => ?_, fun i j k z z' hi hj e e' => ?_, fun i x e => ?_⟩
  · have hi := live0.1 hl
    rw [hp0_at (by omega)]
    by_cases e : i = 0
    · subst e
      rw [if_pos rfl]
      exact blk_of (by omega) (by decide) (by decide) rfl hw.f
    · have e : i = 1 := by omega
      subst e
      rw [if_neg (by omega), if_pos rfl]
      exact blk_of (by omega) (by decide) (by decide) rfl hw.t
  · rw [hp0_at hi] at hd ⊢
    split at hd
    · have := (ofC_room flds.length flds).1
      exact absurd hd (Nat.ne_of_gt this)
    · rename_i e0
      rw [if_neg e0]
      split at hd
      · have := (ofC_room texts.length texts).1
        exact absurd hd (Nat.ne_of_gt this)
      · rename_i e1
        rw [if_neg e1]; rfl
  · unfold r0 at e e'
    rw [if_pos (live0.1 hi)] at e
    rw [if_pos (live0.1 hj)] at e'
    cases e
    cases e'
    rfl
  · unfold r0 at e
    split at e
    · omega
    · cases e
theorem Lw.of {w w' : World} (h : Lw w) (e : ∀ g, g < 2 → w'.heap[g]? = w.heap[g]?) : Lw w' := by
  have key : ∀ g i v, g < 2 → w.cell? ⟨g, i, none⟩ = some v → w'.cell? ⟨g, i, none⟩ = some v := fun g i v hg hv => by
    unfold World.cell? at hv ⊢
    simp only [e g hg]
    exact hv
  exact ⟨fun i x hx => by obtain ⟨v, h1, h2⟩ := h.t i x hx; exact ⟨v, key _ _ _ (by omega) h1, h2⟩, fun i x hx => by obtain ⟨v, h1, h2⟩ := h.f i x hx; exact ⟨v, key _ _ _ (by omega) h1, h2⟩⟩
theorem Lw.size {w : World} (h : Lw w) : 2 ≤ w.heap.size := by
  obtain ⟨v, h1, _⟩ := h.t 0 _ rfl
  unfold World.cell? at h1
  rcases Nat.lt_or_ge 1 w.heap.size with q | q
  · omega
  · rw [show w.heap[(⟨1, 0, none⟩ : Addr).block]? = none from Array.getElem?_eq_none q] at h1; cases h1
theorem Lw.on {w w' : World} (h : Lw w) (hb : Below w.heap.size w w') : Lw w' := h.of fun g hg => hb.block g (by have := h.size; omega)
def Gw (w : World) : Gs := ⟨2, w, by omega⟩
theorem gl0 (w : World) : Gl (Gw w) (r0 w) hp0 w := ⟨fun g hg => ⟨zOf w g, if_pos hg⟩, fun g hg => live0.2 hg, fun _ _ => rfl⟩
theorem below0 {env : Nat → Value} {w w' : World} {ρ' : Rh} {h' : Hp} {n' : Nat} (hp : Post env (r0 w) hp0 8 w ρ' h' n' w') : Below w.heap.size w w' := by
  refine ⟨hp.low.os, hp.low.tape, hp.low.output, hp.low.size, fun k hk => ?_⟩
  by_cases e : k < 2
  · exact (hp.ro k k (zOf w k) (by omega) (live0.2 e) (if_pos e)).2
  · refine hp.keep k hk fun i z' hl e' => ?_
    have hi := live0.1 hl
    unfold r0 at e'
    rw [if_pos hi] at e'
    cases e'
    exact e hi
theorem free0 (w : World) : Free (r0 w) 8 32768 := fun i hi _ => if_neg (by omega)
set_option maxRecDepth 100000 in
theorem pr_all : (Tryz.prog.funcs.toList.all (fnOk 2)) = true := by kernel_rfl
theorem pr_mixed : Tryz.prog.follows .mixedOrders = true := by kernel_rfl
theorem pr_ok : PrOk Tryz.prog 2 := ⟨fun f fn h => List.all_eq_true.1 pr_all fn (by rw [← Array.getElem?_toList] at h; exact List.mem_of_getElem? h), pr_mixed⟩
/-- a state that was come to, and a value in it -/
structure Jx (env : Nat → Value) (w : World) (vs : List AV) (s : St) (us : List Value) (w' : World) : Prop where
  ex : ∃ ρ, All2 (VA env ρ) vs us ∧ Post env (r0 w) hp0 8 w ρ s.h s.nx w'
  lo : 8 ≤ s.nx
  hi : s.nx ≤ 32768
theorem Jx.on {env : Nat → Value} {w w' w'' : World} {vs : List AV} {s : St} {us : List Value} (h : Jx env w vs s us w') (hb : Below w'.heap.size w' w'') : Jx env w vs s us w'' := by
  obtain ⟨ρ, h1, h2⟩ := h.ex
  exact ⟨⟨ρ, h1, h2.trans (Post.low' h2.hr _ hb) h.lo (Nat.le_refl _)⟩, h.lo, h.hi⟩
theorem Jx.below {env : Nat → Value} {w w' : World} {vs : List AV} {s : St} {us : List Value} (h : Jx env w vs s us w') : Below w.heap.size w w' := by
  obtain ⟨ρ, _, h2⟩ := h.ex
  exact below0 h2
/-- a table that is sound -/
structure TOk (T : Tab) (env : Nat → Value) (w : World) : Prop where
  p : T.P = Tryz.prog
  ok : Ok T env
  hk : HkOk T env (Gw w)
theorem Jx.call {T : Tab} {env : Nat → Value} {w w' : World} {vs : List AV} {s : St} {us : List Value} (hT : TOk T env w) (h : Jx env w vs s us w') {n f : Nat} {v : AV} {s2 : St} (he : evF T n f vs s = .ok v s2) :
    Calls Tryz.prog f us.toArray w' fun e w'' => ∃ u, e = .returned u ∧ Jx env w [v] s2 [u] w'' := by
  obtain ⟨ρ, h1, h2⟩ := h.ex
  have hl := loc_fn hT.hk.loc n f vs s v s2 he h.hi
  obtain ⟨_, _, q1, q2, _⟩ := hl
  have hP : PrOk T.P (Gw w).n := by rw [hT.p]; exact pr_ok
  have hc := (fn_sim (N := Gw w) hT.ok hP hT.hk n f vs s v s2 ρ w' us he h.hi ((gl0 w).step h2) h1 h2.hr ((Free.step h2 (free0 w) h.lo h.hi).sub q2)).2
  rw [hT.p] at hc
  refine hc.mono ?_
  rintro e w'' ⟨u, ρ', rfl, hv, hp⟩
  exact ⟨u, rfl, ⟨ρ', .cons hv .nil, h2.trans hp h.lo q1⟩, Nat.le_trans h.lo q1, q2⟩
end Sm
end Go.Proofs.YtjmifcnfnihhnaaGreatDoor
/- the texts' table, as it is laid. -/
set_option linter.unusedVariables false
set_option linter.unusedSimpArgs false
namespace Go.Proofs.YtjmifcnfnihhnaaGreatDoor
namespace Sm
open Ev Go.RowKit Sl
theorem texts_eq : texts = (List.range 35).map fun k => Sc.s ((Sl.txt k).data.toList.map (·.toNat)) := by kernel_rfl
theorem Lw.tx {w : World} (h : Lw w) : TX w := fun k hk => by
  have e : texts[k]? = some (.s ((Sl.txt k).data.toList.map (·.toNat))) := by rw [texts_eq, List.getElem?_map, List.getElem?_range hk]; rfl
  obtain ⟨v, h1, h2⟩ := h.t k _ e
  rw [h1]
  obtain ⟨s, rfl, hs⟩ := h2 (fun _ => .bool true) (fun _ => none)
  rw [str_inj hs]
end Sm
end Go.Proofs.YtjmifcnfnihhnaaGreatDoor
/- LOOPED: what is not known: numbers of the texts, places, the pool, and what a machine makes of them. -/
set_option linter.unusedVariables false
set_option linter.unusedSimpArgs false
namespace Go.Proofs.YtjmifcnfnihhnaaGreatDoor
namespace Lo
open Ev Go.RowKit Sm
/-- a number of 64 bits -/
abbrev i6 (n : Int) : Int := IntKind.i64.wrap n
def ddP (pn : Nat → Int) : Nat → List Int
  | 0 => []
  | i + 1 => if pn i ∈ ddP pn i then ddP pn i else ddP pn i ++ [pn i]
/-- what is made of numbers: an operation's number, and its parts -/
abbrev Df := Nat × Sc × Sc
def opI (k : Nat) (x y : Int) : Int := match k with
  | 0 => i6 (x + y)
  | 1 => i6 (x - y)
  | 2 => i6 (x * y)
  | 3 => i6 (x.tdiv y)
  | 4 => x.tmod y
  | 5 => i6 (x * 2)
  | 6 => x.fdiv 2
  | _ => i6 (0 - x)
def scV (b : Nat → Int) (acc : List Int) : Sc → Int
  | .i _ n => n
  | .y j => if j < 5000 then b j else acc.getD (j - 5000) 0
  | _ => 0
def dvals (b : Nat → Int) : List Df → List Int → List Int
  | [], acc => acc
  | d :: l, acc => dvals b l (acc ++ [opI d.1 (scV b acc d.2.1) (scV b acc d.2.2)])
structure Pm where
  c : Value
  src : ByteArray
  cod : ByteArray
  nv : Nat → Int
  pl : Nat → Int
  pn : Nat → Int
  ds : List Df
def Pm.lo (p : Pm) (j : Nat) : Int := if j < 100 then p.nv j else if j < 3000 then p.pl (j - 100) else if j < 4000 then p.pn (j - 3000) else (((ddP p.pn (j - 4000 + 1)).idxOf (p.pn (j - 4000)) : Nat) : Int)
def Pm.dv (p : Pm) : List Int := dvals p.lo p.ds []
def Pm.v (p : Pm) (j : Nat) : Int := if j < 5000 then p.lo j else p.dv.getD (j - 5000) 0
def Pm.env (p : Pm) (j : Nat) : Value := match j with
  | 0 => p.c
  | 1 => .string p.src
  | 2 => .string p.cod
  | j => .int .i64 (p.v j)
theorem env_ok {p : Pm} (h : p.c.oneCell' = true) : EnvOk p.env := fun j => by
  unfold Pm.env
  split
  · exact h
  · rfl
  · rfl
  · rfl
theorem env_int (p : Pm) {j : Nat} (h3 : 3 ≤ j) : p.env j = .int .i64 (p.v j) := by
  unfold Pm.env
  split
  · omega
  · omega
  · omega
  · rfl
theorem v_nv (p : Pm) {i : Nat} (hi : i < 100) : p.v i = p.nv i := by
  unfold Pm.v Pm.lo
  rw [if_pos (by omega), if_pos hi]
theorem v_pl (p : Pm) {i : Nat} (hi : i < 2900) : p.v (100 + i) = p.pl i := by
  unfold Pm.v Pm.lo
  rw [if_pos (by omega), if_neg (by omega), if_pos (by omega), show 100 + i - 100 = i by omega]
theorem v_pn (p : Pm) {i : Nat} (hi : i < 1000) : p.v (3000 + i) = p.pn i := by
  unfold Pm.v Pm.lo
  rw [if_pos (by omega), if_neg (by omega), if_neg (by omega), if_pos (by omega), show 3000 + i - 3000 = i by omega]
theorem e_pn (p : Pm) {i : Nat} (hi : i < 1000) : p.env (3000 + i) = .int .i64 (p.pn i) := by rw [env_int p (by omega), v_pn p hi]
theorem e_pl (p : Pm) {i : Nat} (hi : i < 2900) : p.env (100 + i) = .int .i64 (p.pl i) := by rw [env_int p (by omega), v_pl p hi]
theorem i_pn (p : Pm) {i : Nat} (hi : i < 1000) : pI p.env i = p.pn i := by unfold pI; rw [e_pn p hi]; rfl
theorem v_pos (p : Pm) {i : Nat} (hi : i < 1000) : p.v (4000 + i) = (((ddP p.pn (i + 1)).idxOf (p.pn i) : Nat) : Int) := by
  unfold Pm.v Pm.lo
  rw [if_pos (by omega), if_neg (by omega), if_neg (by omega), if_neg (by omega), show 4000 + i - 4000 = i by omega]
theorem dd_env (p : Pm) : ∀ {i : Nat}, i ≤ 1000 → ddI p.env i = ddP p.pn i
  | 0, _ => rfl
  | i + 1, h => by
    have e : pI p.env i = p.pn i := i_pn p (by omega)
    unfold ddI ddP
    rw [dd_env p (by omega), e]
/-- the numbers of a text, in the order in which they are asked for -/
def pqL (l : List Sc) (i : Nat) : Option Sc := l[i]?
def scN (p : Pm) : Sc → Int
  | .i _ n => n
  | .y j => p.v j
  | _ => 0
def goodS (x : Sc) : Bool := match x with
  | .y j => Nat.ble 3 j
  | .i .i64 _ => true
  | _ => false
theorem good_V {p : Pm} {x : Sc} (h : goodS x = true) (ρ : Rh) : VS p.env ρ x (.int .i64 (scN p x)) := by
  unfold goodS at h
  split at h
  · rename_i j
    exact (env_int p (ble_t h)).symm
  · rfl
  · cases h
theorem good_is {p : Pm} {x : Sc} (h : goodS x = true) {ρ : Rh} {v : Value} (hv : VS p.env ρ x v) : v = .int .i64 (scN p x) := by
  unfold goodS at h
  split at h
  · rename_i j
    have hv : v = p.env j := hv
    rw [hv, env_int p (ble_t h)]; rfl
  · exact hv
  · cases h
/-- the pool's numbers are those -/
structure PqOk (p : Pm) (l : List Sc) : Prop where
  few : l.length < 900
  good : l.all goodS = true
  eq : ∀ i x, l[i]? = some x → p.pn i = scN p x
theorem pq_ok {p : Pm} {l : List Sc} (h : PqOk p l) : Pq p.env (pqL l) := by
  have hlt : ∀ i x, pqL l i = some x → i < 900 := fun i x hx => Nat.lt_trans (List.getElem?_eq_some_iff.1 hx).1 h.few
  refine ⟨fun i x hx => ?_, fun i x hx => ?_, hlt⟩
  · have hi := hlt i x hx
    refine ⟨p.pn i, e_pn p (by omega), fun ρ => ?_⟩
    have hx : l[i]? = some x := hx
    rw [h.eq i x hx]
    exact good_V (List.all_eq_true.1 h.good x (List.mem_of_getElem? hx)) ρ
  · have hi := hlt i x hx
    rw [env_int p (by omega), v_pos p (by omega), dd_env p (by omega), i_pn p (by omega)]
/-! what is made of numbers -/
def u1 : Sc := .i .u64 (.ofNat 1)
noncomputable section
def scEqu (a b : Sc) : Bool := match a, b with
  | .i .i64 m, .i .i64 n => ieq m n
  | .i .u64 m, .i .u64 n => ieq m n
  | .y i, .y j => Nat.beq i j
  | _, _ => false
def find (c : Nat) (x y : Sc) (ds : List Df) : Nat → Option Sc := @List.rec _ (fun _ => Nat → Option Sc) (fun _ => none) (fun d _ ih k => bif Nat.beq c d.1 && (scEqu x d.2.1 && scEqu y d.2.2) then some (.y k) else ih (Nat.succ k)) ds
abbrev Cm := Nat × Sc × Sc × Bool
def findC (c : Nat) (x y : Sc) (cs : List Cm) : Option Sc := @List.rec _ (fun _ => Option Sc) none (fun d _ ih => bif Nat.beq c d.1 && (scEqu x d.2.1 && scEqu y d.2.2.1) then some (.b d.2.2.2) else ih) cs
structure Rw where
  ds : List Df
  cs : List Cm
def Rw.orc (r : Rw) (op : BinOp) (x y : Sc) : Option Sc := match op with
  | .add => find 0 x y r.ds 5000
  | .sub => find 1 x y r.ds 5000
  | .mul => find 2 x y r.ds 5000
  | .quo => find 3 x y r.ds 5000
  | .rem => find 4 x y r.ds 5000
  | .shl => find 5 x y r.ds 5000
  | .shr => find 6 x y r.ds 5000
  | .eql => findC 0 x y r.cs
  | .neq => findC 1 x y r.cs
  | .lss => findC 2 x y r.cs
  | .leq => findC 3 x y r.cs
  | .gtr => findC 4 x y r.cs
  | .geq => findC 5 x y r.cs
  | _ => none
def Rw.ouc (r : Rw) (op : UnOp) (x : Sc) : Option Sc := match op with
  | .neg => find 7 x z0 r.ds 5000
  | _ => none
end
theorem scEqu_eq {a b : Sc} (h : scEqu a b = true) : a = b := by
  unfold scEqu at h
  split at h
  · rw [ieq_eq] at h; rw [eq_of_beq h]
  · rw [ieq_eq] at h; rw [eq_of_beq h]
  · rw [Nat.eq_of_beq_eq_true h]
  · cases h
theorem find_at {c : Nat} {x y r : Sc} : ∀ {ds : List Df} {k : Nat}, find c x y ds k = some r → ∃ i, ds[i]? = some (c, x, y) ∧ r = .y (k + i)
  | [], _, h => by cases h
  | d :: ds, k, h => by
    have h : (bif Nat.beq c d.1 && (scEqu x d.2.1 && scEqu y d.2.2) then some (.y k) else find c x y ds (k + 1)) = some r := h
    cases hc : (Nat.beq c d.1 && (scEqu x d.2.1 && scEqu y d.2.2)) with
    | true =>
      rw [hc] at h
      simp only [Bool.and_eq_true] at hc
      have e1 := Nat.eq_of_beq_eq_true hc.1
      have e2 := scEqu_eq hc.2.1
      have e3 := scEqu_eq hc.2.2
      cases h
      exact ⟨0, by rw [e1, e2, e3]; rfl, rfl⟩
    | false =>
      rw [hc] at h
      obtain ⟨i, h1, h2⟩ := find_at h
      exact ⟨i + 1, h1, by rw [h2]; congr 1; omega⟩
theorem findC_at {c : Nat} {x y r : Sc} : ∀ {cs : List Cm}, findC c x y cs = some r → ∃ b, (c, x, y, b) ∈ cs ∧ r = .b b
  | [], h => by cases h
  | d :: cs, h => by
    have h : (bif Nat.beq c d.1 && (scEqu x d.2.1 && scEqu y d.2.2.1) then some (.b d.2.2.2) else findC c x y cs) = some r := h
    cases hc : (Nat.beq c d.1 && (scEqu x d.2.1 && scEqu y d.2.2.1)) with
    | true =>
      rw [hc] at h
      simp only [Bool.and_eq_true] at hc
      have e1 := Nat.eq_of_beq_eq_true hc.1
      have e2 := scEqu_eq hc.2.1
      have e3 := scEqu_eq hc.2.2
      cases h
      exact ⟨d.2.2.2, by rw [e1, e2, e3]; exact List.mem_cons_self .., rfl⟩
    | false =>
      rw [hc] at h
      obtain ⟨b, h1, h2⟩ := findC_at h
      exact ⟨b, List.mem_cons_of_mem _ h1, h2⟩
/-- a part that is at hand ahead of the k-th -/
def goodP (k : Nat) (x : Sc) : Bool := match x with
  | .y j => Nat.ble 3 j && Nat.blt j (5000 + k)
  | .i .i64 _ => true
  | _ => false
noncomputable def goodF (k : Nat) (d : Df) : Bool := goodP k d.2.1 && (match d.1 with
  | 0 => goodP k d.2.2
  | 1 => goodP k d.2.2
  | 2 => goodP k d.2.2
  | 3 => match d.2.2 with
    | .i .i64 n => !ieq n 0
    | _ => false
  | 4 => match d.2.2 with
    | .i .i64 n => !ieq n 0
    | _ => false
  | 5 => scEqu d.2.2 u1
  | 6 => scEqu d.2.2 u1
  | 7 => scEqu d.2.2 z0
  | _ => false)
noncomputable def goodD : List Df → Nat → Bool
  | [], _ => true
  | d :: l, k => goodF k d && goodD l (k + 1)
theorem goodD_at : ∀ {l : List Df} {k : Nat}, goodD l k = true → ∀ i d, l[i]? = some d → goodF (k + i) d = true
  | d :: l, k, h, i, d', hi => by
    have h : (goodF k d && goodD l (k + 1)) = true := h
    rw [Bool.and_eq_true] at h
    cases i with
    | zero => cases hi; exact h.1
    | succ i =>
      have := goodD_at h.2 i d' hi
      rw [show k + (i + 1) = k + 1 + i by omega]
      exact this
theorem dvals_len (b : Nat → Int) : ∀ (l : List Df) (acc : List Int), (dvals b l acc).length = acc.length + l.length
  | [], acc => rfl
  | d :: l, acc => by
    show (dvals b l _).length = _
    rw [dvals_len b l, List.length_append, List.length_cons]
    simp
    omega
theorem dvals_old (b : Nat → Int) : ∀ (l : List Df) (acc : List Int) (i : Nat), i < acc.length → (dvals b l acc).getD i 0 = acc.getD i 0
  | [], acc, i, _ => rfl
  | d :: l, acc, i, h => by
    show (dvals b l _).getD i 0 = _
    rw [dvals_old b l _ i (by rw [List.length_append]; omega)]
    simp only [List.getD_eq_getElem?_getD]
    rw [List.getElem?_append_left h]
theorem scV_up {b : Nat → Int} {acc acc' : List Int} {x : Sc} (h : goodP acc.length x = true) (he : ∀ i, i < acc.length → acc'.getD i 0 = acc.getD i 0) : scV b acc x = scV b acc' x := by
  unfold goodP at h
  split at h
  · rename_i j
    rw [Bool.and_eq_true] at h
    have h1 := blt_t h.2
    show (if j < 5000 then b j else acc.getD (j - 5000) 0) = (if j < 5000 then b j else acc'.getD (j - 5000) 0)
    split
    · rfl
    · rw [he _ (by omega)]
  · rfl
  · cases h
theorem goodF_p {k : Nat} {d : Df} (h : goodF k d = true) : goodP k d.2.1 = true ∧ ((goodP k d.2.2 = true ∧ d.1 < 3) ∨ (∃ n : Int, d.2.2 = .i .i64 n ∧ n ≠ 0 ∧ (d.1 = 3 ∨ d.1 = 4)) ∨ (d.2.2 = u1 ∧ (d.1 = 5 ∨ d.1 = 6)) ∨ (d.2.2 = z0 ∧ d.1 = 7)) := by
  unfold goodF at h
  rw [Bool.and_eq_true] at h
  obtain ⟨h1, h2⟩ := h
  refine ⟨h1, ?_⟩
  have nz : ∀ n : Int, (!ieq n 0) = true → n ≠ 0 := fun n hn e => by rw [e] at hn; cases hn
  split at h2
  · rename_i e; exact .inl ⟨h2, by omega⟩
  · rename_i e; exact .inl ⟨h2, by omega⟩
  · rename_i e; exact .inl ⟨h2, by omega⟩
  · rename_i e
    split at h2
    · rename_i n e2; exact .inr (.inl ⟨n, e2, nz n h2, .inl e⟩)
    · cases h2
  · rename_i e
    split at h2
    · rename_i n e2; exact .inr (.inl ⟨n, e2, nz n h2, .inr e⟩)
    · cases h2
  · rename_i e; exact .inr (.inr (.inl ⟨scEqu_eq h2, .inl e⟩))
  · rename_i e; exact .inr (.inr (.inl ⟨scEqu_eq h2, .inr e⟩))
  · rename_i e; exact .inr (.inr (.inr ⟨scEqu_eq h2, e⟩))
  · cases h2
theorem scV_y {b : Nat → Int} {acc acc' : List Int} {k : Nat} (hk : k = acc.length) {d : Df} (h : goodF k d = true) (he : ∀ i, i < acc.length → acc'.getD i 0 = acc.getD i 0) : scV b acc d.2.2 = scV b acc' d.2.2 := by
  subst hk
  rcases (goodF_p h).2 with ⟨h, _⟩ | ⟨n, h, _⟩ | ⟨h, _⟩ | ⟨h, _⟩
  · exact scV_up h he
  · rw [h]; rfl
  · rw [h]; rfl
  · rw [h]; rfl
theorem dvals_at (b : Nat → Int) : ∀ (l : List Df) (acc : List Int), goodD l acc.length = true → ∀ i d, l[i]? = some d → (dvals b l acc).getD (acc.length + i) 0 = opI d.1 (scV b (dvals b l acc) d.2.1) (scV b (dvals b l acc) d.2.2)
  | d :: l, acc, h, i, d', hi => by
    have h : (goodF acc.length d && goodD l (acc.length + 1)) = true := h
    rw [Bool.and_eq_true] at h
    have hl : (acc ++ [opI d.1 (scV b acc d.2.1) (scV b acc d.2.2)]).length = acc.length + 1 := by rw [List.length_append]; rfl
    cases i with
    | zero =>
      cases hi
      have ho : ∀ i, i < acc.length → (dvals b (d :: l) acc).getD i 0 = acc.getD i 0 := fun i hi => dvals_old b (d :: l) acc i hi
      rw [← scV_up (goodF_p h.1).1 ho, ← scV_y rfl h.1 ho]
      show (dvals b l _).getD (acc.length + 0) 0 = _
      rw [dvals_old b l _ _ (by rw [hl]; omega), List.getD_eq_getElem?_getD, List.getElem?_append_right (by omega)]
      simp
    | succ i =>
      have := dvals_at b l (acc ++ [opI d.1 (scV b acc d.2.1) (scV b acc d.2.2)]) (by rw [hl]; exact h.2) i d' hi
      rw [hl] at this
      rw [show acc.length + (i + 1) = acc.length + 1 + i by omega]
      exact this
theorem scV_N (p : Pm) {x : Sc} : scV p.lo p.dv x = scN p x := by
  cases x with
  | y j => rfl
  | _ => rfl
/-- what the k-th is -/
theorem v_d {p : Pm} (h : goodD p.ds 0 = true) {i : Nat} {d : Df} (hi : p.ds[i]? = some d) : p.v (5000 + i) = opI d.1 (scN p d.2.1) (scN p d.2.2) := by
  have := dvals_at p.lo p.ds [] h i d hi
  rw [show ([] : List Int).length + i = i by simp] at this
  rw [← scV_N, ← scV_N]
  unfold Pm.v
  rw [if_neg (by omega), show 5000 + i - 5000 = i by omega]
  exact this
def cmpI (c : Nat) (x y : Int) : Bool := match c with
  | 0 => x == y
  | 1 => x != y
  | 2 => decide (x < y)
  | 3 => decide (x ≤ y)
  | 4 => decide (y < x)
  | _ => decide (y ≤ x)
/-- what is told of numbers is so -/
structure RwOk (p : Pm) (r : Rw) : Prop where
  ds : p.ds = r.ds
  good : goodD r.ds 0 = true
  cs : ∀ c x y b, (c, x, y, b) ∈ r.cs → goodS x = true ∧ goodS y = true ∧ cmpI c (scN p x) (scN p y) = b
section
variable {p : Pm} {r : Rw}
theorem goodP_S {k : Nat} {x : Sc} (h : goodP k x = true) : goodS x = true := by
  unfold goodP at h
  split at h
  · rw [Bool.and_eq_true] at h; exact h.1
  · rfl
  · cases h
theorem b_i64 (op : BinOp) (a b : Int) : bin op false (.i .i64 a) (.i .i64 b) = bI op .i64 a b := by cases op <;> rfl
theorem bin_d (h : RwOk p r) {op : BinOp} {c : Nat} (hc : (op, c) ∈ [(.add, 0), (.sub, 1), (.mul, 2), (.quo, 3), (.rem, 4), (.shl, 5), (.shr, 6)]) {x y z : Sc} (hf : find c x y r.ds 5000 = some z) {ρ : Rh} {vx vy : Value} (hx : VS p.env ρ x vx) (hy : VS p.env ρ y vy) : ∃ a y', vx = .int .i64 a ∧ VS p.env ρ y' vy ∧ bin op false (.i .i64 a) y' = some (.i .i64 (scN p z)) ∧ goodS z = true := by
  obtain ⟨i, hi, rfl⟩ := find_at hf
  have hg := goodD_at h.good i _ hi
  rw [Nat.zero_add] at hg
  obtain ⟨g1, g2⟩ := goodF_p hg
  have hv := v_d (p := p) (by rw [h.ds]; exact h.good) (i := i) (by rw [h.ds]; exact hi)
  refine ⟨scN p x, ?_⟩
  have hxx := good_is (goodP_S g1) hx
  have hz : goodS (.y (5000 + i)) = true := Nat.ble_eq_true_of_le (by omega)
  have hz2 : scN p (.y (5000 + i)) = opI c (scN p x) (scN p y) := hv
  rcases g2 with ⟨h2, h3⟩ | ⟨n, h2, h3, h4⟩ | ⟨h2, h3⟩ | ⟨h2, h3⟩
  · refine ⟨.i .i64 (scN p y), hxx, good_is (goodP_S h2) hy, ?_, hz⟩
    rw [hz2, b_i64]
    simp only [List.mem_cons, Prod.mk.injEq, List.not_mem_nil, or_false] at hc
    rcases hc with ⟨rfl, rfl⟩ | ⟨rfl, rfl⟩ | ⟨rfl, rfl⟩ | ⟨rfl, rfl⟩ | ⟨rfl, rfl⟩ | ⟨rfl, rfl⟩ | ⟨rfl, rfl⟩
    · show mkI .i64 (wr .i64 _) = _; rw [mkI_eq, wr_eq]; rfl
    · show mkI .i64 (wr .i64 _) = _; rw [mkI_eq, wr_eq]; rfl
    · show mkI .i64 (wr .i64 _) = _; rw [mkI_eq, wr_eq]; rfl
    · exact absurd h3 (by omega)
    · exact absurd h3 (by omega)
    · exact absurd h3 (by omega)
    · exact absurd h3 (by omega)
  · have h2 : y = .i .i64 n := h2
    subst h2
    refine ⟨.i .i64 n, hxx, hy, ?_, hz⟩
    have hn : ieq n 0 = false := by rw [ieq_eq]; simpa using h3
    rw [hz2, b_i64]
    simp only [List.mem_cons, Prod.mk.injEq, List.not_mem_nil, or_false] at hc
    rcases hc with ⟨rfl, rfl⟩ | ⟨rfl, rfl⟩ | ⟨rfl, rfl⟩ | ⟨rfl, rfl⟩ | ⟨rfl, rfl⟩ | ⟨rfl, rfl⟩ | ⟨rfl, rfl⟩
    · exact absurd h4 (by simp)
    · exact absurd h4 (by simp)
    · exact absurd h4 (by simp)
    · show @Bool.rec (fun _ => Option Sc) (mkI .i64 (wr .i64 ((scN p x).tdiv n))) none (ieq n 0) = _
      rw [hn]
      show mkI .i64 (wr .i64 _) = _; rw [mkI_eq, wr_eq]; rfl
    · show @Bool.rec (fun _ => Option Sc) (mkI .i64 ((scN p x).tmod n)) none (ieq n 0) = _
      rw [hn]
      show mkI .i64 _ = _; rw [mkI_eq]; rfl
    · exact absurd h4 (by simp)
    · exact absurd h4 (by simp)
  · have h2 : y = u1 := h2
    subst h2
    refine ⟨u1, hxx, hy, ?_, hz⟩
    rw [hz2]
    simp only [List.mem_cons, Prod.mk.injEq, List.not_mem_nil, or_false] at hc
    rcases hc with ⟨rfl, rfl⟩ | ⟨rfl, rfl⟩ | ⟨rfl, rfl⟩ | ⟨rfl, rfl⟩ | ⟨rfl, rfl⟩ | ⟨rfl, rfl⟩ | ⟨rfl, rfl⟩
    · exact absurd h3 (by simp)
    · exact absurd h3 (by simp)
    · exact absurd h3 (by simp)
    · exact absurd h3 (by simp)
    · exact absurd h3 (by simp)
    · show mkI .i64 (wr .i64 (scN p x * 2 ^ (min (1 : Int).toNat 64))) = _
      rw [mkI_eq, wr_eq]; rfl
    · show mkI .i64 ((scN p x).fdiv (2 ^ (min (1 : Int).toNat 64))) = _
      rw [mkI_eq]; rfl
  · exfalso
    have h3 : c = 7 := h3
    subst h3
    revert hc; simp
theorem bin_c (h : RwOk p r) {op : BinOp} {c : Nat} (hc : (op, c) ∈ [(.eql, 0), (.neq, 1), (.lss, 2), (.leq, 3), (.gtr, 4), (.geq, 5)]) {x y z : Sc} (hf : findC c x y r.cs = some z) {ρ : Rh} {vx vy : Value} (hx : VS p.env ρ x vx) (hy : VS p.env ρ y vy) : ∃ a b t, vx = .int .i64 a ∧ vy = .int .i64 b ∧ bin op false (.i .i64 a) (.i .i64 b) = some (.b t) ∧ z = .b t := by
  obtain ⟨t, ht, rfl⟩ := findC_at hf
  obtain ⟨g1, g2, g3⟩ := h.cs c x y t ht
  refine ⟨scN p x, scN p y, t, good_is g1 hx, good_is g2 hy, ?_, rfl⟩
  rw [b_i64, ← g3]
  simp only [List.mem_cons, Prod.mk.injEq, List.not_mem_nil, or_false] at hc
  rcases hc with ⟨rfl, rfl⟩ | ⟨rfl, rfl⟩ | ⟨rfl, rfl⟩ | ⟨rfl, rfl⟩ | ⟨rfl, rfl⟩ | ⟨rfl, rfl⟩
  · show mkB (ieq _ _) = _; rw [mkB_eq, ieq_eq]; rfl
  · show mkB (nt (ieq _ _)) = _; rw [mkB_eq, ieq_eq, nt_eq]; rfl
  · show mkB (nt (ile _ _)) = _; rw [mkB_eq, nt_eq, ile_eq]; congr 2; unfold cmpI; rw [Bool.eq_iff_iff]; simp
  · show mkB (ile _ _) = _; rw [mkB_eq, ile_eq]; rfl
  · show mkB (nt (ile _ _)) = _; rw [mkB_eq, nt_eq, ile_eq]; congr 2; unfold cmpI; rw [Bool.eq_iff_iff]; simp
  · show mkB (ile _ _) = _; rw [mkB_eq, ile_eq]; rfl
theorem orc_ok (h : RwOk p r) {T : Tab} (hT : T.orc = r.orc) : OrcOk T p.env := fun op x y z t xo yo ρ vx vy w e hx hy => by
  rw [hT] at e
  have fin1 : ∀ {c : Nat}, (op, c) ∈ [(BinOp.add, 0), (.sub, 1), (.mul, 2), (.quo, 3), (.rem, 4), (.shl, 5), (.shr, 6)] → find c x y r.ds 5000 = some z → ∃ vr, BinR T.P op t xo yo vx vy w = .ok vr w ∧ VS p.env ρ z vr := fun {c} hc hf => by
    obtain ⟨a, y', rfl, hy', hb, hz⟩ := bin_d h hc hf hx hy
    obtain ⟨vr, h1, h2⟩ := bin_sim (T := T) (env := p.env) (ρ := ρ) (x := .i .i64 a) (w := w) (t := t) hb (fun e => by cases e) rfl hy' xo yo
    have h2 : vr = .int .i64 (scN p z) := h2
    exact ⟨vr, h1, by rw [h2]; exact good_V hz ρ⟩
  have fin2 : ∀ {c : Nat}, (op, c) ∈ [(BinOp.eql, 0), (.neq, 1), (.lss, 2), (.leq, 3), (.gtr, 4), (.geq, 5)] → findC c x y r.cs = some z → ∃ vr, BinR T.P op t xo yo vx vy w = .ok vr w ∧ VS p.env ρ z vr := fun {c} hc hf => by
    obtain ⟨a, b, tt, rfl, rfl, hb, rfl⟩ := bin_c h hc hf hx hy
    obtain ⟨vr, h1, h2⟩ := bin_sim (T := T) (env := p.env) (ρ := ρ) (x := .i .i64 a) (y := .i .i64 b) (w := w) (t := t) hb (fun e => by cases e) rfl rfl xo yo
    exact ⟨vr, h1, h2⟩
  cases op with
  | add => exact fin1 (c := 0) (by simp) e
  | sub => exact fin1 (c := 1) (by simp) e
  | mul => exact fin1 (c := 2) (by simp) e
  | quo => exact fin1 (c := 3) (by simp) e
  | rem => exact fin1 (c := 4) (by simp) e
  | shl => exact fin1 (c := 5) (by simp) e
  | shr => exact fin1 (c := 6) (by simp) e
  | eql => exact fin2 (c := 0) (by simp) e
  | neq => exact fin2 (c := 1) (by simp) e
  | lss => exact fin2 (c := 2) (by simp) e
  | leq => exact fin2 (c := 3) (by simp) e
  | gtr => exact fin2 (c := 4) (by simp) e
  | geq => exact fin2 (c := 5) (by simp) e
  | and => cases e
  | or => cases e
  | xor => cases e
  | andNot => cases e
theorem ouc_ok (h : RwOk p r) {T : Tab} (hT : T.ouc = r.ouc) : OucOk T p.env := fun op x z ρ vx w e hx => by
  rw [hT] at e
  cases op with
  | neg =>
    obtain ⟨i, hi, rfl⟩ := find_at e
    have hg := goodD_at h.good i _ hi
    rw [Nat.zero_add] at hg
    have hxx := good_is (goodP_S (goodF_p hg).1) hx
    have hv := v_d (p := p) (by rw [h.ds]; exact h.good) (i := i) (by rw [h.ds]; exact hi)
    refine ⟨.int .i64 (i6 (0 - scN p x)), ?_, ?_⟩
    · rw [hxx]
      simp only [Op.unary, Op.intArith, Sem.run_pure] <;> exact rfl
    · show _ = p.env (5000 + i)
      rw [env_int p (by omega), hv]; rfl
  | _ => cases e
end
end Lo
end Go.Proofs.YtjmifcnfnihhnaaGreatDoor
/- LOOPED: what the evaluator is asked of a text. -/
set_option linter.unusedVariables false
namespace Go.Proofs.YtjmifcnfnihhnaaGreatDoor
namespace Lo
open Ev Sm
noncomputable section
/-- a new frame: its homes are nowhere -/
def frT : Cl := .c4 (set4 801 z0 (set4 800 z0 (full4 (.i .i64 (.negSucc 0))) id) id)
def hFrm (args : List AV) : Option (M AV) := match args with
  | [] => some (fresh ⟨802, frT⟩ fun id => retC (.p id 0))
  | _ => none
/-- are all cells numbers? -/
def isI (x : Sc) : Bool := match x with
  | .i .i64 _ => true
  | _ => false
def al8 {α : Type} (f : α → Bool) (t : N8 α) : Bool := @N8.rec α (fun _ => Bool) (fun c0 c1 c2 c3 c4 c5 c6 c7 => f c0 && (f c1 && (f c2 && (f c3 && (f c4 && (f c5 && (f c6 && f c7))))))) t
def al1 (t : N8 Sc) : Bool := al8 isI t
def al2 (t : N8 (N8 Sc)) : Bool := al8 al1 t
def al3 (t : N8 (N8 (N8 Sc))) : Bool := al8 al2 t
def al4 (t : N8 (N8 (N8 (N8 Sc)))) : Bool := al8 al3 t
def allI (c : Cl) : Bool := match c with
  | .c4 t => al4 t
  | _ => false
/-- do some of the bindings lie in the slot? bit by bit -/
def scanF (t : Cl) (slot : Int) (n : Nat) : Nat → Nat → Option Bool := @Nat.rec (fun _ => Nat → Nat → Option Bool) (fun w _ => bif Nat.beq w 0 then some false else none) (fun _ ih w i => bif Nat.beq w 0 then some false else bif Nat.beq (Nat.mod w 2) 1 then (match t.get (Nat.mul i 2) with
  | .i .i64 z => bif ieq z slot then some true else ih (Nat.div w 2) (Nat.succ i)
  | _ => none) else ih (Nat.div w 2) (Nat.succ i)) n
def u0 (x : Sc) : Bool := match x with
  | .i .u64 (.ofNat n) => Nat.beq n 0
  | _ => false
def hRds (args : List AV) : Option (M AV) := match args with
  | [.c (.p fb 0), .ag [.i .u64 (.ofNat b0), b1, b2, b3, b4, b5, b6], .c (.i .i64 slot)] => some (iff (Nat.blt b0 18446744073709551616 && (u0 b1 && (u0 b2 && (u0 b3 && (u0 b4 && (u0 b5 && u0 b6)))))) (Ev.look fb fun B => iff (Nat.ble 802 B.n && allI B.t) (optm 7 (scanF B.t slot 64 b0 0) fun b => retC (.b b)) (no 7)) (no 7))
  | _ => none
def hkE (pq : Nat → Option Sc) (f : Nat) (args : List AV) : Option (M AV) := bif Nat.beq f 156 then hNum pq args else bif Nat.beq f 53 then hFrm args else bif Nat.beq f 211 then hRds args else none
/-- words.Split, at the text -/
def hSpl (l : List W3) (args : List AV) : Option (M AV) := match args with
  | [.c (.y 1)] => some (newBlk (toksF (l ++ [sg 0]) 0) fun id => ret (.tp [.c (.sl id 0 (Nat.succ l.length) 4), .c z0, .c z0]))
  | _ => none
def hkS (l : List W3) (f : Nat) (args : List AV) : Option (M AV) := bif Nat.beq f 30 then hSpl l args else none
/-- a code: its functions' cells; its numbers: so many of the pool, or these; its lines' cells -/
structure CS where
  fl : List Sc
  ni : Nat
  cl : List Sc
  ll : List Sc
def eqL (l : List Sc) : List Sc → Bool := @List.rec Sc (fun _ => List Sc → Bool) (fun m => @List.rec Sc (fun _ => Bool) true (fun _ _ _ => false) m) (fun x _ ih m => @List.rec Sc (fun _ => Bool) false (fun y m _ => bif scEq x y then ih m else false) m) l
def rowIs (x : Sc) (sz : Nat) (l : List Sc) (K : M AV) : M AV := match x with
  | .sl b off len z => iff (Nat.beq off 0) (iff (Nat.beq z sz) (iff (Nat.beq (Nat.mul len sz) l.length) (Ev.look b fun B => iff (Nat.ble l.length B.n) (iff (eqL (cellsF B.t l.length 0) l) K (no 7)) (no 7)) (no 7)) (no 7)) (no 7)
  | .sn => iff (Nat.beq l.length 0) K (no 7)
  | _ => no 7
def conIs (cs : CS) (x : Sc) (K : M AV) : M AV := match cs.ni with
  | 0 => rowIs x 1 cs.cl K
  | n + 1 => match x with
    | .ps b i => iff (Nat.beq i (n + 1)) (Ev.look b fun C => optm 7 (plI C.t) fun j => iff (Nat.beq j (n + 1)) K (no 7)) (no 7)
    | _ => no 7
/-- Code.Bytes, at the code -/
def hByt (cs : CS) (args : List AV) : Option (M AV) := match args with
  | [.ag [f, c, l]] => some (rowIs f 4 cs.fl (conIs cs c (rowIs l 5 cs.ll (retC (.y 2)))))
  | _ => none
def conMk (cs : CS) (K : Sc → M AV) : M AV := match cs.ni with
  | 0 => match cs.cl with
    | [] => K .se
    | x :: l => newBlk (x :: l) fun b => K (.sl b 0 (Nat.succ l.length) 1)
  | n + 1 => fresh ⟨0, .pl (n + 1)⟩ fun b => K (.ps b (n + 1))
/-- code.Read, at its bytes -/
def hRea (cs : CS) (args : List AV) : Option (M AV) := match args with
  | [.c (.y 2)] => some (newBlk cs.fl fun a => conMk cs fun c => newBlk cs.ll fun b => ret (.tp [.ag [.sl a 0 (Nat.div cs.fl.length 4) 4, c, .sl b 0 (Nat.div cs.ll.length 5) 5], .c z0, .c z0]))
  | _ => none
def isSl (x : Sc) : Bool := match x with
  | .sl _ _ _ _ => true
  | .ps _ _ => true
  | .sn => true
  | .se => true
  | _ => false
/-- spot.fits: a constant that there is -/
def hFit (args : List AV) : Option (M AV) := match args with
  | [.ag [f, .ps b i, l, a, c, d], .c (.i .u8 (.ofNat 107)), .c (.y j)] => some (iff (isSl f && (isSl l && (goodS a && (goodS c && goodS d)))) (iff (Nat.ble i 900) (iff (Nat.ble 4000 j) (iff (Nat.blt (Nat.sub j 4000) i) (retC (.b true)) (no 7)) (no 7)) (no 7)) (no 7))
  | _ => none
def hkC (cs : CS) (f : Nat) (args : List AV) : Option (M AV) := bif Nat.beq f 25 then hByt cs args else bif Nat.beq f 26 then hRea cs args else bif Nat.beq f 118 then hFit args else none
/-- Run.register, Run.setRegister, heap.hold of a number, Run.slot, Run.setSlot of numbers -/
def retA (l : List Sc) : M AV := ret (.ag l)
def isN (a b : Sc) : Bool := match a with
  | .b _ => goodS b
  | _ => false
def hReg (args : List AV) : Option (M AV) := match args with
  | [.c (.p rb 0), .c (.i .i64 (.ofNat n))] => some (iff (Nat.blt n 8) (Ev.look rb fun B => iff (Nat.ble 22 B.n && isN (B.t.get (Nat.add 6 (Nat.mul n 2))) (B.t.get (Nat.add 7 (Nat.mul n 2)))) (retA [B.t.get (Nat.add 6 (Nat.mul n 2)), B.t.get (Nat.add 7 (Nat.mul n 2))]) (no 7)) (no 7))
  | _ => none
/-- two cells of a block -/
def put2 (rb a : Nat) (x y : Sc) (B : Bk) : M AV := B.t.set a x fun t => Ev.put rb ⟨B.n, t⟩ (Ev.look rb fun B1 => B1.t.set (Nat.succ a) y fun t => Ev.put rb ⟨B1.n, t⟩ (ret (.tp [])))
def hSRg (args : List AV) : Option (M AV) := match args with
  | [.c (.p rb 0), .c (.i .i64 (.ofNat n)), .ag [x, y]] => some (iff (Nat.blt n 8 && (Nat.ble 8 rb && isN x y)) (Ev.look rb fun B => iff (Nat.ble 22 B.n) (put2 rb (Nat.add 6 (Nat.mul n 2)) x y B) (no 7)) (no 7))
  | _ => none
def hHld (args : List AV) : Option (M AV) := match args with
  | [.c (.p b o), .ag [.b false, y], .c (.i .i64 d)] => some (iff (goodS y) (ret (.tp [])) (no 7))
  | _ => none
/-- the last frame's slots -/
def slsK (rb : Nat) (K : Nat → Nat → M AV) : M AV := Ev.look rb fun B => iff (Nat.blt 22 B.n) (match B.t.get 22 with
  | .sl fb o1 n1 z1 => iff (Nat.beq o1 0 && (Nat.beq z1 2 && (Nat.ble 1 n1 && Nat.ble n1 1001))) (Ev.look fb fun F => iff (Nat.ble (Nat.mul n1 2) F.n) (match F.t.get (Nat.pred (Nat.mul n1 2)) with
    | .sl sb o2 ns z2 => iff (Nat.beq o2 0 && (Nat.beq z2 2 && Nat.ble ns 2000)) (K sb ns) (no 7)
    | _ => no 7) (no 7)) (no 7)
  | _ => no 7) (no 7)
def hSlt (args : List AV) : Option (M AV) := match args with
  | [.c (.p rb 0), .c (.i .i64 (.ofNat n))] => some (slsK rb fun sb ns => iff (Nat.blt n ns) (Ev.look sb fun B => iff (Nat.ble (Nat.add (Nat.mul n 2) 2) B.n && isN (B.t.get (Nat.mul n 2)) (B.t.get (Nat.succ (Nat.mul n 2)))) (retA [B.t.get (Nat.mul n 2), B.t.get (Nat.succ (Nat.mul n 2))]) (no 7)) (no 7))
  | _ => none
def isF (x : Sc) : Bool := match x with
  | .b x => nt x
  | _ => false
def hSSl (call : Cal) (args : List AV) : Option (M AV) := match args with
  | [.c (.p rb 0), .c (.i .i64 (.ofNat n)), .ag [.b false, y]] => some (iff (goodS y) (slsK rb fun sb ns => iff (Nat.blt n ns && Nat.ble 8 sb) (Ev.look sb fun B => iff (Nat.ble (Nat.add (Nat.mul n 2) 2) B.n) (iff (isF (B.t.get (Nat.mul n 2)) && goodS (B.t.get (Nat.succ (Nat.mul n 2)))) (put2 sb (Nat.mul n 2) (.b false) y B) (call 125 [.c (.p rb 0), .c (.i .i64 (.ofNat n)), .ag [.b false, y]])) (no 7)) (no 7)) (no 7))
  | _ => none
/-- Run.reckon: a sum, a difference, a product, an equality of numbers -/
def rkC (o : Nat) (a b : Int) : Int := match o with
  | 7 => Int.add a b
  | 8 => Int.sub a b
  | 9 => Int.mul a b
  | _ => bif ieq a b then 1 else 0
def okI (v : Int) : Bool := ile (.negSucc 4611686018427387903) v && ile v (.ofNat 4611686018427387903)
def rkF (r : Rw) (o : Nat) (x y : Sc) : Option Sc := bif Nat.ble o 9 then (match find (Nat.sub o 7) x y r.ds 5000 with
  | none => none
  | some s1 => match find 5 s1 u1 r.ds 5000 with
    | none => none
    | some s2 => find 6 s2 u1 r.ds 5000) else (match findC 0 x y r.cs with
  | some (.b t) => bif t then some (.i .i64 (.ofNat 1)) else some z0
  | _ => none)
def rkV (r : Rw) (o : Nat) (x y : Sc) : Option Sc := match x with
  | .i .i64 a => (match y with
    | .i .i64 b => forceI (rkC o a b) fun v => bif okI v then some (.i .i64 v) else none
    | y => rkF r o (.i .i64 a) y)
  | x => rkF r o x y
def rkO (o : Nat) : Bool := Nat.beq o 7 || (Nat.beq o 8 || (Nat.beq o 9 || Nat.beq o 12))
def hRck (r : Rw) (call : Cal) (args : List AV) : Option (M AV) := match args with
  | [.c (.p rb 0), .ag [.i .i64 (.ofNat o), .i .i64 (.ofNat q), .i .i64 (.ofNat x), .i .i64 (.ofNat y), pl]] => some (iff (rkO o && (Nat.blt q 8 && (Nat.blt x 8 && (Nat.blt y 8 && (Nat.ble 8 rb && goodS pl))))) (Ev.look rb fun B => iff (Nat.ble 22 B.n && (isF (B.t.get (Nat.add 6 (Nat.mul x 2))) && (isF (B.t.get (Nat.add 6 (Nat.mul y 2))) && (goodS (B.t.get (Nat.add 7 (Nat.mul x 2))) && goodS (B.t.get (Nat.add 7 (Nat.mul y 2))))))) (optm 7 (rkV r o (B.t.get (Nat.add 7 (Nat.mul x 2))) (B.t.get (Nat.add 7 (Nat.mul y 2)))) fun z => put2 rb (Nat.add 6 (Nat.mul q 2)) (.b false) z B) (no 7)) (call 75 [.c (.p rb 0), .ag [.i .i64 (.ofNat o), .i .i64 (.ofNat q), .i .i64 (.ofNat x), .i .i64 (.ofNat y), pl]]))
  | _ => none
/-- Run.move of numbers -/
def mv1 (pq : Nat → Option Sc) (rb q j : Nat) : M AV := Ev.look rb fun B => iff (Nat.ble 22 B.n) (match B.t.get 1 with
  | .ps b i => iff (Nat.ble i 1000 && (Nat.ble 4000 j && Nat.blt (Nat.sub j 4000) i)) (Ev.look b fun C => optm 7 (plI C.t) fun i' => iff (Nat.beq i i') (optm 7 (pq (Nat.sub j 4000)) fun z => put2 rb (Nat.add 6 (Nat.mul q 2)) (.b false) z B) (no 7)) (no 7)
  | _ => no 7) (no 7)
def mv2 (rb q x : Nat) : M AV := iff (Nat.blt x 8) (Ev.look rb fun B => iff (Nat.ble 22 B.n && isN (B.t.get (Nat.add 6 (Nat.mul x 2))) (B.t.get (Nat.add 7 (Nat.mul x 2)))) (put2 rb (Nat.add 6 (Nat.mul q 2)) (B.t.get (Nat.add 6 (Nat.mul x 2))) (B.t.get (Nat.add 7 (Nat.mul x 2))) B) (no 7)) (no 7)
def mv3 (rb q x : Nat) : M AV := slsK rb fun sb ns => iff (Nat.blt x ns) (Ev.look sb fun S => iff (Nat.ble (Nat.add (Nat.mul x 2) 2) S.n && isN (S.t.get (Nat.mul x 2)) (S.t.get (Nat.succ (Nat.mul x 2)))) (Ev.look rb fun B => iff (Nat.ble 22 B.n) (put2 rb (Nat.add 6 (Nat.mul q 2)) (S.t.get (Nat.mul x 2)) (S.t.get (Nat.succ (Nat.mul x 2))) B) (no 7)) (no 7)) (no 7)
def mv4 (el : M AV) (rb q x : Nat) : M AV := slsK rb fun sb ns => iff (Nat.blt x ns && (Nat.ble 8 sb && nt (Nat.beq sb rb))) (Ev.look sb fun S => iff (Nat.ble (Nat.add (Nat.mul x 2) 2) S.n) (iff (isF (S.t.get (Nat.mul x 2)) && goodS (S.t.get (Nat.succ (Nat.mul x 2)))) (bnd (put2 sb (Nat.mul x 2) (.b false) z0 S) fun _ => Ev.look rb fun B => iff (Nat.ble 22 B.n) (put2 rb (Nat.add 6 (Nat.mul q 2)) (.b false) (S.t.get (Nat.succ (Nat.mul x 2))) B) (no 7)) el) (no 7)) (no 7)
def mvS (el : M AV) (rb x : Nat) (z : Sc) : M AV := slsK rb fun sb ns => iff (Nat.blt x ns && Nat.ble 8 sb) (Ev.look sb fun S => iff (Nat.ble (Nat.add (Nat.mul x 2) 2) S.n) (iff (isF (S.t.get (Nat.mul x 2)) && goodS (S.t.get (Nat.succ (Nat.mul x 2)))) (put2 sb (Nat.mul x 2) (.b false) z S) el) (no 7)) (no 7)
def mv5 (el : M AV) (rb q x : Nat) : M AV := Ev.look rb fun B => iff (Nat.ble 22 B.n) (iff (isF (B.t.get (Nat.add 6 (Nat.mul q 2))) && goodS (B.t.get (Nat.add 7 (Nat.mul q 2)))) (mvS el rb x (B.t.get (Nat.add 7 (Nat.mul q 2)))) el) (no 7)
def mvN (el : M AV) (o rb q x : Nat) : M AV := bif Nat.beq o 2 then mv2 rb q x else bif Nat.beq o 3 then mv3 rb q x else bif Nat.beq o 4 then mv4 el rb q x else bif Nat.beq o 5 then mv5 el rb q x else bif Nat.beq o 6 then mvS el rb x z0 else el
def hMve (pq : Nat → Option Sc) (call : Cal) (args : List AV) : Option (M AV) := match args with
  | [.c (.p rb 0), .ag [.i .i64 (.ofNat o), .i .i64 (.ofNat q), x, y, pl]] => some (iff (Nat.blt q 8 && (Nat.ble 8 rb && (goodS y && goodS pl))) (match x with
    | .i .i64 (.ofNat x) => mvN (call 74 [.c (.p rb 0), .ag [.i .i64 (.ofNat o), .i .i64 (.ofNat q), .i .i64 (.ofNat x), y, pl]]) o rb q x
    | .y j => iff (Nat.beq o 1) (mv1 pq rb q j) (no 7)
    | _ => no 7) (no 7))
  | _ => none
/-- which function runs a line -/
def fnO (o : Nat) : Nat := bif Nat.ble o 6 then 74 else bif Nat.ble o 16 then 75 else bif Nat.ble o 18 then 76 else bif Nat.beq o 19 || (Nat.beq o 20 || Nat.beq o 23) then 77 else bif Nat.ble o 26 then 78 else bif Nat.beq o 27 then 79 else bif Nat.beq o 28 then 80 else bif Nat.ble o 32 then 81 else 82
def stpG (call : Cal) (rb : Nat) (B : Bk) (N S o : Nat) (q x y p : Sc) : M AV := forceN (Nat.succ S) fun S' => forceN (Nat.succ N) fun N' => B.t.set 33 (.i .i64 (.ofNat S')) fun t => Ev.put rb ⟨B.n, t⟩ (Ev.look rb fun B1 => B1.t.set 5 (.i .i64 (.ofNat N')) fun t => Ev.put rb ⟨B1.n, t⟩ (bnd (call (fnO o) (bif Nat.beq o 33 then [.c (.p rb 0)] else [.c (.p rb 0), .ag [.i .i64 (.ofNat o), q, x, y, p]])) retT))
def stpL (call : Cal) (rb : Nat) (B : Bk) (N S : Nat) (L : Bk) (a : Nat) : M AV := iff (Nat.ble (Nat.add a 5) L.n) (match L.t.get a with
  | .i ko zo => iff (Nat.beq (kN ko) 3) (intN 7 zo fun o => iff (Nat.ble 1 o && (Nat.ble o 33 && (goodS (L.t.get (Nat.add a 1)) && (goodS (L.t.get (Nat.add a 2)) && (goodS (L.t.get (Nat.add a 3)) && goodS (L.t.get (Nat.add a 4))))))) (stpG call rb B N S o (L.t.get (Nat.add a 1)) (L.t.get (Nat.add a 2)) (L.t.get (Nat.add a 3)) (L.t.get (Nat.add a 4))) (no 7)) (no 7)
  | _ => no 7) (no 7)
def natK (x : Sc) (K : Nat → M AV) : M AV := match x with
  | .i k z => iff (Nat.beq (kN k) 3) (intN 7 z K) (no 7)
  | _ => no 7
/-- Run.step: the line, and what runs it -/
def hStp (call : Cal) (args : List AV) : Option (M AV) := match args with
  | [.c (.p rb 0)] => some (iff (Nat.ble 8 rb) (Ev.look rb fun B => iff (Nat.blt 33 B.n && (isSl (B.t.get 0) && isSl (B.t.get 1))) (match B.t.get 2 with
    | .sl lb o1 nl z1 => iff (Nat.beq o1 0 && Nat.beq z1 5) (natK (B.t.get 5) fun N => natK (B.t.get 33) fun S => iff (Nat.blt N nl && (Nat.ble nl 70000 && (Nat.ble S 1000000 && nt (Nat.beq lb rb)))) (Ev.look lb fun L => stpL call rb B N S L (Nat.mul N 5)) (no 7)) (no 7)
    | _ => no 7) (no 7)) (no 7))
  | _ => none
def T1 (l : List W3) : Tab := Tb (fun _ _ _ => none) (fun _ _ => none) (hkS l)
def T2 (l : List Sc) : Tab := Tb (fun _ _ _ => none) (fun _ _ => none) (hkE (pqL l))
def hkD (pq : Nat → Option Sc) (f : Nat) (args : List AV) : Option (M AV) := bif Nat.beq f 165 then hCon pq args else bif Nat.beq f 167 then hHld args else bif Nat.beq f 127 then hReg args else bif Nat.beq f 126 then hSRg args else bif Nat.beq f 166 then hSlt args else none
def T3 (l : List Sc) (r : Rw) : Tab := Tb r.orc r.ouc (hkD (pqL l))
def hkF (l : List Sc) (r : Rw) (f : Nat) (args : List AV) : Option (M AV) := bif Nat.beq f 125 then hSSl (evF (T3 l r) 150) args else bif Nat.beq f 75 then hRck r (evF (T3 l r) 150) args else bif Nat.beq f 74 then hMve (pqL l) (evF (T3 l r) 150) args else hkD (pqL l) f args
def T7 (l : List Sc) (r : Rw) : Tab := Tb r.orc r.ouc (hkF l r)
def hkG (l : List Sc) (r : Rw) (f : Nat) (args : List AV) : Option (M AV) := bif Nat.beq f 46 then hStp (evF (T7 l r) 150) args else hkF l r f args
/-- the machine, line by line -/
def T5 (l : List Sc) (r : Rw) : Tab := Tb r.orc r.ouc (hkG l r)
def T4 (cs : CS) : Tab := Tb (fun _ _ _ => none) (fun _ _ => none) (hkC cs)
/-- Compile answers at once -/
def hCmp (x : AV) (args : List AV) : Option (M AV) := match args with
  | [.c (.p _ _), .c (.y 1)] => some (ret x)
  | _ => none
def hkR (x : AV) (f : Nat) (args : List AV) : Option (M AV) := bif Nat.beq f 15 then hCmp x args else none
def T6 (x : AV) : Tab := Tb (fun _ _ _ => none) (fun _ _ => none) (hkR x)
/-- a text: its words, the numbers that it asks for, as they are asked for and as they are run, what is known of numbers, its code -/
structure Tx where
  w3 : List W3
  l : List Sc
  l2 : List Sc
  rw : Rw
  cs : CS
def callC (t : Tx) : Cal := fun f args => bif Nat.beq f 24 then evF (T5 t.l2 t.rw) 200 f args else bif Nat.beq f 22 then evF (T2 t.l) 200 f args else bif Nat.beq f 25 then evF (T4 t.cs) 200 f args else evF (T1 t.w3) 200 f args
def compR (t : Tx) : R AV := bodyF (T1 t.w3) (callC t) [.c (.y 0), .c (.y 1)] ((T1 t.w3).kp 15) Tryz.f15 ⟨hp0, 8, 0, 0⟩
def codY : AV := .tp [.c (.y 2), .c z0, .c z0]
def callR (x : AV) (t : Tx) : Cal := fun f args => bif Nat.beq f 17 then evF (T4 t.cs) 200 f args else bif Nat.beq f 18 then evF (T5 t.l2 t.rw) 200 f args else evF (T6 x) 200 f args
/-- an input -/
def hpI (l : List Sc) : Hp := match l with
  | [] => hp0
  | x :: l => set5 2 (Bk.of (x :: l)) hp0 id
def inA (l : List Sc) : Sc := match l with
  | [] => .sn
  | x :: l => .sl 2 0 (Nat.succ l.length) 1
def nI (n : Nat) : Sc := .i .i64 (.ofNat n)
def runR (x : AV) (t : Tx) (inp : List Sc) (words depth : Nat) : R AV := bodyF (T6 x) (callR x t) [.c (.y 1), .c (inA inp), .c (nI words), .c (nI depth), .c (nI 20000)] ((T6 x).kp 11) Tryz.f11 ⟨hpI inp, 8, 0, 0⟩
/-- the code comes out -/
def isY (r : R AV) : Bool := match r with
  | .ok (.tp [.c (.y 2), .c x, .c y]) _ => scEq x z0 && scEq y z0
  | _ => false
def outIs (o : Sc) (out : List Sc) (s : St) : Bool := match o with
  | .sn => Nat.beq out.length 0
  | .sl b off n z => Nat.beq off 0 && (Nat.beq z 1 && (Nat.beq n out.length && (Nat.ble 8 b && (Nat.blt b 32768 && (Nat.blt 0 out.length && (Nat.ble out.length (get5 b s.h).n && eqL (cellsF (get5 b s.h).t out.length 0) out))))))
  | _ => false
/-- so it ends -/
def isEnd (e p v : Sc) (out : List Sc) (rd : Sc) (r : R AV) : Bool := match r with
  | .ok (.tp [.ag [e', p', v', o, .i .i64 st, rd', .i .i64 gc, .i .i64 us], .c (.b true)]) s => scEq e' e && (scEq p' p && (scEq v' v && (scEq rd' rd && outIs o out s)))
  | _ => false
/-- it is refused -/
def isNo (r : R AV) : Bool := match r with
  | .ok (.tp [.ag [a, b, c, .sn, d, e, f, g], .c (.b false)]) _ => scEq a z0 && (scEq b z0 && (scEq c z0 && (scEq d z0 && (scEq e z0 && (scEq f z0 && scEq g z0)))))
  | _ => false
def rowOf (r : R AV) : Nat := match r with
  | .ok _ _ => 0
  | .no n => n
end
end Lo
end Go.Proofs.YtjmifcnfnihhnaaGreatDoor
/- LOOPED: Split, number, Constant are sound. -/
set_option linter.unusedVariables false
set_option linter.unusedSimpArgs false
namespace Go.Proofs.YtjmifcnfnihhnaaGreatDoor
namespace Lo
open Ev Go.RowKit Sl Sm
theorem hk0 {env : Nat → Value} {N : Gs} : HkOk T0 env N := ⟨loc0, fun f args m h => by cases h⟩
theorem ok0 {env : Nat → Value} (he : EnvOk env) {hk : Nat → List AV → Option (M AV)} : Ok (Tb (fun _ _ _ => none) (fun _ _ => none) hk) env :=
  ⟨he, (fun op x y r t xo yo ρ vx vy w e => by cases e), (fun op x r ρ vx w e => by cases e), (fun j b e => by cases e), (fun j r e => by cases e), (fun d j r e => by cases e), (fun j k r e => by cases e), (fun j a b r e => by cases e), (fun r x ρ us e => by cases e)⟩
theorem s9 {env : Nat → Value} (he : EnvOk env) (w : World) : SimC T0 env (Gw w) (evF T0 9) := fn_sim (T := T0) (N := Gw w) (ok0 he) pr_ok hk0 9
/-- a text's words -/
structure Tk (p : Pm) (l : List W3) (toks : List Tok) : Prop where
  sz : p.src.size ≤ 400
  lex : lex p.src (skp p.src 0) = .good toks
  len : toks.length = l.length
  tok : ∀ (i : Nat) (t : Tok) (x : W3), toks[i]? = some t → l[i]? = some x → t.k = x.1 ∧ (∀ ρ, VS p.env ρ x.2.1 (.int .i64 t.n)) ∧ (nmOf t.k t.t).data.toList.map (·.toNat) = x.2.2 ∧ p.pl i = t.p ∧ i < 800
  en : p.pl l.length = p.src.size ∧ l.length < 800
theorem toks_V {p : Pm} {ρ : Rh} : ∀ {l : List W3} {toks : List Tok} {i : Nat}, toks.length = l.length → (∀ (j : Nat) (t : Tok) (x : W3), toks[j]? = some t → l[j]? = some x → t.k = x.1 ∧ (∀ ρ, VS p.env ρ x.2.1 (.int .i64 t.n)) ∧ (nmOf t.k t.t).data.toList.map (·.toNat) = x.2.2 ∧ p.pl (i + j) = t.p ∧ i + j < 800) → All2 (VS p.env ρ) (toksF l i) (toks.flatMap Tok.cells)
  | [], [], i, _, _ => .nil
  | x :: l, t :: toks, i, hl, h => by
    obtain ⟨h1, h2, h3, h4, h5⟩ := h 0 t x rfl rfl
    show All2 (VS p.env ρ) (wd x.1 i x.2.1 x.2.2 ++ toksF l (i + 1)) (Tok.cells t ++ toks.flatMap Tok.cells)
    refine All2.app (.cons (by show Value.int .i64 _ = Value.int .i64 _; rw [h1]; rfl) (.cons ?_ (.cons (h2 ρ) (.cons ⟨_, rfl, h3⟩ .nil)))) (toks_V (by simpa using hl) fun j t' x' ht hx => ?_)
    · show Value.int .i64 (t.p : Int) = p.env (100 + i)
      rw [Nat.add_zero] at h4 h5
      rw [e_pl p (by omega), h4]
    · have := h (j + 1) t' x' ht hx
      rw [show i + 1 + j = i + (j + 1) by omega]
      exact this
  | [], _ :: _, _, h, _ => by cases h
  | _ :: _, [], _, h, _ => by cases h
theorem fnSpl : FnOk Tryz.prog 30 := ⟨_, Tryz.func30, by kernel_rfl, by kernel_rfl⟩
theorem loc_spl {l : List W3} {args : List AV} {m : M AV} (h : hSpl l args = some m) : Ev.Loc m := by
  unfold hSpl at h
  split at h
  · cases h; exact loc_newBlk fun _ => loc_ret _
  · cases h
theorem spl_sim {p : Pm} {l : List W3} {toks : List Tok} (hT : Tk p l toks) {w0 : World} (hw : Lw w0) {args : List AV} {m : M AV} (hm : hSpl l args = some m) : ∀ s v s' (ρ : Rh) w (us : List Value), m s = .ok v s' → s.nx ≤ 32768 → Gl (Gw w0) ρ s.h w → All2 (VA p.env ρ) args us → HR p.env ρ s.h w → Free ρ s.nx s'.nx →
    FnOk Tryz.prog 30 ∧ Calls Tryz.prog 30 us.toArray w fun e w' => ∃ v' ρ', e = .returned v' ∧ VA p.env ρ' v v' ∧ Post p.env ρ s.h s.nx w ρ' s'.h s'.nx w' := by
  intro s v s' ρ w us h hsx hG ha hr hf
  refine ⟨fnSpl, ?_⟩
  have hw : Lw w := hw.of fun g hg => hG.as' g hg
  unfold hSpl at hm
  split at hm
  · cases hm
    cases ha with
    | cons h1 ha =>
      cases ha
      have h1 : _ = Value.string p.src := h1
      subst h1
      obtain ⟨h8, h7, h9⟩ := newBlk_ok h
      cases h9
      have hf0 : ρ s.nx = none := hf s.nx (Nat.le_refl _) (by show s.nx < s.nx + 1; omega)
      refine (split_short p.src hT.sz w hw.tx (by have := hw.size; omega)).mono ?_
      rintro e w' ⟨v, rfl, hown, hb⟩
      rw [hT.lex] at hown ⊢
      have hown : w'.ownsRow w.heap.size _ 4 v (toks ++ [endTok p.src]).length ((toks ++ [endTok p.src]).flatMap Tok.cells) := hown
      obtain ⟨o1, o2⟩ := hown
      have hlen : (toks ++ [endTok p.src]).length = l.length + 1 := by rw [List.length_append, hT.len]; rfl
      have hV : ∀ ρ, All2 (VS p.env ρ) (toksF (l ++ [sg 0]) 0) ((toks ++ [endTok p.src]).flatMap Tok.cells) := fun ρ => by
        refine toks_V (by rw [hlen, List.length_append]; rfl) fun j t x ht hx => ?_
        rw [Nat.zero_add]
        rcases Nat.lt_or_ge j l.length with q | q
        · rw [List.getElem?_append_left (by rw [hT.len]; exact q)] at ht
          rw [List.getElem?_append_left q] at hx
          exact hT.tok j t x ht hx
        · have hj : j = l.length := by
            have := (List.getElem?_eq_some_iff.1 hx).1
            rw [List.length_append] at this
            simp at this
            omega
          subst hj
          rw [List.getElem?_append_right (by rw [hT.len]; exact Nat.le_refl _), hT.len, Nat.sub_self] at ht
          rw [List.getElem?_append_right (Nat.le_refl _), Nat.sub_self] at hx
          cases ht
          cases hx
          exact ⟨rfl, fun _ => rfl, rfl, hT.en.1, hT.en.2⟩
      rcases o2 with ⟨_, hz⟩ | ⟨g, cap, cur, rfl, hg, hgb, hc1, hc2, hc3, hc4⟩
      · rw [hlen] at hz; omega
      · rw [hlen] at hc1 hc4
        have hcl : (toksF (l ++ [sg 0]) 0).length = (l.length + 1) * 4 := by rw [(hV ρ).len, o1, hlen]
        have hP := Post.made (B := Bk.of (toksF (l ++ [sg 0]) 0)) hr h7 hf0 (ofC_room _ _).1 hgb (.inl rfl) hg (fun j hj => hb.block j hj) (hb.mono (Nat.zero_le _)) (by show (toksF (l ++ [sg 0]) 0).length ≤ cur.size; rw [hcl, hc3]; exact Nat.mul_le_mul_right _ hc1) ((ofC_room _ _).2 h8) (fun j hj => by
          have hj : j < (toksF (l ++ [sg 0]) 0).length := hj
          obtain ⟨u, q1, q2⟩ := (hV ρ).at (List.getElem?_eq_getElem hj)
          rw [← hc4, List.getElem?_take, if_pos (by omega), Array.getElem?_toList] at q1
          refine ⟨u, q1, ?_⟩
          show VS p.env ρ ((ofC _ _).get j) u
          rw [ofC_get _ hj h8, List.getD_eq_getElem?_getD, List.getElem?_eq_getElem hj]
          exact q2) (PlOk.no (plI_of _ _))
        refine ⟨_, _, rfl, ⟨_, rfl, .cons ⟨g, cur.size, cap, upR_new _ _ _, by rw [hlen], hc1, by omega⟩ (.cons rfl (.cons rfl .nil))⟩, hP⟩
  · cases hm
theorem tok1 {p : Pm} (hc : p.c.oneCell' = true) {l : List W3} {toks : List Tok} (hT : Tk p l toks) {w : World} (hw : Lw w) : TOk (T1 l) p.env w := by
  refine ⟨rfl, ok0 (env_ok hc), ⟨fun f args m h => ?_, fun f args m h => ?_⟩⟩
  · have h : hkS l f args = some m := h
    unfold hkS at h
    cases hf : Nat.beq f 30 with
    | true => rw [hf] at h; exact loc_spl h
    | false => rw [hf] at h; cases h
  · have h : hkS l f args = some m := h
    unfold hkS at h
    cases hf : Nat.beq f 30 with
    | true =>
      rw [hf] at h
      obtain rfl := Nat.eq_of_beq_eq_true hf
      exact spl_sim hT hw h
    | false => rw [hf] at h; cases h
theorem TOk.sim {T : Tab} {env : Nat → Value} {w : World} (h : TOk T env w) (n : Nat) : SimC T env (Gw w) (evF T n) := fn_sim h.ok (by rw [h.p]; exact pr_ok) h.hk n
end Lo
end Go.Proofs.YtjmifcnfnihhnaaGreatDoor
