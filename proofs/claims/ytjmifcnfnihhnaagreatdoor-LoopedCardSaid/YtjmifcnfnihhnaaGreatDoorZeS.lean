import Derived.Test.YtjmifcnfnihhnaaGreatDoorZeM
import Derived.Test.YtjmifcnfnihhnaaGreatDoorZeO
import Derived.Test.YtjmifcnfnihhnaaGreatDoorZeR
/- WALKS: answers, turned, by what run answers. -/
set_option linter.unusedVariables false
set_option linter.unusedSimpArgs false
namespace Go.Proofs.YtjmifcnfnihhnaaGreatDoor
namespace Lo
open Go.RowKit Lr
set_option maxRecDepth 100000 in
theorem begins_e (a b : Option Addr) (c d : Nat) (W : World) : Calls Tryz.prog 19 #[.slice a 0 c, .slice b 0 d] W fun e w' => e = .returned (.bool true) ∧ Below W.heap.size W w' := by
  go_enter Tryz.func19, Tryz.ntmps19
  go_wp2_with fail
  go_loopg [5] 0 (fun gh u (wr : World) => gh = 0 ∧ u = .int .i64 0 ∧ Below W.heap.size W wr)
  case atStart => exact ⟨rfl, rfl, Below.refl _ _⟩
  case round =>
    obtain ⟨hgk, rfl, hb⟩ := hrel
    have HB := Lib.hid hb
    clear hb
    go_wp2_with fail
    go_ret
    exact ⟨rfl, HB.out⟩
theorem same_e (a b : Option Addr) (c d : Nat) (w : World) : Calls Tryz.prog 13 #[.slice a 0 c, .slice b 0 d] w fun e w' => e = .returned (.bool true) ∧ Below w.heap.size w w' := by
  have CB := Lib.hid (begins_e a b c d)
  go_enter Tryz.func13, Tryz.ntmps13
  go_wp2_with (go_at_call 19; refine (CB.out _).mono ?_; rintro e w1 ⟨rfl, hb⟩)
  go_ret
  exact ⟨rfl, hb⟩
/-- it answers true -/
def Yes (f : Nat) (args : Array Value) (w : World) : Prop := Calls Tryz.prog f args w fun e w' => e = .returned (.bool true) ∧ Below w.heap.size w w'
/-- a run, in every world behind -/
def Ran (src : ByteArray) (vin : Value) (words depth : Nat) (w : World) (e q v : Int) (out : List Int) (rd : Int) : Prop := ∀ W, Below w.heap.size w W → RunIs src vin words depth W e q v out rd
theorem ans_same {w w1 : World} {g k c d m : Nat} {l : List Int} (hl : l.length ≤ 1000) (hm : l.length = m) (h1 : ∀ (j : Nat) (z : Int), l[j]? = some z → w1.cell? ⟨g, j, none⟩ = some (.int .i64 z)) (hb : Below w.heap.size w w1) (h2 : ∀ (j : Nat) (z : Int), l[j]? = some z → w.cell? ⟨k, j, none⟩ = some (.int .i64 z)) (hk : k < w.heap.size) (o : Obj) : Calls Tryz.prog 13 #[.slice (some ⟨g, 0, none⟩) l.length c, .slice (some ⟨k, 0, none⟩) m d] (w1.alloc o) fun e w' => e = .returned (.bool true) ∧ Below w.heap.size w w' := by
  subst hm
  have hA := hb.alloc hb.size o
  have hA1 := (Below.refl w1.heap.size w1).alloc (Nat.le_refl _) o
  refine (Sn.same_w hl (fun j z hz => (hA1.cell (p := ⟨g, j, none⟩) (Sn.cell_lt (h1 j z hz))).trans (h1 j z hz)) (fun j z hz => (hA.cell (p := ⟨k, j, none⟩) hk).trans (h2 j z hz))).mono ?_
  rintro e w' ⟨rfl, hb2⟩
  exact ⟨rfl, hA.trans (hb2.mono hA.size)⟩
set_option maxRecDepth 100000 in
theorem answers_e {src : ByteArray} {ba : Option Addr} {n c : Nat} {words depth : Nat} {w : World} {val rd : Int} (hR : Ran src (.slice ba n c) words depth w 0 0 val [] rd) : Yes 9 #[.string src, .slice ba n c, .int .i64 (words : Nat), .int .i64 (depth : Nat), .int .i64 val, .slice none 0 0] w := by
  unfold Yes
  have HR := Lib.hid hR
  clear hR
  have HB0 := Lib.hid (Below.refl w.heap.size w)
  go_enter Tryz.func9, Tryz.ntmps9
  go_wp2_with (first
    | (go_at_call 11; refine (HR.out _ (by first | exact HB0.out | exact HB0.out.alloc (Nat.le_refl _) _)).mono ?_; rintro e w1 ⟨a, c', st, gc, us, rfl, hcell, hb⟩; clear hcell)
    | (go_at_call 13; refine (same_e _ _ _ _ _).mono ?_; rintro e w2 ⟨rfl, hb2⟩))
  go_ret
  have hA := hb.alloc hb.size (.cells #[.int .i64 0, .int .i64 0, .int .i64 val, .slice a 0 c', .int .i64 st, .int .i64 rd, .int .i64 gc, .int .i64 us] 30)
  exact ⟨rfl, hA.trans (hb2.mono hA.size)⟩
set_option maxRecDepth 100000 in
theorem answers_o {src : ByteArray} {ba : Option Addr} {n c : Nat} {words depth k d m : Nat} {w : World} {val rd : Int} {out : List Int} (h0 : 0 < out.length) (hl : out.length ≤ 1000) (hm : out.length = m) (hk : k < w.heap.size) (hR : Ran src (.slice ba n c) words depth w 0 0 val out rd) (hc : ∀ (j : Nat) (z : Int), out[j]? = some z → w.cell? ⟨k, j, none⟩ = some (.int .i64 z)) : Yes 9 #[.string src, .slice ba n c, .int .i64 (words : Nat), .int .i64 (depth : Nat), .int .i64 val, .slice (some ⟨k, 0, none⟩) m d] w := by
  unfold Yes
  have HR := Lib.hid hR
  have HC := Lib.hid hc
  have HL := Lib.hid (And.intro h0 hl)
  clear hR hc h0 hl
  have HB0 := Lib.hid (Below.refl w.heap.size w)
  have HM := Lib.hid hm
  clear hm
  go_enter Tryz.func9, Tryz.ntmps9
  go_wp2_with (first
    | (go_at_call 11; refine (HR.out _ (by first | exact HB0.out | exact HB0.out.alloc (Nat.le_refl _) _)).mono ?_; rintro e w1 ⟨a, c', st, gc, us, rfl, hcell, hb⟩; obtain ⟨g, rfl⟩ : ∃ g, a = some ⟨g, 0, none⟩ := (let ⟨g, h, _⟩ := hcell 0 _ (List.getElem?_eq_getElem HL.out.1); ⟨g, h⟩); have HD : Hid (∀ (j : Nat) (z : Int), out[j]? = some z → w1.cell? ⟨g, j, none⟩ = some (.int .i64 z)) := (fun j z hz => by obtain ⟨g', h1, h2⟩ := hcell j z hz; cases h1; exact h2); clear hcell; have HB1 := Lib.hid hb)
    | (go_at_call 13; refine (ans_same HL.out.2 HM.out HD.out HB1.out HC.out hk _).mono ?_; rintro e w2 ⟨rfl, hb2⟩))
  go_ret
  exact ⟨rfl, hb2⟩
set_option maxRecDepth 100000 in
theorem answers_no {src : ByteArray} {words depth : Nat} {w : World} {val : Int} {oa : Option Addr} {on oc : Nat} (hR : ∀ W, Below w.heap.size w W → RunNo src (.slice none 0 0) words depth W) : Calls Tryz.prog 9 #[.string src, .slice none 0 0, .int .i64 (words : Nat), .int .i64 (depth : Nat), .int .i64 val, .slice oa on oc] w fun e w' => e = .returned (.bool false) ∧ Below w.heap.size w w' := by
  have HR := Lib.hid hR
  clear hR
  have HB0 := Lib.hid (Below.refl w.heap.size w)
  go_enter Tryz.func9, Tryz.ntmps9
  go_wp2_with (first
    | (go_at_call 11; refine (HR.out _ (by first | exact HB0.out | exact HB0.out.alloc (Nat.le_refl _) _)).mono ?_; rintro e w1 ⟨rfl, hb⟩))
  go_ret
  exact ⟨rfl, hb.alloc hb.size _⟩
end Lo
end Go.Proofs.YtjmifcnfnihhnaaGreatDoor
/- LOOPED: the runs over the law's own strings. Written by wip/genloop.py. -/
set_option linter.unusedVariables false
set_option linter.unusedSimpArgs false
namespace Go.Proofs.YtjmifcnfnihhnaaGreatDoor
namespace Lo
open Ev Go.RowKit Sm Sl
theorem lt0 (a : Int) : a < 0 ∨ 0 ≤ a := by omega
theorem lw_on {w W : World} (h : Lw w) (hb : Below w.heap.size w W) : Lw W := h.of fun g hg => hb.block g (by
  have : g = 0 ∨ g = 1 := by omega
  rcases this with rfl | rfl
  · obtain ⟨v, h1, _⟩ := h.f 0 _ rfl
    exact Sn.cell_lt h1
  · obtain ⟨v, h1, _⟩ := h.t 0 _ rfl
    exact Sn.cell_lt h1)
theorem R1 (E : Ev1) {a b i : Int} (ha : Sn.I5 a) (hb : Sn.I5 b) (hi : Sn.I5 i) {n : Nat} (hn : n < 30) (x y z : Int) {w : World} (hw : Lw w) : Ran ⟨(sr1 a b i n).toArray⟩ (.slice none 0 0) 2 1 w 0 0 ((n * (n + 1) / 2 : Nat) : Int) [] 0 := by
  intro W hW
  have hw := lw_on hw hW
  rw [← src1 n x y z]
  exact t1 E ha hb hi hn x y z hw
theorem R2 (E : Ev2) {a b i : Int} (ha : Sn.I5 a) (hb : Sn.I5 b) (hi : Sn.I5 i) {n : Nat} (hn : n < 30) (x y z : Int) {w : World} (hw : Lw w) : Ran ⟨(sr2 a b i n).toArray⟩ (.slice none 0 0) 2 (n + 1) w 0 0 ((n * (n + 1) / 2 : Nat) : Int) [] 0 := by
  intro W hW
  have hw := lw_on hw hW
  rw [← src2 n x y z]
  exact t2 E ha hb hi hn x y z hw
theorem R3 (E : Ev3) {a b i : Int} (ha : Sn.I5 a) (hb : Sn.I5 b) (hi : Sn.I5 i) {n : Nat} (hn : n < 30) (x y z : Int) {w : World} (hw : Lw w) {k : Nat} (h2 : 2 ≤ k) (hk : k < w.heap.size) (k0 : w.cell? ⟨k, 0, none⟩ = some (.int .i64 x)) (k1 : w.cell? ⟨k, 1, none⟩ = some (.int .i64 y)) : Ran ⟨(sr3 a b i n).toArray⟩ (.slice (some ⟨k, 0, none⟩) 2 2) 32 2 w 0 0 (Sn.wv (Sn.wv x - Sn.wv y)) [] 2 := by
  intro W hW
  have hw := lw_on hw hW
  have k0 := (hW.cell (p := ⟨k, 0, none⟩) hk).trans k0
  have k1 := (hW.cell (p := ⟨k, 1, none⟩) hk).trans k1
  rw [← src3 n x y z]
  exact t3 E ha hb hi hn x y z hw h2 k0 k1
theorem R5 (E : Ev5) {a b i : Int} (ha : Sn.I5 a) (hb : Sn.I5 b) (hi : Sn.I5 i) {n : Nat} (hn : n < 30) (x y z : Int) {w : World} (hw : Lw w) {k : Nat} (h2 : 2 ≤ k) (hk : k < w.heap.size) (k0 : w.cell? ⟨k, 0, none⟩ = some (.int .i64 y)) (k1 : w.cell? ⟨k, 1, none⟩ = some (.int .i64 x)) : Ran ⟨(sr5 a b i n).toArray⟩ (.slice (some ⟨k, 0, none⟩) 2 2) 40 2 w 0 0 (itv x y n) [] 2 := by
  intro W hW
  have hw := lw_on hw hW
  have k0 := (hW.cell (p := ⟨k, 0, none⟩) hk).trans k0
  have k1 := (hW.cell (p := ⟨k, 1, none⟩) hk).trans k1
  rw [← src5 n x y z]
  exact t5 E ha hb hi hn x y z hw h2 k0 k1
theorem R7 (E : Ev7) {a b i : Int} (ha : Sn.I5 a) (hb : Sn.I5 b) (hi : Sn.I5 i) {n : Nat} (hn : n < 30) (x y z : Int) {w : World} (hw : Lw w) : Ran ⟨(sr7 a b i n).toArray⟩ (.slice none 0 0) 2 1 w 0 0 (trn n) [] 0 := by
  intro W hW
  have hw := lw_on hw hW
  rw [← src7 n x y z]
  exact t7 E ha hb hi hn x y z hw
theorem R4 (E00 : Ev4_00) (E01 : Ev4_01) (E10 : Ev4_10) (E11 : Ev4_11) {a b i : Int} (ha : Sn.I5 a) (hb : Sn.I5 b) (hi : Sn.I5 i) {n : Nat} (hn : n < 30) (x y z : Int) {w : World} (hw : Lw w) {k : Nat} (h2 : 2 ≤ k) (hk : k < w.heap.size) (k0 : w.cell? ⟨k, 0, none⟩ = some (.int .i64 x)) : Ran ⟨(sr4 a b i n).toArray⟩ (.slice (some ⟨k, 0, none⟩) 1 1) 40 2 w 0 0 (Sn.wv (Sn.wv (Sn.wv x * 3 - b) * 3 - a)) [] 1 := by
  intro W hW
  have hw := lw_on hw hW
  have k0 := (hW.cell (p := ⟨k, 0, none⟩) hk).trans k0
  rcases lt0 a with sa | sa
  · rcases lt0 b with sb | sb
    · have h := t4_11 E11 ha hb hi sa sb n hn x y z hw h2 k0
      rw [src4_11 sa sb n x y z] at h
      rw [wv_sub, wv_sub] at h
      exact h
    · have h := t4_10 E10 ha hb hi sa sb n hn x y z hw h2 k0
      rw [src4_10 sa sb n x y z] at h
      rw [wv_sub, wv_sub] at h
      exact h
  · rcases lt0 b with sb | sb
    · have h := t4_01 E01 ha hb hi sa sb n hn x y z hw h2 k0
      rw [src4_01 sa sb n x y z] at h
      rw [wv_sub, wv_sub] at h
      exact h
    · have h := t4_00 E00 ha hb hi sa sb n hn x y z hw h2 k0
      rw [src4_00 sa sb n x y z] at h
      rw [wv_sub, wv_sub] at h
      exact h
theorem R8 (E00 : Ev8_00) (E01 : Ev8_01) (E10 : Ev8_10) (E11 : Ev8_11) {a b i : Int} (ha : Sn.I5 a) (hb : Sn.I5 b) (hi : Sn.I5 i) {n : Nat} (hn : n < 30) (x y z : Int) {w : World} (hw : Lw w) : Ran ⟨(sr8 a b i n).toArray⟩ (.slice none 0 0) 0 1 w 0 0 (Sn.wv (b - a)) [a, b] 0 := by
  intro W hW
  have hw := lw_on hw hW
  rcases lt0 a with sa | sa
  · rcases lt0 b with sb | sb
    · have h := t8_11 E11 ha hb hi sa sb n hn x y z hw
      rw [src8_11 sa sb n x y z] at h
      exact h
    · have h := t8_10 E10 ha hb hi sa sb n hn x y z hw
      rw [src8_10 sa sb n x y z] at h
      exact h
  · rcases lt0 b with sb | sb
    · have h := t8_01 E01 ha hb hi sa sb n hn x y z hw
      rw [src8_01 sa sb n x y z] at h
      exact h
    · have h := t8_00 E00 ha hb hi sa sb n hn x y z hw
      rw [src8_00 sa sb n x y z] at h
      exact h
theorem R9 (E : Ev9) {a b i : Int} (ha : Sn.I5 a) (hb : Sn.I5 b) (hi : Sn.I5 i) {n : Nat} (hn : n < 30) (x y z : Int) {w : World} (hw : Lw w) {k : Nat} (h2 : 2 ≤ k) (hk : k < w.heap.size) (k0 : w.cell? ⟨k, 0, none⟩ = some (.int .i64 x)) (k1 : w.cell? ⟨k, 1, none⟩ = some (.int .i64 y)) : Ran ⟨(sr9 a b i n).toArray⟩ (.slice (some ⟨k, 0, none⟩) 2 2) 40 2 w 0 0 (Sn.wv (Sn.wv x - Sn.wv y)) [0, 1, 2] 2 := by
  intro W hW
  have hw := lw_on hw hW
  have k0 := (hW.cell (p := ⟨k, 0, none⟩) hk).trans k0
  have k1 := (hW.cell (p := ⟨k, 1, none⟩) hk).trans k1
  have h := t9 E ha hb hi n hn x y z hw h2 k0 k1
  rw [src9 n x y z] at h
  exact h
theorem R10 (E : Ev10) {a b i : Int} (ha : Sn.I5 a) (hb : Sn.I5 b) (hi : Sn.I5 i) {n : Nat} (hn : n < 30) (x y z : Int) {w : World} (hw : Lw w) : Ran ⟨(sr10 a b i n).toArray⟩ (.slice none 0 0) 20 1 w 0 0 78 [1, 2, 3, 4, 5, 6, 7, 8, 9] 0 := by
  intro W hW
  have hw := lw_on hw hW
  have h := t10 E ha hb hi n hn x y z hw
  rw [src10 n x y z] at h
  exact h
theorem R13 (E00 : Ev13_00) (E01 : Ev13_01) (E10 : Ev13_10) (E11 : Ev13_11) {a b i : Int} (ha : Sn.I5 a) (hb : Sn.I5 b) (hi : Sn.I5 i) {n : Nat} (hn : n < 30) (x y z : Int) {w : World} (hw : Lw w) : Ran ⟨(sr13 a b i n).toArray⟩ (.slice none 0 0) 0 1 w 0 0 (Sn.wv (a - b)) [] 0 := by
  intro W hW
  have hw := lw_on hw hW
  rcases lt0 a with sa | sa
  · rcases lt0 b with sb | sb
    · have h := t13_11 E11 ha hb hi sa sb n hn x y z hw
      rw [src13_11 sa sb n x y z] at h
      exact h
    · have h := t13_10 E10 ha hb hi sa sb n hn x y z hw
      rw [src13_10 sa sb n x y z] at h
      exact h
  · rcases lt0 b with sb | sb
    · have h := t13_01 E01 ha hb hi sa sb n hn x y z hw
      rw [src13_01 sa sb n x y z] at h
      exact h
    · have h := t13_00 E00 ha hb hi sa sb n hn x y z hw
      rw [src13_00 sa sb n x y z] at h
      exact h
theorem R14 (E : Ev14) {a b i : Int} (ha : Sn.I5 a) (hb : Sn.I5 b) (hi : Sn.I5 i) {n : Nat} (hn : n < 30) (x y z : Int) {w : World} (hw : Lw w) {k : Nat} (h2 : 2 ≤ k) (hk : k < w.heap.size) (k0 : w.cell? ⟨k, 0, none⟩ = some (.int .i64 x)) (k1 : w.cell? ⟨k, 1, none⟩ = some (.int .i64 y)) : Ran ⟨(sr14 a b i n).toArray⟩ (.slice (some ⟨k, 0, none⟩) 2 2) 0 1 w 0 0 (Sn.wv (Sn.wv (Sn.wv (Sn.wv (Sn.wv x - Sn.wv y) - 7) + Sn.wv (Sn.wv x * Sn.wv y)) - Sn.wv (Int.tmod (Sn.wv (Int.tdiv (Sn.wv (Int.tdiv (Sn.wv x) 3)) 2)) 5))) [] 2 := by
  intro W hW
  have hw := lw_on hw hW
  have k0 := (hW.cell (p := ⟨k, 0, none⟩) hk).trans k0
  have k1 := (hW.cell (p := ⟨k, 1, none⟩) hk).trans k1
  have h := t14 E ha hb hi n hn x y z hw h2 k0 k1
  rw [src14 n x y z] at h
  exact h
theorem R11 (E : Ev11) {a b i : Int} (ha : Sn.I5 a) (hb : Sn.I5 b) (hi : Sn.I5 i) {n : Nat} (hn : n < 30) (x y z : Int) {w : World} (hw : Lw w) {k : Nat} (h2 : 2 ≤ k) (hk : k < w.heap.size) (k0 : w.cell? ⟨k, 0, none⟩ = some (.int .i64 x)) : Ran ⟨(sr11 a b i n).toArray⟩ (.slice (some ⟨k, 0, none⟩) 1 1) 0 1 w 33 5 0 [] 1 := by
  intro W hW
  have hw := lw_on hw hW
  have k0 := (hW.cell (p := ⟨k, 0, none⟩) hk).trans k0
  rw [← src11 n x y z]
  exact t11 E ha hb hi n hn x y z hw h2 k0
theorem R6 (E : Ev6) {a b i : Int} (ha : Sn.I5 a) (hb : Sn.I5 b) (hi : Sn.I5 i) {n : Nat} (hn : n < 30) {w : World} (hw : Lw w) : ∀ W, Below w.heap.size w W → RunNo ⟨(sr6 a b i n).toArray⟩ (.slice none 0 0) 0 1 W := by
  intro W hW
  rw [← src6 n 0 0 0]
  exact t6 E ha hb hi hn 0 (lw_on hw hW)
theorem R12 (E : Ev12) {a b i : Int} (ha : Sn.I5 a) (hb : Sn.I5 b) (hi : Sn.I5 i) {n : Nat} (hn : n < 30) {w : World} (hw : Lw w) : ∀ W, Below w.heap.size w W → ∃ v out rd, RunIs ⟨(sr12 a b i n).toArray⟩ (.slice none 0 0) 2 1 W (if n ≤ 16 then 0 else 34) (if n ≤ 16 then 0 else 31) v out rd ∧ (n ≤ 16 → out.length = n) := by
  intro W hW
  rw [← src12 n 0 0 0]
  exact t12 E ha hb hi hn 0 0 0 (lw_on hw hW)
def at15 (a i : Int) (n : Nat) : Int := ((12 + (Sn.decL n).length + 1 + (Sn.saidS a).length + 10 + (Sn.saidS i).length + 2 : Nat) : Int)
set_option maxRecDepth 100000 in
theorem pl15_000 {a b i : Int} (sa : 0 ≤ a) (sb : 0 ≤ b) (si : 0 ≤ i) (n : Nat) (x y z : Int) : plOf (toks (dgN (nvF a b i n x y z)) (nN (nvF a b i n x y z)) lx15_000 0) (flat (dgN (nvF a b i n x y z)) lx15_000).length 12 = at15 a i n := by
  have h : plOf (toks (dgN (nvF a b i n x y z)) (nN (nvF a b i n x y z)) lx15_000 0) (flat (dgN (nvF a b i n x y z)) lx15_000).length 12 = ((0 + 3 + 1 + 1 + 1 + 5 + 1 + (dgN (nvF a b i n x y z) 7).length + 1 + (dgN (nvF a b i n x y z) 4).length + 1 + 2 + 1 + 3 + 1 + 1 + 1 + (dgN (nvF a b i n x y z) 6).length + 1 + 1 : Nat) : Int) := rfl
  rw [h]
  unfold at15
  rw [sd4p (a := a) (b := b) (i := i) (n := n) (x := x) (y := y) (z := z) sa, sd6p (a := a) (b := b) (i := i) (n := n) (x := x) (y := y) (z := z) si, ← dg7 a b i n x y z]
  all_goals first
    | (simp only [List.length_append, List.length_cons, List.length_nil]; done)
    | (simp only [List.length_append, List.length_cons, List.length_nil]; omega)
    | omega
set_option maxRecDepth 100000 in
theorem pl15_001 {a b i : Int} (sa : 0 ≤ a) (sb : 0 ≤ b) (si : i < 0) (n : Nat) (x y z : Int) : plOf (toks (dgN (nvF a b i n x y z)) (nN (nvF a b i n x y z)) lx15_001 0) (flat (dgN (nvF a b i n x y z)) lx15_001).length 17 = at15 a i n := by
  have h : plOf (toks (dgN (nvF a b i n x y z)) (nN (nvF a b i n x y z)) lx15_001 0) (flat (dgN (nvF a b i n x y z)) lx15_001).length 17 = ((0 + 3 + 1 + 1 + 1 + 5 + 1 + (dgN (nvF a b i n x y z) 7).length + 1 + (dgN (nvF a b i n x y z) 4).length + 1 + 2 + 1 + 3 + 1 + 1 + 1 + 1 + 1 + (dgN (nvF a b i n x y z) 6).length + 1 + 1 + 1 + 1 + 1 : Nat) : Int) := rfl
  rw [h]
  unfold at15
  rw [sd4p (a := a) (b := b) (i := i) (n := n) (x := x) (y := y) (z := z) sa, sd6n (a := a) (b := b) (i := i) (n := n) (x := x) (y := y) (z := z) si, ← dg7 a b i n x y z]
  all_goals first
    | (simp only [List.length_append, List.length_cons, List.length_nil]; done)
    | (simp only [List.length_append, List.length_cons, List.length_nil]; omega)
    | omega
set_option maxRecDepth 100000 in
theorem pl15_010 {a b i : Int} (sa : 0 ≤ a) (sb : b < 0) (si : 0 ≤ i) (n : Nat) (x y z : Int) : plOf (toks (dgN (nvF a b i n x y z)) (nN (nvF a b i n x y z)) lx15_010 0) (flat (dgN (nvF a b i n x y z)) lx15_010).length 12 = at15 a i n := by
  have h : plOf (toks (dgN (nvF a b i n x y z)) (nN (nvF a b i n x y z)) lx15_010 0) (flat (dgN (nvF a b i n x y z)) lx15_010).length 12 = ((0 + 3 + 1 + 1 + 1 + 5 + 1 + (dgN (nvF a b i n x y z) 7).length + 1 + (dgN (nvF a b i n x y z) 4).length + 1 + 2 + 1 + 3 + 1 + 1 + 1 + (dgN (nvF a b i n x y z) 6).length + 1 + 1 : Nat) : Int) := rfl
  rw [h]
  unfold at15
  rw [sd4p (a := a) (b := b) (i := i) (n := n) (x := x) (y := y) (z := z) sa, sd6p (a := a) (b := b) (i := i) (n := n) (x := x) (y := y) (z := z) si, ← dg7 a b i n x y z]
  all_goals first
    | (simp only [List.length_append, List.length_cons, List.length_nil]; done)
    | (simp only [List.length_append, List.length_cons, List.length_nil]; omega)
    | omega
set_option maxRecDepth 100000 in
theorem pl15_011 {a b i : Int} (sa : 0 ≤ a) (sb : b < 0) (si : i < 0) (n : Nat) (x y z : Int) : plOf (toks (dgN (nvF a b i n x y z)) (nN (nvF a b i n x y z)) lx15_011 0) (flat (dgN (nvF a b i n x y z)) lx15_011).length 17 = at15 a i n := by
  have h : plOf (toks (dgN (nvF a b i n x y z)) (nN (nvF a b i n x y z)) lx15_011 0) (flat (dgN (nvF a b i n x y z)) lx15_011).length 17 = ((0 + 3 + 1 + 1 + 1 + 5 + 1 + (dgN (nvF a b i n x y z) 7).length + 1 + (dgN (nvF a b i n x y z) 4).length + 1 + 2 + 1 + 3 + 1 + 1 + 1 + 1 + 1 + (dgN (nvF a b i n x y z) 6).length + 1 + 1 + 1 + 1 + 1 : Nat) : Int) := rfl
  rw [h]
  unfold at15
  rw [sd4p (a := a) (b := b) (i := i) (n := n) (x := x) (y := y) (z := z) sa, sd6n (a := a) (b := b) (i := i) (n := n) (x := x) (y := y) (z := z) si, ← dg7 a b i n x y z]
  all_goals first
    | (simp only [List.length_append, List.length_cons, List.length_nil]; done)
    | (simp only [List.length_append, List.length_cons, List.length_nil]; omega)
    | omega
set_option maxRecDepth 100000 in
theorem pl15_100 {a b i : Int} (sa : a < 0) (sb : 0 ≤ b) (si : 0 ≤ i) (n : Nat) (x y z : Int) : plOf (toks (dgN (nvF a b i n x y z)) (nN (nvF a b i n x y z)) lx15_100 0) (flat (dgN (nvF a b i n x y z)) lx15_100).length 17 = at15 a i n := by
  have h : plOf (toks (dgN (nvF a b i n x y z)) (nN (nvF a b i n x y z)) lx15_100 0) (flat (dgN (nvF a b i n x y z)) lx15_100).length 17 = ((0 + 3 + 1 + 1 + 1 + 5 + 1 + (dgN (nvF a b i n x y z) 7).length + 1 + 1 + 1 + (dgN (nvF a b i n x y z) 4).length + 1 + 1 + 1 + 1 + 2 + 1 + 3 + 1 + 1 + 1 + (dgN (nvF a b i n x y z) 6).length + 1 + 1 : Nat) : Int) := rfl
  rw [h]
  unfold at15
  rw [sd4n (a := a) (b := b) (i := i) (n := n) (x := x) (y := y) (z := z) sa, sd6p (a := a) (b := b) (i := i) (n := n) (x := x) (y := y) (z := z) si, ← dg7 a b i n x y z]
  all_goals first
    | (simp only [List.length_append, List.length_cons, List.length_nil]; done)
    | (simp only [List.length_append, List.length_cons, List.length_nil]; omega)
    | omega
set_option maxRecDepth 100000 in
theorem pl15_101 {a b i : Int} (sa : a < 0) (sb : 0 ≤ b) (si : i < 0) (n : Nat) (x y z : Int) : plOf (toks (dgN (nvF a b i n x y z)) (nN (nvF a b i n x y z)) lx15_101 0) (flat (dgN (nvF a b i n x y z)) lx15_101).length 22 = at15 a i n := by
  have h : plOf (toks (dgN (nvF a b i n x y z)) (nN (nvF a b i n x y z)) lx15_101 0) (flat (dgN (nvF a b i n x y z)) lx15_101).length 22 = ((0 + 3 + 1 + 1 + 1 + 5 + 1 + (dgN (nvF a b i n x y z) 7).length + 1 + 1 + 1 + (dgN (nvF a b i n x y z) 4).length + 1 + 1 + 1 + 1 + 2 + 1 + 3 + 1 + 1 + 1 + 1 + 1 + (dgN (nvF a b i n x y z) 6).length + 1 + 1 + 1 + 1 + 1 : Nat) : Int) := rfl
  rw [h]
  unfold at15
  rw [sd4n (a := a) (b := b) (i := i) (n := n) (x := x) (y := y) (z := z) sa, sd6n (a := a) (b := b) (i := i) (n := n) (x := x) (y := y) (z := z) si, ← dg7 a b i n x y z]
  all_goals first
    | (simp only [List.length_append, List.length_cons, List.length_nil]; done)
    | (simp only [List.length_append, List.length_cons, List.length_nil]; omega)
    | omega
set_option maxRecDepth 100000 in
theorem pl15_110 {a b i : Int} (sa : a < 0) (sb : b < 0) (si : 0 ≤ i) (n : Nat) (x y z : Int) : plOf (toks (dgN (nvF a b i n x y z)) (nN (nvF a b i n x y z)) lx15_110 0) (flat (dgN (nvF a b i n x y z)) lx15_110).length 17 = at15 a i n := by
  have h : plOf (toks (dgN (nvF a b i n x y z)) (nN (nvF a b i n x y z)) lx15_110 0) (flat (dgN (nvF a b i n x y z)) lx15_110).length 17 = ((0 + 3 + 1 + 1 + 1 + 5 + 1 + (dgN (nvF a b i n x y z) 7).length + 1 + 1 + 1 + (dgN (nvF a b i n x y z) 4).length + 1 + 1 + 1 + 1 + 2 + 1 + 3 + 1 + 1 + 1 + (dgN (nvF a b i n x y z) 6).length + 1 + 1 : Nat) : Int) := rfl
  rw [h]
  unfold at15
  rw [sd4n (a := a) (b := b) (i := i) (n := n) (x := x) (y := y) (z := z) sa, sd6p (a := a) (b := b) (i := i) (n := n) (x := x) (y := y) (z := z) si, ← dg7 a b i n x y z]
  all_goals first
    | (simp only [List.length_append, List.length_cons, List.length_nil]; done)
    | (simp only [List.length_append, List.length_cons, List.length_nil]; omega)
    | omega
set_option maxRecDepth 100000 in
theorem pl15_111 {a b i : Int} (sa : a < 0) (sb : b < 0) (si : i < 0) (n : Nat) (x y z : Int) : plOf (toks (dgN (nvF a b i n x y z)) (nN (nvF a b i n x y z)) lx15_111 0) (flat (dgN (nvF a b i n x y z)) lx15_111).length 22 = at15 a i n := by
  have h : plOf (toks (dgN (nvF a b i n x y z)) (nN (nvF a b i n x y z)) lx15_111 0) (flat (dgN (nvF a b i n x y z)) lx15_111).length 22 = ((0 + 3 + 1 + 1 + 1 + 5 + 1 + (dgN (nvF a b i n x y z) 7).length + 1 + 1 + 1 + (dgN (nvF a b i n x y z) 4).length + 1 + 1 + 1 + 1 + 2 + 1 + 3 + 1 + 1 + 1 + 1 + 1 + (dgN (nvF a b i n x y z) 6).length + 1 + 1 + 1 + 1 + 1 : Nat) : Int) := rfl
  rw [h]
  unfold at15
  rw [sd4n (a := a) (b := b) (i := i) (n := n) (x := x) (y := y) (z := z) sa, sd6n (a := a) (b := b) (i := i) (n := n) (x := x) (y := y) (z := z) si, ← dg7 a b i n x y z]
  all_goals first
    | (simp only [List.length_append, List.length_cons, List.length_nil]; done)
    | (simp only [List.length_append, List.length_cons, List.length_nil]; omega)
    | omega
theorem R15 (E000 : Ev15_000) (E001 : Ev15_001) (E010 : Ev15_010) (E011 : Ev15_011) (E100 : Ev15_100) (E101 : Ev15_101) (E110 : Ev15_110) (E111 : Ev15_111) {a b i : Int} (ha : Sn.I5 a) (hb : Sn.I5 b) (hi : Sn.I5 i) {n : Nat} (hn : n < 30) (x y z : Int) {w : World} (hw : Lw w) (h5 : n < 5) (hni : ¬ (0 ≤ i ∧ i < (n : Int))) : Ran ⟨(sr15 a b i n).toArray⟩ (.slice none 0 0) (2 * (n + 1)) 1 w 30 (at15 a i n) 0 [] 0 := by
  intro W hW
  have hw := lw_on hw hW
  rcases lt0 a with sa | sa
  · rcases lt0 b with sb | sb
    · rcases lt0 i with si | si
      · match n, h5 with
        | 0, _ =>
          have h := t15_111_0 E111 ha hb hi sa sb si 0 (by omega) x y z hw
          rw [pl15_111 sa sb si 0 x y z, src15_111 sa sb si 0 x y z] at h
          exact h
        | 1, _ =>
          have h := t15_111_1 E111 ha hb hi sa sb si 0 (by omega) x y z hw
          rw [pl15_111 sa sb si 1 x y z, src15_111 sa sb si 1 x y z] at h
          exact h
        | 2, _ =>
          have h := t15_111_2 E111 ha hb hi sa sb si 0 (by omega) x y z hw
          rw [pl15_111 sa sb si 2 x y z, src15_111 sa sb si 2 x y z] at h
          exact h
        | 3, _ =>
          have h := t15_111_3 E111 ha hb hi sa sb si 0 (by omega) x y z hw
          rw [pl15_111 sa sb si 3 x y z, src15_111 sa sb si 3 x y z] at h
          exact h
        | 4, _ =>
          have h := t15_111_4 E111 ha hb hi sa sb si 0 (by omega) x y z hw
          rw [pl15_111 sa sb si 4 x y z, src15_111 sa sb si 4 x y z] at h
          exact h
        | n + 5, h5 => exact absurd h5 (by omega)
      · match n, h5 with
        | 0, _ =>
          have h := t15_110_0 E110 ha hb hi sa sb si 0 (by omega) x y z hw (by omega)
          rw [pl15_110 sa sb si 0 x y z, src15_110 sa sb si 0 x y z] at h
          exact h
        | 1, _ =>
          have h := t15_110_1 E110 ha hb hi sa sb si 0 (by omega) x y z hw (by omega)
          rw [pl15_110 sa sb si 1 x y z, src15_110 sa sb si 1 x y z] at h
          exact h
        | 2, _ =>
          have h := t15_110_2 E110 ha hb hi sa sb si 0 (by omega) x y z hw (by omega)
          rw [pl15_110 sa sb si 2 x y z, src15_110 sa sb si 2 x y z] at h
          exact h
        | 3, _ =>
          have h := t15_110_3 E110 ha hb hi sa sb si 0 (by omega) x y z hw (by omega)
          rw [pl15_110 sa sb si 3 x y z, src15_110 sa sb si 3 x y z] at h
          exact h
        | 4, _ =>
          have h := t15_110_4 E110 ha hb hi sa sb si 0 (by omega) x y z hw (by omega)
          rw [pl15_110 sa sb si 4 x y z, src15_110 sa sb si 4 x y z] at h
          exact h
        | n + 5, h5 => exact absurd h5 (by omega)
    · rcases lt0 i with si | si
      · match n, h5 with
        | 0, _ =>
          have h := t15_101_0 E101 ha hb hi sa sb si 0 (by omega) x y z hw
          rw [pl15_101 sa sb si 0 x y z, src15_101 sa sb si 0 x y z] at h
          exact h
        | 1, _ =>
          have h := t15_101_1 E101 ha hb hi sa sb si 0 (by omega) x y z hw
          rw [pl15_101 sa sb si 1 x y z, src15_101 sa sb si 1 x y z] at h
          exact h
        | 2, _ =>
          have h := t15_101_2 E101 ha hb hi sa sb si 0 (by omega) x y z hw
          rw [pl15_101 sa sb si 2 x y z, src15_101 sa sb si 2 x y z] at h
          exact h
        | 3, _ =>
          have h := t15_101_3 E101 ha hb hi sa sb si 0 (by omega) x y z hw
          rw [pl15_101 sa sb si 3 x y z, src15_101 sa sb si 3 x y z] at h
          exact h
        | 4, _ =>
          have h := t15_101_4 E101 ha hb hi sa sb si 0 (by omega) x y z hw
          rw [pl15_101 sa sb si 4 x y z, src15_101 sa sb si 4 x y z] at h
          exact h
        | n + 5, h5 => exact absurd h5 (by omega)
      · match n, h5 with
        | 0, _ =>
          have h := t15_100_0 E100 ha hb hi sa sb si 0 (by omega) x y z hw (by omega)
          rw [pl15_100 sa sb si 0 x y z, src15_100 sa sb si 0 x y z] at h
          exact h
        | 1, _ =>
          have h := t15_100_1 E100 ha hb hi sa sb si 0 (by omega) x y z hw (by omega)
          rw [pl15_100 sa sb si 1 x y z, src15_100 sa sb si 1 x y z] at h
          exact h
        | 2, _ =>
          have h := t15_100_2 E100 ha hb hi sa sb si 0 (by omega) x y z hw (by omega)
          rw [pl15_100 sa sb si 2 x y z, src15_100 sa sb si 2 x y z] at h
          exact h
        | 3, _ =>
          have h := t15_100_3 E100 ha hb hi sa sb si 0 (by omega) x y z hw (by omega)
          rw [pl15_100 sa sb si 3 x y z, src15_100 sa sb si 3 x y z] at h
          exact h
        | 4, _ =>
          have h := t15_100_4 E100 ha hb hi sa sb si 0 (by omega) x y z hw (by omega)
          rw [pl15_100 sa sb si 4 x y z, src15_100 sa sb si 4 x y z] at h
          exact h
        | n + 5, h5 => exact absurd h5 (by omega)
  · rcases lt0 b with sb | sb
    · rcases lt0 i with si | si
      · match n, h5 with
        | 0, _ =>
          have h := t15_011_0 E011 ha hb hi sa sb si 0 (by omega) x y z hw
          rw [pl15_011 sa sb si 0 x y z, src15_011 sa sb si 0 x y z] at h
          exact h
        | 1, _ =>
          have h := t15_011_1 E011 ha hb hi sa sb si 0 (by omega) x y z hw
          rw [pl15_011 sa sb si 1 x y z, src15_011 sa sb si 1 x y z] at h
          exact h
        | 2, _ =>
          have h := t15_011_2 E011 ha hb hi sa sb si 0 (by omega) x y z hw
          rw [pl15_011 sa sb si 2 x y z, src15_011 sa sb si 2 x y z] at h
          exact h
        | 3, _ =>
          have h := t15_011_3 E011 ha hb hi sa sb si 0 (by omega) x y z hw
          rw [pl15_011 sa sb si 3 x y z, src15_011 sa sb si 3 x y z] at h
          exact h
        | 4, _ =>
          have h := t15_011_4 E011 ha hb hi sa sb si 0 (by omega) x y z hw
          rw [pl15_011 sa sb si 4 x y z, src15_011 sa sb si 4 x y z] at h
          exact h
        | n + 5, h5 => exact absurd h5 (by omega)
      · match n, h5 with
        | 0, _ =>
          have h := t15_010_0 E010 ha hb hi sa sb si 0 (by omega) x y z hw (by omega)
          rw [pl15_010 sa sb si 0 x y z, src15_010 sa sb si 0 x y z] at h
          exact h
        | 1, _ =>
          have h := t15_010_1 E010 ha hb hi sa sb si 0 (by omega) x y z hw (by omega)
          rw [pl15_010 sa sb si 1 x y z, src15_010 sa sb si 1 x y z] at h
          exact h
        | 2, _ =>
          have h := t15_010_2 E010 ha hb hi sa sb si 0 (by omega) x y z hw (by omega)
          rw [pl15_010 sa sb si 2 x y z, src15_010 sa sb si 2 x y z] at h
          exact h
        | 3, _ =>
          have h := t15_010_3 E010 ha hb hi sa sb si 0 (by omega) x y z hw (by omega)
          rw [pl15_010 sa sb si 3 x y z, src15_010 sa sb si 3 x y z] at h
          exact h
        | 4, _ =>
          have h := t15_010_4 E010 ha hb hi sa sb si 0 (by omega) x y z hw (by omega)
          rw [pl15_010 sa sb si 4 x y z, src15_010 sa sb si 4 x y z] at h
          exact h
        | n + 5, h5 => exact absurd h5 (by omega)
    · rcases lt0 i with si | si
      · match n, h5 with
        | 0, _ =>
          have h := t15_001_0 E001 ha hb hi sa sb si 0 (by omega) x y z hw
          rw [pl15_001 sa sb si 0 x y z, src15_001 sa sb si 0 x y z] at h
          exact h
        | 1, _ =>
          have h := t15_001_1 E001 ha hb hi sa sb si 0 (by omega) x y z hw
          rw [pl15_001 sa sb si 1 x y z, src15_001 sa sb si 1 x y z] at h
          exact h
        | 2, _ =>
          have h := t15_001_2 E001 ha hb hi sa sb si 0 (by omega) x y z hw
          rw [pl15_001 sa sb si 2 x y z, src15_001 sa sb si 2 x y z] at h
          exact h
        | 3, _ =>
          have h := t15_001_3 E001 ha hb hi sa sb si 0 (by omega) x y z hw
          rw [pl15_001 sa sb si 3 x y z, src15_001 sa sb si 3 x y z] at h
          exact h
        | 4, _ =>
          have h := t15_001_4 E001 ha hb hi sa sb si 0 (by omega) x y z hw
          rw [pl15_001 sa sb si 4 x y z, src15_001 sa sb si 4 x y z] at h
          exact h
        | n + 5, h5 => exact absurd h5 (by omega)
      · match n, h5 with
        | 0, _ =>
          have h := t15_000_0 E000 ha hb hi sa sb si 0 (by omega) x y z hw (by omega)
          rw [pl15_000 sa sb si 0 x y z, src15_000 sa sb si 0 x y z] at h
          exact h
        | 1, _ =>
          have h := t15_000_1 E000 ha hb hi sa sb si 0 (by omega) x y z hw (by omega)
          rw [pl15_000 sa sb si 1 x y z, src15_000 sa sb si 1 x y z] at h
          exact h
        | 2, _ =>
          have h := t15_000_2 E000 ha hb hi sa sb si 0 (by omega) x y z hw (by omega)
          rw [pl15_000 sa sb si 2 x y z, src15_000 sa sb si 2 x y z] at h
          exact h
        | 3, _ =>
          have h := t15_000_3 E000 ha hb hi sa sb si 0 (by omega) x y z hw (by omega)
          rw [pl15_000 sa sb si 3 x y z, src15_000 sa sb si 3 x y z] at h
          exact h
        | 4, _ =>
          have h := t15_000_4 E000 ha hb hi sa sb si 0 (by omega) x y z hw (by omega)
          rw [pl15_000 sa sb si 4 x y z, src15_000 sa sb si 4 x y z] at h
          exact h
        | n + 5, h5 => exact absurd h5 (by omega)
theorem R15_2 (E000 : Ev15_000) (E001 : Ev15_001) (E010 : Ev15_010) (E011 : Ev15_011) (E100 : Ev15_100) (E101 : Ev15_101) (E110 : Ev15_110) (E111 : Ev15_111) {a b : Int} (ha : Sn.I5 a) (hb : Sn.I5 b) {w : World} (hw : Lw w) : Ran ⟨(sr15 a b 0 2).toArray⟩ (.slice none 0 0) 6 1 w 0 0 (Sn.wv (a - b)) [] 0 := by
  intro W hW
  have hw := lw_on hw hW
  rcases lt0 a with sa | sa
  · rcases lt0 b with sb | sb
    · have h := t15_110_2_0 E110 ha hb (i := 0) (by omega) sa sb 0 (by omega) 0 0 0 hw
      rw [src15_110 sa sb (by omega) 2 0 0 0] at h
      exact h
    · have h := t15_100_2_0 E100 ha hb (i := 0) (by omega) sa sb 0 (by omega) 0 0 0 hw
      rw [src15_100 sa sb (by omega) 2 0 0 0] at h
      exact h
  · rcases lt0 b with sb | sb
    · have h := t15_010_2_0 E010 ha hb (i := 0) (by omega) sa sb 0 (by omega) 0 0 0 hw
      rw [src15_010 sa sb (by omega) 2 0 0 0] at h
      exact h
    · have h := t15_000_2_0 E000 ha hb (i := 0) (by omega) sa sb 0 (by omega) 0 0 0 hw
      rw [src15_000 sa sb (by omega) 2 0 0 0] at h
      exact h
theorem R15_4 (E000 : Ev15_000) (E001 : Ev15_001) (E010 : Ev15_010) (E011 : Ev15_011) (E100 : Ev15_100) (E101 : Ev15_101) (E110 : Ev15_110) (E111 : Ev15_111) {a b : Int} (ha : Sn.I5 a) (hb : Sn.I5 b) {w : World} (hw : Lw w) : Ran ⟨(sr15 a b 3 4).toArray⟩ (.slice none 0 0) 10 1 w 0 0 (Sn.wv (a - b)) [] 0 := by
  intro W hW
  have hw := lw_on hw hW
  rcases lt0 a with sa | sa
  · rcases lt0 b with sb | sb
    · have h := t15_110_4_3 E110 ha hb (i := 0) (by omega) sa sb 0 (by omega) 0 0 0 hw
      rw [src15_110 sa sb (by omega) 4 0 0 0] at h
      exact h
    · have h := t15_100_4_3 E100 ha hb (i := 0) (by omega) sa sb 0 (by omega) 0 0 0 hw
      rw [src15_100 sa sb (by omega) 4 0 0 0] at h
      exact h
  · rcases lt0 b with sb | sb
    · have h := t15_010_4_3 E010 ha hb (i := 0) (by omega) sa sb 0 (by omega) 0 0 0 hw
      rw [src15_010 sa sb (by omega) 4 0 0 0] at h
      exact h
    · have h := t15_000_4_3 E000 ha hb (i := 0) (by omega) sa sb 0 (by omega) 0 0 0 hw
      rw [src15_000 sa sb (by omega) 4 0 0 0] at h
      exact h
theorem R16a (E : Ev16) {a b i : Int} (ha : Sn.I5 a) (hb : Sn.I5 b) (hi : Sn.I5 i) {n : Nat} (hn : n < 30) (x y z : Int) {w : World} (hw : Lw w) (si : i < 0) {k : Nat} (h2 : 2 ≤ k) (hk : k < w.heap.size) (k0 : w.cell? ⟨k, 0, none⟩ = some (.int .i64 i)) : Ran ⟨(sr16 a b i n).toArray⟩ (.slice (some ⟨k, 0, none⟩) 1 1) 66 1 w 31 4 0 [] 1 := by
  intro W hW
  have hw := lw_on hw hW
  have k0 := (hW.cell (p := ⟨k, 0, none⟩) hk).trans k0
  rw [← src16 n x y z]
  exact t16_lo E ha hb hi n hn x y z hw si h2 k0
theorem R16b (E : Ev16) {a b i : Int} (ha : Sn.I5 a) (hb : Sn.I5 b) (hi : Sn.I5 i) {n : Nat} (hn : n < 30) (x y z : Int) {w : World} (hw : Lw w) (si : 32 < i) {k : Nat} (h2 : 2 ≤ k) (hk : k < w.heap.size) (k0 : w.cell? ⟨k, 0, none⟩ = some (.int .i64 i)) : Ran ⟨(sr16 a b i n).toArray⟩ (.slice (some ⟨k, 0, none⟩) 1 1) 66 1 w 31 4 0 [] 1 := by
  intro W hW
  have hw := lw_on hw hW
  have k0 := (hW.cell (p := ⟨k, 0, none⟩) hk).trans k0
  rw [← src16 n x y z]
  exact t16_hi E ha hb hi n hn x y z hw si h2 k0
theorem R16c (E : Ev16) {a b i : Int} (ha : Sn.I5 a) (hb : Sn.I5 b) (hi : Sn.I5 i) {n : Nat} (hn : n < 30) (x y z : Int) {w : World} (hw : Lw w) {m : Nat} (hm : m ≤ 32) {k : Nat} (h2 : 2 ≤ k) (hk : k < w.heap.size) (k0 : w.cell? ⟨k, 0, none⟩ = some (.int .i64 (m : Nat))) : Ran ⟨(sr16 a b i n).toArray⟩ (.slice (some ⟨k, 0, none⟩) 1 1) 66 1 w 0 0 (m : Nat) [] 1 := by
  intro W hW
  have hw := lw_on hw hW
  have k0 := (hW.cell (p := ⟨k, 0, none⟩) hk).trans k0
  rw [← src16 n x y z]
  match m, hm with
  | 0, _ => exact t16_0 E ha hb hi n hn x y z hw h2 k0
  | 1, _ => exact t16_1 E ha hb hi n hn x y z hw h2 k0
  | 2, _ => exact t16_2 E ha hb hi n hn x y z hw h2 k0
  | 3, _ => exact t16_3 E ha hb hi n hn x y z hw h2 k0
  | 4, _ => exact t16_4 E ha hb hi n hn x y z hw h2 k0
  | 5, _ => exact t16_5 E ha hb hi n hn x y z hw h2 k0
  | 6, _ => exact t16_6 E ha hb hi n hn x y z hw h2 k0
  | 7, _ => exact t16_7 E ha hb hi n hn x y z hw h2 k0
  | 8, _ => exact t16_8 E ha hb hi n hn x y z hw h2 k0
  | 9, _ => exact t16_9 E ha hb hi n hn x y z hw h2 k0
  | 10, _ => exact t16_10 E ha hb hi n hn x y z hw h2 k0
  | 11, _ => exact t16_11 E ha hb hi n hn x y z hw h2 k0
  | 12, _ => exact t16_12 E ha hb hi n hn x y z hw h2 k0
  | 13, _ => exact t16_13 E ha hb hi n hn x y z hw h2 k0
  | 14, _ => exact t16_14 E ha hb hi n hn x y z hw h2 k0
  | 15, _ => exact t16_15 E ha hb hi n hn x y z hw h2 k0
  | 16, _ => exact t16_16 E ha hb hi n hn x y z hw h2 k0
  | 17, _ => exact t16_17 E ha hb hi n hn x y z hw h2 k0
  | 18, _ => exact t16_18 E ha hb hi n hn x y z hw h2 k0
  | 19, _ => exact t16_19 E ha hb hi n hn x y z hw h2 k0
  | 20, _ => exact t16_20 E ha hb hi n hn x y z hw h2 k0
  | 21, _ => exact t16_21 E ha hb hi n hn x y z hw h2 k0
  | 22, _ => exact t16_22 E ha hb hi n hn x y z hw h2 k0
  | 23, _ => exact t16_23 E ha hb hi n hn x y z hw h2 k0
  | 24, _ => exact t16_24 E ha hb hi n hn x y z hw h2 k0
  | 25, _ => exact t16_25 E ha hb hi n hn x y z hw h2 k0
  | 26, _ => exact t16_26 E ha hb hi n hn x y z hw h2 k0
  | 27, _ => exact t16_27 E ha hb hi n hn x y z hw h2 k0
  | 28, _ => exact t16_28 E ha hb hi n hn x y z hw h2 k0
  | 29, _ => exact t16_29 E ha hb hi n hn x y z hw h2 k0
  | 30, _ => exact t16_30 E ha hb hi n hn x y z hw h2 k0
  | 31, _ => exact t16_31 E ha hb hi n hn x y z hw h2 k0
  | 32, _ => exact t16_32 E ha hb hi n hn x y z hw h2 k0
  | m + 33, hm => exact absurd hm (by omega)
end Lo
end Go.Proofs.YtjmifcnfnihhnaaGreatDoor
/- WALKS: turned, cells, by what run answers. -/
set_option linter.unusedVariables false
set_option linter.unusedSimpArgs false
namespace Go.Proofs.YtjmifcnfnihhnaaGreatDoor
namespace Lo
open Go.RowKit Lr
theorem turned_w {n : Nat} (hn : n < 30) (w : World) : Calls Tryz.prog 10 #[.int .i64 (n : Nat)] w fun e w' => e = .returned (.int .i64 (trn n)) ∧ w' = w := by
  have hm : ∀ k : Nat, ((k : Nat) : Int).tmod 3 = ((k % 3 : Nat) : Int) := fun k => rfl
  have h3 : n % 3 = 0 ∨ n % 3 = 1 ∨ n % 3 = 2 := by omega
  have g3 : ((n : Int)).tmod 3 = ((n % 3 : Nat) : Int) := hm n
  rcases h3 with h | h | h
  all_goals
    have e : trn n = (if n % 3 = 0 then 123 else if n % 3 = 1 then 312 else 231) := rfl
    rw [h] at e g3
    rw [e]
    clear hm h e
    go_enter Tryz.func10, Tryz.ntmps10
    go_wp2_with fail
    go_ret
    exact ⟨rfl, rfl⟩
theorem str15 (a b i : Int) (n : Nat) : (⟨#[108, 101, 116, 32, 116, 61, 97, 114, 114, 97, 121, 32]⟩ : ByteArray) ++ ⟨(Sn.decL n).toArray⟩ ++ ⟨#[32]⟩ ++ ⟨(Sn.saidS a).toArray⟩ ++ ⟨#[32, 105, 110, 32, 112, 117, 116, 32, 116, 32]⟩ ++ ⟨(Sn.saidS i).toArray⟩ ++ ⟨#[40, 116, 46, 40]⟩ ++ ⟨(Sn.saidS i).toArray⟩ ++ ⟨#[41, 45]⟩ ++ ⟨(Sn.saidS b).toArray⟩ ++ ⟨#[41, 59, 108, 101, 116, 32, 117, 61, 116, 32, 105, 110, 32, 117, 46, 40]⟩ ++ ⟨(Sn.saidS i).toArray⟩ ++ ⟨#[41]⟩ = ⟨(sr15 a b i n).toArray⟩ := by
  apply ByteArray.ext
  simp [sr15, ByteArray.data_append]
theorem said_le {a : Int} (ha : Sn.I5 a) : (Sn.saidS a).length ≤ 24 := by
  unfold Sn.saidS
  split
  · have := (Sn.decL_len 19 (-(a + 1)).toNat (by omega) (by omega)).2
    simp
    omega
  · have := (Sn.decL_len 19 a.toNat (by omega) (by omega)).2
    omega
theorem lit_size (l : List UInt8) : (⟨l.toArray⟩ : ByteArray).size = l.length := by simp [ByteArray.size]
theorem rowA (w : World) (arr : List Value) (e : TypeId) (j : Nat) (u : Value) (hj : arr[j]? = some u) : (w.alloc (.cells arr.toArray e)).cell? ⟨w.heap.size, j, none⟩ = some u := by
  have := World.cell?_alloc_new (w := w) arr.toArray e j
  rw [this]; simpa using hj
theorem ovr_all (arr cells : Array Value) (h : arr.size = cells.size) : Ev.ovr arr 0 cells.toList = cells := by
  apply Array.ext_getElem?
  intro i
  rw [Ev.ovr_at _ _ _ _ (by simp; omega)]
  by_cases hl : i < cells.size
  · rw [if_pos (by simp; omega)]; simp
  · rw [if_neg (by simp; omega), Array.getElem?_eq_none (by omega), Array.getElem?_eq_none (by omega)]
theorem st_all {w : World} {b : Nat} {arr cells : Array Value} {t : TypeId} (hb : w.heap[b]? = some (.cells arr t (0, 0))) (hsz : arr.size = cells.size) : (w.setCells b 0 cells.toList).heap[b]? = some (.cells cells t (0, 0)) ∧ (∀ j, j ≠ b → (w.setCells b 0 cells.toList).heap[j]? = w.heap[j]?) ∧ Below b w (w.setCells b 0 cells.toList) ∧ (w.setCells b 0 cells.toList).heap.size = w.heap.size := by
  obtain ⟨e1, e2, e3⟩ := Ev.setCells_blk b cells.toList 0 w hb
  have hlo := Ev.setCells_low b cells.toList 0 w
  exact ⟨by rw [e1, ovr_all arr cells hsz], e3, ⟨hlo.os, hlo.tape, hlo.output, hlo.size, fun k hk => e3 k (by omega)⟩, e2⟩
theorem eight {w : World} {b : Nat} {v0 v1 v2 v3 v4 v5 v6 v7 : Value} {t : TypeId} (h : w.heap[b]? = some (.cells #[v0, v1, v2, v3, v4, v5, v6, v7] t (0, 0))) : (w.cell? ⟨b, 0, none⟩ = some v0 ∧ w.cell? ⟨b, 1, none⟩ = some v1 ∧ w.cell? ⟨b, 2, none⟩ = some v2 ∧ w.cell? ⟨b, 3, none⟩ = some v3 ∧ w.cell? ⟨b, 4, none⟩ = some v4 ∧ w.cell? ⟨b, 5, none⟩ = some v5 ∧ w.cell? ⟨b, 6, none⟩ = some v6 ∧ w.cell? ⟨b, 7, none⟩ = some v7) ∧ w.frozen? ⟨b, 0, none⟩ = false ∧ w.frozen? ⟨b, 1, none⟩ = false ∧ w.frozen? ⟨b, 2, none⟩ = false ∧ w.frozen? ⟨b, 3, none⟩ = false ∧ w.frozen? ⟨b, 4, none⟩ = false ∧ w.frozen? ⟨b, 5, none⟩ = false ∧ w.frozen? ⟨b, 6, none⟩ = false ∧ w.frozen? ⟨b, 7, none⟩ = false := by
  have hc := fun j => Ev.cell_of h j
  have hf := fun j (hj : j < 8) => Ev.frozen_of h (.inl rfl) (j := j) hj
  exact ⟨⟨hc 0, hc 1, hc 2, hc 3, hc 4, hc 5, hc 6, hc 7⟩, hf 0 (by omega), hf 1 (by omega), hf 2 (by omega), hf 3 (by omega), hf 4 (by omega), hf 5 (by omega), hf 6 (by omega), hf 7 (by omega)⟩
theorem blk_last (w : World) (arr : Array Value) (t : TypeId) : (w.alloc (.cells arr t)).heap[w.heap.size]? = some (.cells arr t (0, 0)) := by
  show (w.heap.push _)[w.heap.size]? = _
  simp
set_option maxRecDepth 100000 in
theorem cells_in {w : World} {a b z : Int} (ha : Sn.I5 a) (hb : Sn.I5 b) (hz : Sn.I6 z) {n : Nat} {i : Int} (hn : Sn.pk z 5 = n) (hi : Sn.wv z = i) (h0 : 0 ≤ i) (h1 : i < (n : Int)) (h5 : n < 5)
    (hR : Ran ⟨(sr15 a b i n).toArray⟩ (.slice none 0 0) (2 * (n + 1)) 1 w 0 0 (Sn.wv (a - b)) [] 0) :
    Yes 12 #[.int .i64 a, .int .i64 b, .int .i64 z] w := by
  unfold Yes
  have CP := Lib.hid (Sn.pick_w hz (n := 5) (by omega) (by omega))
  have CZ := Lib.hid (Sn.wrap_w z)
  have CN := Lib.hid (Sn.digits_w (n := n) (by omega))
  have hI : Sn.I5 i := by rw [← hi]; exact wv_in z
  have CI := Lib.hid (Sn.said_w hI)
  have CA := Lib.hid (Sn.said_w ha)
  have CB := Lib.hid (Sn.said_w hb)
  have CW := Lib.hid (Sn.wrap_w (a - b))
  rw [hn] at CP
  rw [hi] at CZ
  have HR := Lib.hid hR
  have HS := Lib.hid (str15 a b i n)
  have lN := (Sn.decL_len 19 n (by omega) (by omega)).2
  have lA := said_le ha
  have lB := said_le hb
  have lI := said_le hI
  rw [← lit_size] at lN lA lB lI
  generalize (⟨(Sn.decL n).toArray⟩ : ByteArray) = sn at CN HS lN
  generalize (⟨(Sn.saidS a).toArray⟩ : ByteArray) = sa at CA HS lA
  generalize (⟨(Sn.saidS b).toArray⟩ : ByteArray) = sb at CB HS lB
  generalize (⟨(Sn.saidS i).toArray⟩ : ByteArray) = si at CI HS lI
  clear hR hn hi
  have HB0 := Lib.hid (Below.refl w.heap.size w)
  go_enter Tryz.func12, Tryz.ntmps12
  go_upto_region 2 with (go_at_call 6; refine (CP.out _).mono ?_; rintro e w1 ⟨rfl, rfl⟩)
  go_upto_region 3 with (go_at_call 5; refine (CZ.out _).mono ?_; rintro e w1 ⟨rfl, rfl⟩)
  go_upto_region 4 with (go_at_call 7; refine (CN.out _).mono ?_; rintro e w2 ⟨rfl, hb2⟩)
  have HB2 := Lib.hid (HB0.out.trans (hb2.mono HB0.out.size))
  clear hb2
  go_upto_region 5 with (go_at_call 8; refine (CI.out _).mono ?_; rintro e w3 ⟨rfl, hb3⟩)
  have HB3 := Lib.hid (HB2.out.trans (hb3.mono HB2.out.size))
  clear hb3
  go_upto_region 6 with (go_at_call 8; refine (CA.out _).mono ?_; rintro e w4 ⟨rfl, hb4⟩)
  have HB4 := Lib.hid (HB3.out.trans (hb4.mono HB3.out.size))
  clear hb4
  go_upto_region 7 with (fail)
  go_upto_region 8 with (go_at_call 8; refine (CB.out _).mono ?_; rintro e w5 ⟨rfl, hb5⟩)
  have HB5 := Lib.hid (HB4.out.trans (hb5.mono HB4.out.size))
  clear hb5
  go_upto_region 9 with (go_at_call 11; rw [HS.out]; refine (HR.out _ HB5.out).mono ?_; rintro e w6 ⟨ra, rc, st, gc, us, rfl, hcell, hb6⟩; clear hcell)
  have HB6 := Lib.hid (HB5.out.trans (hb6.mono HB5.out.size))
  clear hb6
  go_wp2_with (first
    | (go_at_call 5; refine (CW.out _).mono ?_; rintro e w7 ⟨rfl, rfl⟩))
  go_ret
  exact ⟨rfl, HB6.out.alloc HB6.out.size _⟩
set_option maxRecDepth 100000 in
theorem cells_out {w : World} {a b z : Int} (ha : Sn.I5 a) (hb : Sn.I5 b) (hz : Sn.I6 z) {n : Nat} {i : Int} (hn : Sn.pk z 5 = n) (hi : Sn.wv z = i) (h01 : ¬ (0 ≤ i ∧ i < (n : Int))) (h5 : n < 5)
    (hR : Ran ⟨(sr15 a b i n).toArray⟩ (.slice none 0 0) (2 * (n + 1)) 1 w 30 (at15 a i n) 0 [] 0) {er qr vr : Int} (hE : (0 ≤ i ∧ i ≤ 32 ∧ er = 0 ∧ vr = i) ∨ (¬ (0 ≤ i ∧ i ≤ 32) ∧ er = 31 ∧ qr = 4)) (hR2 : ∀ W k, Below w.heap.size w W → k < W.heap.size → 2 ≤ k → W.cell? ⟨k, 0, none⟩ = some (.int .i64 i) → RunIs ⟨(sr16 a b i n).toArray⟩ (.slice (some ⟨k, 0, none⟩) 1 1) 66 1 W er qr vr [] 1) (hw2 : 2 ≤ w.heap.size) :
    Yes 12 #[.int .i64 a, .int .i64 b, .int .i64 z] w := by
  unfold Yes
  have CP := Lib.hid (Sn.pick_w hz (n := 5) (by omega) (by omega))
  have CZ := Lib.hid (Sn.wrap_w z)
  have CN := Lib.hid (Sn.digits_w (n := n) (by omega))
  have hI : Sn.I5 i := by rw [← hi]; exact wv_in z
  have CI := Lib.hid (Sn.said_w hI)
  have CA := Lib.hid (Sn.said_w ha)
  have CB := Lib.hid (Sn.said_w hb)
  rw [hn] at CP
  rw [hi] at CZ
  have HR := Lib.hid hR
  have HS := Lib.hid (str15 a b i n)
  have hat : at15 a i n = ((12 + (Sn.decL n).length + 1 + (Sn.saidS a).length + 10 + (Sn.saidS i).length + 2 : Nat) : Int) := rfl
  rw [← lit_size (Sn.decL n), ← lit_size (Sn.saidS a), ← lit_size (Sn.saidS i)] at hat
  rw [hat] at HR
  clear hat
  have HR2 := Lib.hid hR2
  have HE := Lib.hid hE
  clear hR2 hE
  have lN := (Sn.decL_len 19 n (by omega) (by omega)).2
  have lA := said_le ha
  have lB := said_le hb
  have lI := said_le hI
  rw [← lit_size] at lN lA lB lI
  generalize (⟨(Sn.decL n).toArray⟩ : ByteArray) = sn at CN HS lN HR
  generalize (⟨(Sn.saidS a).toArray⟩ : ByteArray) = sa at CA HS lA HR
  generalize (⟨(Sn.saidS b).toArray⟩ : ByteArray) = sb at CB HS lB
  generalize (⟨(Sn.saidS i).toArray⟩ : ByteArray) = si at CI HS lI HR
  clear hR hn hi
  obtain ⟨P, hP⟩ : ∃ P : Int, ((12 + sn.size + 1 + sa.size + 10 + si.size + 2 : Nat) : Int) = P := ⟨_, rfl⟩
  rw [hP] at HR
  have HP := Lib.hid hP
  clear hP
  have HB0 := Lib.hid (Below.refl w.heap.size w)
  go_enter Tryz.func12, Tryz.ntmps12
  go_upto_region 2 with (go_at_call 6; refine (CP.out _).mono ?_; rintro e w1 ⟨rfl, rfl⟩)
  go_upto_region 3 with (go_at_call 5; refine (CZ.out _).mono ?_; rintro e w1 ⟨rfl, rfl⟩)
  go_upto_region 4 with (go_at_call 7; refine (CN.out _).mono ?_; rintro e w2 ⟨rfl, hb2⟩)
  have HB2 := Lib.hid (HB0.out.trans (hb2.mono HB0.out.size))
  clear hb2
  go_upto_region 5 with (go_at_call 8; refine (CI.out _).mono ?_; rintro e w3 ⟨rfl, hb3⟩)
  have HB3 := Lib.hid (HB2.out.trans (hb3.mono HB2.out.size))
  clear hb3
  go_upto_region 6 with (go_at_call 8; refine (CA.out _).mono ?_; rintro e w4 ⟨rfl, hb4⟩)
  have HB4 := Lib.hid (HB3.out.trans (hb4.mono HB3.out.size))
  clear hb4
  go_upto_region 7 with (fail)
  have ls : ((⟨#[108, 101, 116, 32, 116, 61, 97, 114, 114, 97, 121, 32]⟩ : ByteArray) ++ sn ++ ⟨#[32]⟩ ++ sa ++ ⟨#[32, 105, 110, 32, 112, 117, 116, 32, 116, 32]⟩).size = 12 + sn.size + 1 + sa.size + 10 := by
    simp only [ByteArray.size_append]
    rfl
  generalize hsrc : (⟨#[108, 101, 116, 32, 116, 61, 97, 114, 114, 97, 121, 32]⟩ : ByteArray) ++ sn ++ ⟨#[32]⟩ ++ sa ++ ⟨#[32, 105, 110, 32, 112, 117, 116, 32, 116, 32]⟩ = src at HS ls ⊢
  clear hsrc
  have hP : P = (src.size : Int) + (si.size : Int) + 2 := by have := HP.out; omega
  subst hP
  have hls : src.size ≤ 100 := by omega
  clear HP ls
  go_upto_region 8 with (go_at_call 8; refine (CB.out _).mono ?_; rintro e w5 ⟨rfl, hb5⟩)
  have HB5 := Lib.hid (HB4.out.trans (hb5.mono HB4.out.size))
  clear hb5
  go_upto_region 9 with (go_at_call 11; rw [HS.out]; refine (HR.out _ HB5.out).mono ?_; rintro e w6 ⟨ra, rc, st, gc, us, rfl, hcell, hb6⟩; clear hcell)
  have HB6 := Lib.hid (HB5.out.trans (hb6.mono HB5.out.size))
  clear hb6
  have B6 := HB6.out.alloc HB6.out.size (.cells #[.int .i64 30, .int .i64 ((src.size : Int) + (si.size : Int) + 2), .int .i64 0, .slice ra 0 rc, .int .i64 st, .int .i64 0, .int .i64 gc, .int .i64 us] 30)
  have HC6 := Lib.hid B6
  have BK := Lib.hid (blk_last w6 #[.int .i64 30, .int .i64 ((src.size : Int) + (si.size : Int) + 2), .int .i64 0, .slice ra 0 rc, .int .i64 st, .int .i64 0, .int .i64 gc, .int .i64 us] 30)
  clear B6
  generalize hw6 : w6.alloc _ = wb at HC6 BK ⊢
  have hwb : w6.heap.size < wb.heap.size := by rw [← hw6, World.size_alloc]; omega
  have hwl : w1.heap.size ≤ w6.heap.size := HB6.out.size
  obtain ⟨bx, hbx⟩ : ∃ bx, w6.heap.size = bx := ⟨_, rfl⟩
  rw [hbx] at BK hwb hwl ⊢
  clear hw6 hbx
  obtain ⟨⟨k0, k1, k2, k3, k4, k5, k6, k7⟩, ⟨l0, l1, l2, l3, l4, l5, l6, l7⟩⟩ := eight BK.out
  have hii : i < 0 ∨ (0 ≤ i ∧ (n : Int) ≤ i) := by omega
  clear h01
  have E16 : Hid ((⟨#[108, 101, 110, 40]⟩ : ByteArray) ++ ⟨#[97, 114, 114, 97, 121, 40, 114, 101, 97, 100, 41, 55, 41]⟩ = ⟨(sr16 a b i n).toArray⟩) := rfl
  rcases hii with hneg | ⟨hp0, hpn⟩
  · go_upto_region 16 with (fail)
    clear k0 k1 k2 k3 k4 k5 k6 k7 l0 l1 l2 l3 l4 l5 l6 l7
    go_upto_region 18 with (go_at_call 11; rw [E16.out]; refine (HR2.out _ wb.heap.size (HC6.out.alloc HC6.out.size _) (by rw [World.size_alloc]; omega) (by omega) (rowA wb [.int .i64 i] _ 0 _ rfl)).mono ?_; rintro e w7 ⟨ra', rc', st', gc', us', rfl, hcell', hb7⟩; clear hcell'; have BK2 := Lib.hid ((hb7.block bx (by rw [World.size_alloc]; omega)).trans (((Below.refl wb.heap.size wb).alloc (Nat.le_refl _) _ |>.block bx hwb).trans BK.out)); obtain ⟨⟨k0, k1, k2, k3, k4, k5, k6, k7⟩, ⟨l0, l1, l2, l3, l4, l5, l6, l7⟩⟩ := eight BK2.out; have HB7 := Lib.hid ((HC6.out.alloc HC6.out.size _).trans (hb7.mono (HC6.out.alloc HC6.out.size _).size)); clear hb7)
    clear k0 k1 k2 k3 k4 k5 k6 k7 l0 l1 l2 l3 l4 l5 l6 l7
    generalize hw8 : World.setCell _ _ _ = w8
    have hw8 : w7.setCells bx 0 (#[.int .i64 er, .int .i64 qr, .int .i64 vr, .slice ra' 0 rc', .int .i64 st', .int .i64 1, .int .i64 gc', .int .i64 us'] : Array Value).toList = w8 := hw8
    obtain ⟨c1, c2, c3, c4⟩ := st_all (cells := #[.int .i64 er, .int .i64 qr, .int .i64 vr, .slice ra' 0 rc', .int .i64 st', .int .i64 1, .int .i64 gc', .int .i64 us']) BK2.out rfl
    rw [hw8] at c1 c2 c3 c4
    clear hw8
    obtain ⟨⟨k0, k1, k2, _⟩, _⟩ := eight c1
    have HB8 := Lib.hid (HB7.out.trans (c3.mono hwl))
    clear c1 c2 c3 c4
    rcases HE.out with ⟨e1, e2, rfl, rfl⟩ | ⟨e1, rfl, rfl⟩
    · omega
    · go_wp2_with fail
      go_ret
      exact ⟨rfl, HB8.out⟩
  · go_upto_region 16 with (fail)
    clear k0 k1 k2 k3 k4 k5 k6 k7 l0 l1 l2 l3 l4 l5 l6 l7
    go_upto_region 18 with (go_at_call 11; rw [E16.out]; refine (HR2.out _ wb.heap.size (HC6.out.alloc HC6.out.size _) (by rw [World.size_alloc]; omega) (by omega) (rowA wb [.int .i64 i] _ 0 _ rfl)).mono ?_; rintro e w7 ⟨ra', rc', st', gc', us', rfl, hcell', hb7⟩; clear hcell'; have BK2 := Lib.hid ((hb7.block bx (by rw [World.size_alloc]; omega)).trans (((Below.refl wb.heap.size wb).alloc (Nat.le_refl _) _ |>.block bx hwb).trans BK.out)); obtain ⟨⟨k0, k1, k2, k3, k4, k5, k6, k7⟩, ⟨l0, l1, l2, l3, l4, l5, l6, l7⟩⟩ := eight BK2.out; have HB7 := Lib.hid ((HC6.out.alloc HC6.out.size _).trans (hb7.mono (HC6.out.alloc HC6.out.size _).size)); clear hb7)
    clear k0 k1 k2 k3 k4 k5 k6 k7 l0 l1 l2 l3 l4 l5 l6 l7
    generalize hw8 : World.setCell _ _ _ = w8
    have hw8 : w7.setCells bx 0 (#[.int .i64 er, .int .i64 qr, .int .i64 vr, .slice ra' 0 rc', .int .i64 st', .int .i64 1, .int .i64 gc', .int .i64 us'] : Array Value).toList = w8 := hw8
    obtain ⟨c1, c2, c3, c4⟩ := st_all (cells := #[.int .i64 er, .int .i64 qr, .int .i64 vr, .slice ra' 0 rc', .int .i64 st', .int .i64 1, .int .i64 gc', .int .i64 us']) BK2.out rfl
    rw [hw8] at c1 c2 c3 c4
    clear hw8
    obtain ⟨⟨k0, k1, k2, _⟩, _⟩ := eight c1
    have HB8 := Lib.hid (HB7.out.trans (c3.mono hwl))
    clear c1 c2 c3 c4
    rcases HE.out with ⟨e1, e2, rfl, rfl⟩ | ⟨e1, rfl, rfl⟩
    · go_wp2_with fail
      go_ret
      exact ⟨rfl, HB8.out⟩
    · have e3 : 32 < i := by omega
      go_wp2_with fail
      go_ret
      exact ⟨rfl, HB8.out⟩
end Lo
end Go.Proofs.YtjmifcnfnihhnaaGreatDoor
/- LOOPED: cells answers true. -/
set_option linter.unusedVariables false
set_option linter.unusedSimpArgs false
namespace Go.Proofs.YtjmifcnfnihhnaaGreatDoor
namespace Lo
open Go.RowKit Lr Sm
theorem wv_cases {z : Int} (hz : Sn.I6 z) : (z < -4611686018427387904 ∧ Sn.wv z = z + 9223372036854775808) ∨ (-4611686018427387904 ≤ z ∧ z < 4611686018427387904 ∧ Sn.wv z = z) ∨ (4611686018427387904 ≤ z ∧ Sn.wv z = z - 9223372036854775808) := by
  rcases Int.lt_trichotomy z (-4611686018427387904) with h | h | h
  · exact .inl ⟨h, by unfold Sn.wv wrap64; omega⟩
  · exact .inr (.inl ⟨by omega, by omega, wv_id (by omega)⟩)
  · by_cases h2 : z < 4611686018427387904
    · exact .inr (.inl ⟨by omega, h2, wv_id (by omega)⟩)
    · exact .inr (.inr ⟨by omega, by unfold Sn.wv wrap64; omega⟩)
theorem in_two {z : Int} (hz : Sn.I6 z) {n : Nat} {i : Int} (hn : Sn.pk z 5 = n) (hi : Sn.wv z = i) (h0 : 0 ≤ i) (h1 : i < (n : Int)) : (n = 2 ∧ i = 0) ∨ (n = 4 ∧ i = 3) := by
  have h5 : n < 5 := by rw [← hn]; exact Sn.pk_lt z (by omega)
  rcases wv_cases hz with ⟨h, e⟩ | ⟨h, h', e⟩ | ⟨h, e⟩
  · have hz' : z = i - 9223372036854775808 := by omega
    have : i = 0 ∨ i = 1 ∨ i = 2 ∨ i = 3 ∨ i = 4 := by omega
    clear hz h e hi
    subst hz'
    rcases this with rfl | rfl | rfl | rfl | rfl
    · have : Sn.pk (0 - 9223372036854775808) 5 = 2 := by decide
      omega
    · have : Sn.pk (1 - 9223372036854775808) 5 = 1 := by decide
      omega
    · have : Sn.pk (2 - 9223372036854775808) 5 = 0 := by decide
      omega
    · have : Sn.pk (3 - 9223372036854775808) 5 = 4 := by decide
      omega
    · have : Sn.pk (4 - 9223372036854775808) 5 = 3 := by decide
      omega
  · exfalso
    have hp : Sn.pk z 5 = (z % ((5 : Nat) : Int)).toNat := by unfold Sn.pk; rw [if_neg (by omega)]
    omega
  · exfalso
    have : Sn.I6 z := hz
    omega
/-- all that is evaluated of the texts with arrays -/
structure EvC : Prop where
  e000 : Ev15_000
  e001 : Ev15_001
  e010 : Ev15_010
  e011 : Ev15_011
  e100 : Ev15_100
  e101 : Ev15_101
  e110 : Ev15_110
  e111 : Ev15_111
  e16 : Ev16
theorem cells_w (E : EvC) {w : World} (hw : Lw w) (h2 : 2 ≤ w.heap.size) {a b z : Int} (ha : Sn.I5 a) (hb : Sn.I5 b) (hz : Sn.I6 z) : Yes 12 #[.int .i64 a, .int .i64 b, .int .i64 z] w := by
  obtain ⟨e0, e1, e2, e3, e4, e5, e6, e7, e8⟩ := E
  obtain ⟨n, hn⟩ : ∃ n, Sn.pk z 5 = n := ⟨_, rfl⟩
  obtain ⟨i, hi⟩ : ∃ i, Sn.wv z = i := ⟨_, rfl⟩
  have h5 : n < 5 := by rw [← hn]; exact Sn.pk_lt z (by omega)
  have hI : Sn.I5 i := by rw [← hi]; exact wv_in z
  by_cases h : 0 ≤ i ∧ i < (n : Int)
  · refine cells_in ha hb hz hn hi h.1 h.2 h5 ?_
    rcases in_two hz hn hi h.1 h.2 with ⟨rfl, rfl⟩ | ⟨rfl, rfl⟩
    · exact R15_2 e0 e1 e2 e3 e4 e5 e6 e7 ha hb hw
    · exact R15_4 e0 e1 e2 e3 e4 e5 e6 e7 ha hb hw
  · have hR := R15 e0 e1 e2 e3 e4 e5 e6 e7 ha hb hI (n := n) (by omega) 0 0 0 hw h5 h
    by_cases hlo : i < 0
    · exact cells_out ha hb hz hn hi h h5 hR (er := 31) (qr := 4) (vr := 0) (.inr ⟨by omega, rfl, rfl⟩) (fun W k hW hk h2 k0 => R16a e8 ha hb hI (n := n) (by omega) 0 0 0 (lw_on hw hW) hlo h2 hk k0 W (Below.refl _ _)) h2
    · by_cases hhi : 32 < i
      · exact cells_out ha hb hz hn hi h h5 hR (er := 31) (qr := 4) (vr := 0) (.inr ⟨by omega, rfl, rfl⟩) (fun W k hW hk h2 k0 => R16b e8 ha hb hI (n := n) (by omega) 0 0 0 (lw_on hw hW) hhi h2 hk k0 W (Below.refl _ _)) h2
      · obtain ⟨m, rfl⟩ : ∃ m : Nat, i = (m : Int) := ⟨i.toNat, by omega⟩
        exact cells_out ha hb hz hn hi h h5 hR (er := 0) (qr := 0) (vr := (m : Int)) (.inl ⟨by omega, by omega, rfl, rfl⟩) (fun W k hW hk h2 k0 => R16c e8 ha hb hI (n := n) (by omega) 0 0 0 (lw_on hw hW) (m := m) (by omega) h2 hk k0 W (Below.refl _ _)) h2
end Lo
end Go.Proofs.YtjmifcnfnihhnaaGreatDoor
/- LOOPED: its strings. -/
set_option linter.unusedVariables false
set_option linter.unusedSimpArgs false
namespace Go.Proofs.YtjmifcnfnihhnaaGreatDoor
namespace Lo
open Go.RowKit
theorem str1 (a b i : Int) (n : Nat) : (⟨#[108, 101, 116, 32, 114, 101, 99, 32, 102, 32, 110, 32, 97, 61, 105, 102, 32, 110, 61, 48, 32, 116, 104, 101, 110, 32, 97, 32, 101, 108, 115, 101, 32, 102, 40, 110, 45, 49, 41, 40, 97, 43, 110, 41, 105, 110, 32, 102, 32]⟩ : ByteArray) ++ ⟨(Sn.decL n).toArray⟩ ++ ⟨#[32, 48]⟩ = ⟨(sr1 a b i n).toArray⟩ := by
  apply ByteArray.ext
  simp [sr1, ByteArray.data_append]
theorem str2 (a b i : Int) (n : Nat) : (⟨#[108, 101, 116, 32, 114, 101, 99, 32, 102, 32, 110, 61, 105, 102, 32, 110, 61, 48, 32, 116, 104, 101, 110, 32, 48, 32, 101, 108, 115, 101, 32, 110, 43, 102, 40, 110, 45, 49, 41, 105, 110, 32, 102, 32]⟩ : ByteArray) ++ ⟨(Sn.decL n).toArray⟩ = ⟨(sr2 a b i n).toArray⟩ := by
  apply ByteArray.ext
  simp [sr2, ByteArray.data_append]
theorem str3 (a b i : Int) (n : Nat) : (⟨#[108, 101, 116, 32, 116, 61, 40, 114, 101, 97, 100, 44, 114, 101, 97, 100, 41, 105, 110, 32, 108, 101, 116, 32, 114, 101, 99, 32, 102, 32, 110, 61, 105, 102, 32, 110, 61, 48, 32, 116, 104, 101, 110, 32, 48, 32, 101, 108, 115, 101, 32, 108, 101, 116, 32, 97, 61, 97, 114, 114, 97, 121, 32, 57, 32, 110, 32, 105, 110, 32, 102, 40, 97, 46, 40, 56, 41, 45, 49, 41, 105, 110, 32, 108, 101, 116, 32, 122, 61, 102, 32]⟩ : ByteArray) ++ ⟨(Sn.decL n).toArray⟩ ++ ⟨#[32, 105, 110, 32, 108, 101, 116, 40, 120, 44, 121, 41, 61, 116, 32, 105, 110, 32, 120, 45, 121]⟩ = ⟨(sr3 a b i n).toArray⟩ := by
  apply ByteArray.ext
  simp [sr3, ByteArray.data_append]
theorem str4 (a b i : Int) (n : Nat) : (⟨#[108, 101, 116, 32, 114, 101, 99, 32, 109, 32, 110, 61, 102, 117, 110, 32, 120, 45, 62, 120, 42, 51, 45, 110, 32, 105, 110, 32, 108, 101, 116, 32, 102, 61, 109, 32]⟩ : ByteArray) ++ ⟨(Sn.saidS a).toArray⟩ ++ ⟨#[32, 105, 110, 32, 108, 101, 116, 32, 103, 61, 109, 32]⟩ ++ ⟨(Sn.saidS b).toArray⟩ ++ ⟨#[32, 105, 110, 32, 102, 40, 103, 32, 114, 101, 97, 100, 41]⟩ = ⟨(sr4 a b i n).toArray⟩ := by
  apply ByteArray.ext
  simp [sr4, ByteArray.data_append]
theorem str5 (a b i : Int) (n : Nat) : (⟨#[108, 101, 116, 32, 98, 61, 114, 101, 97, 100, 32, 105, 110, 32, 108, 101, 116, 32, 114, 101, 99, 32, 105, 116, 32, 110, 32, 102, 32, 120, 61, 105, 102, 32, 110, 61, 48, 32, 116, 104, 101, 110, 32, 120, 32, 101, 108, 115, 101, 32, 105, 116, 40, 110, 45, 49, 41, 102, 40, 102, 32, 120, 41, 105, 110, 32, 105, 116, 32]⟩ : ByteArray) ++ ⟨(Sn.decL n).toArray⟩ ++ ⟨#[40, 102, 117, 110, 32, 120, 45, 62, 120, 42, 51, 43, 98, 41, 114, 101, 97, 100]⟩ = ⟨(sr5 a b i n).toArray⟩ := by
  apply ByteArray.ext
  simp [sr5, ByteArray.data_append]
theorem str7 (a b i : Int) (n : Nat) : (⟨#[108, 101, 116, 32, 114, 101, 99, 32, 102, 32, 97, 32, 98, 32, 99, 32, 110, 61, 105, 102, 32, 110, 61, 48, 32, 116, 104, 101, 110, 40, 97, 42, 49, 48, 43, 98, 41, 42, 49, 48, 43, 99, 32, 101, 108, 115, 101, 32, 102, 32, 99, 32, 97, 32, 98, 40, 110, 45, 49, 41, 105, 110, 32, 102, 32, 49, 32, 50, 32, 51, 32]⟩ : ByteArray) ++ ⟨(Sn.decL n).toArray⟩ = ⟨(sr7 a b i n).toArray⟩ := by
  apply ByteArray.ext
  simp [sr7, ByteArray.data_append]
theorem str8 (a b i : Int) (n : Nat) : (⟨#[40, 112, 114, 105, 110, 116, 32]⟩ : ByteArray) ++ ⟨(Sn.saidS a).toArray⟩ ++ ⟨#[59]⟩ ++ ⟨(Sn.saidS b).toArray⟩ ++ ⟨#[41, 45, 40, 112, 114, 105, 110, 116, 32]⟩ ++ ⟨(Sn.saidS b).toArray⟩ ++ ⟨#[59]⟩ ++ ⟨(Sn.saidS a).toArray⟩ ++ ⟨#[41]⟩ = ⟨(sr8 a b i n).toArray⟩ := by
  apply ByteArray.ext
  simp [sr8, ByteArray.data_append]
theorem str12 (a b i : Int) (n : Nat) : (⟨#[108, 101, 116, 32, 114, 101, 99, 32, 102, 32, 110, 61, 105, 102, 32, 110, 61, 48, 32, 116, 104, 101, 110, 32, 48, 32, 101, 108, 115, 101, 40, 112, 114, 105, 110, 116, 32, 110, 59, 102, 40, 110, 45, 49, 41, 41, 105, 110, 32, 102, 32]⟩ : ByteArray) ++ ⟨(Sn.decL n).toArray⟩ = ⟨(sr12 a b i n).toArray⟩ := by
  apply ByteArray.ext
  simp [sr12, ByteArray.data_append]
theorem str13 (a b i : Int) (n : Nat) : (⟨#[108, 101, 116, 32, 120, 61]⟩ : ByteArray) ++ ⟨(Sn.saidS a).toArray⟩ ++ ⟨#[32, 105, 110, 32, 108, 101, 116, 32, 121, 61, 40, 108, 101, 116, 32, 120, 61]⟩ ++ ⟨(Sn.saidS b).toArray⟩ ++ ⟨#[32, 105, 110, 32, 120, 41, 105, 110, 32, 108, 101, 116, 32, 120, 61, 120, 45, 121, 32, 105, 110, 32, 120]⟩ = ⟨(sr13 a b i n).toArray⟩ := by
  apply ByteArray.ext
  simp [sr13, ByteArray.data_append]
set_option maxRecDepth 100000 in
theorem str6 (a b i : Int) (n : Nat) : (⟨#[108, 101, 116, 32, 114, 101, 99, 32, 102, 32, 97, 32, 98, 32, 99, 32, 100, 32, 110, 61, 105, 102, 32, 110, 61, 48, 32, 116, 104, 101, 110, 40, 40, 97, 42, 49, 48, 43, 98, 41, 42, 49, 48, 43, 99, 41, 42, 49, 48, 43, 100, 32, 101, 108, 115, 101, 32, 102, 32, 100, 32, 97, 32, 98, 32, 99, 40, 110, 45, 49, 41, 105, 110, 32, 49]⟩ : ByteArray) = ⟨(sr6 a b i n).toArray⟩ := rfl
set_option maxRecDepth 100000 in
theorem str9 (a b i : Int) (n : Nat) : (⟨#[40, 112, 114, 105, 110, 116, 32, 48, 59, 102, 117, 110, 32, 120, 32, 121, 45, 62, 120, 45, 121, 41, 40, 112, 114, 105, 110, 116, 32, 49, 59, 114, 101, 97, 100, 41, 40, 112, 114, 105, 110, 116, 32, 50, 59, 114, 101, 97, 100, 41]⟩ : ByteArray) = ⟨(sr9 a b i n).toArray⟩ := rfl
set_option maxRecDepth 100000 in
theorem str10 (a b i : Int) (n : Nat) : (⟨#[108, 101, 116, 32, 97, 61, 97, 114, 114, 97, 121, 40, 112, 114, 105, 110, 116, 32, 49, 59, 50, 41, 40, 112, 114, 105, 110, 116, 32, 50, 59, 55, 41, 105, 110, 32, 112, 117, 116, 40, 112, 114, 105, 110, 116, 32, 51, 59, 97, 41, 40, 112, 114, 105, 110, 116, 32, 52, 59, 49, 41, 40, 112, 114, 105, 110, 116, 32, 53, 59, 56, 41, 59, 108, 101, 116, 40, 120, 44, 121, 41, 61, 40, 40, 112, 114, 105, 110, 116, 32, 54, 59, 97, 41, 46, 40, 112, 114, 105, 110, 116, 32, 55, 59, 48, 41, 44, 40, 112, 114, 105, 110, 116, 32, 56, 59, 97, 41, 46, 40, 112, 114, 105, 110, 116, 32, 57, 59, 49, 41, 41, 105, 110, 32, 120, 42, 49, 48, 43, 121]⟩ : ByteArray) = ⟨(sr10 a b i n).toArray⟩ := rfl
set_option maxRecDepth 100000 in
theorem str11 (a b i : Int) (n : Nat) : (⟨#[114, 101, 97, 100, 43, 114, 101, 97, 100]⟩ : ByteArray) = ⟨(sr11 a b i n).toArray⟩ := rfl
set_option maxRecDepth 100000 in
theorem str14 (a b i : Int) (n : Nat) : (⟨#[108, 101, 116, 32, 120, 61, 114, 101, 97, 100, 32, 105, 110, 32, 108, 101, 116, 32, 121, 61, 114, 101, 97, 100, 32, 105, 110, 32, 120, 45, 121, 45, 55, 43, 120, 42, 121, 45, 120, 47, 51, 47, 50, 37, 53]⟩ : ByteArray) = ⟨(sr14 a b i n).toArray⟩ := rfl
theorem wv_w2 (s t : Int) : Sn.wv (wrap64 (wrap64 s - t)) = Sn.wv (s - t) := by unfold Sn.wv wrap64; omega
theorem wv_w3 (s t : Int) : Sn.wv (wrap64 (wrap64 s + t)) = Sn.wv (s + t) := by unfold Sn.wv wrap64; omega
theorem Ran.on {src : ByteArray} {vin : Value} {words depth : Nat} {w w' : World} {e q v : Int} {out : List Int} {rd : Int} (h : Ran src vin words depth w e q v out rd) (hb : Below w.heap.size w w') : Ran src vin words depth w' e q v out rd := fun W hW => h W (hb.trans (hW.mono hb.size))
end Lo
end Go.Proofs.YtjmifcnfnihhnaaGreatDoor
