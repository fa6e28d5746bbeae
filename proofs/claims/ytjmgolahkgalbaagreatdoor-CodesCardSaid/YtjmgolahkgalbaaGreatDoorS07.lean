import Derived.Test.YtjmgolahkgalbaaGreatDoorS06
import Derived.Lib.Hide
import Derived.Deep.RegionWith
import Derived.Deep.Cut
import Derived.Deep.CutRange
import Derived.Deep.DeepCutAuto
set_option linter.unusedVariables false
set_option linter.unusedSimpArgs false
set_option maxHeartbeats 20000000
namespace Go.Proofs.YtjmgolahkgalbaaGreatDoor
open Go.RowKit Li
variable {s : ByteArray} {w : World} {r : Nat}
def cF (s : ByteArray) (i : Nat) : List Value := [.int .i64 (r0 s i),.int .i64 (r1 s i),.int .i64 (r2 s i),.int .i64 (r3 s i)]
theorem jcD (s : ByteArray) : ∀ i,(cF s i).length = 4 := fun _ => rfl
def rdB (s : ByteArray) (at' : Nat) (vF vN vL : Value) : Obj := .cells #[.string s,.int .i64 at',vF,vN,vL] 108 (0,0)
set_option maxRecDepth 100000 in
theorem jdq {g n c i nn cn nl cl : Nat} {an al : Option Addr} {a0 a1 a2 a3 : Int} (hn : n <= 70000) (hi : i < n) (hc : n <= c) (hg : g < w.heap.size) (d0 : w.cell? ⟨g,i * 4,none⟩ = some (.int .i64 a0)) (d1 : w.cell? ⟨g,i * 4 + 1,none⟩ = some (.int .i64 a1)) (d2 : w.cell? ⟨g,i * 4 + 2,none⟩ = some (.int .i64 a2)) (d3 : w.cell? ⟨g,i * 4 + 3,none⟩ = some (.int .i64 a3)) :
 Calls Tryz.prog 66 #[.agg #[.slice (some ⟨g,0,none⟩) n c,.slice an nn cn,.slice al nl cl],.int .i64 i] w fun e w' => e = .returned (.agg #[.int .i64 a0,.int .i64 a1,.int .i64 a2,.int .i64 a3]) /\ Below w.heap.size w w' := by
 have hB : ∀ o1 o2 : Obj,Below w.heap.size w ((w.alloc o1).alloc o2) := fun o1 o2 => (jB.alloc jN _).alloc (by rw [World.size_alloc];omega) _
 have e0 : ∀ o1 o2 : Obj,((w.alloc o1).alloc o2).cell? ⟨g,i * 4,none⟩ = some (.int .i64 a0) := fun o1 o2 => ((hB o1 o2).cell (p := ⟨g,_,none⟩) hg).trans d0
 have e1 : ∀ o1 o2 : Obj,((w.alloc o1).alloc o2).cell? ⟨g,i * 4 + 1,none⟩ = some (.int .i64 a1) := fun o1 o2 => ((hB o1 o2).cell (p := ⟨g,_,none⟩) hg).trans d1
 have e2 : ∀ o1 o2 : Obj,((w.alloc o1).alloc o2).cell? ⟨g,i * 4 + 2,none⟩ = some (.int .i64 a2) := fun o1 o2 => ((hB o1 o2).cell (p := ⟨g,_,none⟩) hg).trans d2
 have e3 : ∀ o1 o2 : Obj,((w.alloc o1).alloc o2).cell? ⟨g,i * 4 + 3,none⟩ = some (.int .i64 a3) := fun o1 o2 => ((hB o1 o2).cell (p := ⟨g,_,none⟩) hg).trans d3
 have HB : Hid (∀ o1 o2 : Obj,Below w.heap.size w ((w.alloc o1).alloc o2)) := hB
 have g1 : decide ((n : Int) <= (i : Int)) = false := by simp;omega
 have g2 : (i : Int) < (n : Int) := by omega
 clear hB d0 d1 d2 d3
 go_enter Tryz.func66,Tryz.ntmps66
 go_wp2
 go_returns
 exact ⟨rfl,HB.out _ _⟩
def flB (k f0 f1 f2 f3 p : Nat) : Bool := decide (f1 <= 4) && (decide (f2 <= 1) && decide (f3 <= 1024)) && (if k = 0 then (f0 == 0 && (f1 == 0 && f2 == 0)) else decide (p < f0))
theorem jkb (k f0 f1 f2 f3 l p : Nat) : rwB k f0 f1 f2 f3 l p = (flB k f0 f1 f2 f3 p && decide (f0 < l)) := by
 unfold rwB flB;simp only [Bool.and_assoc]
theorem jkc {k f0 f1 f2 f3 p : Nat} (h : 4 < f1 \/ 1 < f2 \/ 1024 < f3) : flB k f0 f1 f2 f3 p = false := by
 unfold flB
 rcases h with h | h | h
 ·rw [show decide (f1 <= 4) = false by simp;omega];simp
 ·rw [show decide (f2 <= 1) = false by simp;omega];simp
 ·rw [show decide (f3 <= 1024) = false by simp;omega];simp
theorem jke {f0 f1 f2 f3 p : Nat} (h1 : f1 <= 4) (h2 : f2 <= 1) (h3 : f3 <= 1024) : flB 0 f0 f1 f2 f3 p = (f0 == 0 && (f1 == 0 && f2 == 0)) := by
 unfold flB
 rw [show decide (f1 <= 4) = true by simp;omega,show decide (f2 <= 1) = true by simp;omega,show decide (f3 <= 1024) = true by simp;omega]
 simp
theorem jkd {k f0 f1 f2 f3 p : Nat} (hk : k ≠ 0) (h1 : f1 <= 4) (h2 : f2 <= 1) (h3 : f3 <= 1024) : flB k f0 f1 f2 f3 p = decide (p < f0) := by
 unfold flB
 rw [show decide (f1 <= 4) = true by simp;omega,show decide (f2 <= 1) = true by simp;omega,show decide (f3 <= 1024) = true by simp;omega,if_neg hk]
 simp
theorem jfj (a b c d : Int) (w : World) : Sem.run Tryz.prog (Instr.field 124 (.agg #[.int .i64 a,.int .i64 b,.int .i64 c,.int .i64 d]) 0) w = .ok (.int .i64 a) w := by kernel_rfl
set_option maxRecDepth 100000 in
theorem jj2 {r at' k nn cn nl cl f0 f1 f2 f3 : Nat} {vF : Value} {an al : Option Addr} {R : Bool} (hR : flB k f0 f1 f2 f3 (r0 s (k - 1)) = R) (hk : k <= 70000) (hblk : w.heap[r]? = some (rdB s at' vF (.slice an nn cn) (.slice al nl cl))) {base : Nat} (hown : w.ownsRow base 124 4 vF k (ji (cF s) k)) :
 Calls Tryz.prog 64 #[.pointer (some ⟨r,0,none⟩),.agg #[.int .i64 f0,.int .i64 f1,.int .i64 f2,.int .i64 f3]] w fun e w' => e = .returned (.bool R) /\ Below w.heap.size w w' := by
 have hlt := lt_of_block hblk
 have c2 := ja hblk 2 rfl
 have c2' : ∀ o,(w.alloc o).cell? ⟨r,2,none⟩ = some vF := jT hblk 2 rfl
 have c3' : ∀ o,(w.alloc o).cell? ⟨r,3,none⟩ = some (.slice an nn cn) := jT hblk 3 rfl
 have c4' : ∀ o,(w.alloc o).cell? ⟨r,4,none⟩ = some (.slice al nl cl) := jT hblk 4 rfl
 simp only [List.getElem_toArray,List.getElem_cons_zero,List.getElem_cons_succ] at c2
 obtain ⟨aF,cFc,rfl⟩ := j5 hown
 have HB : Hid (∀ o : Obj,Below w.heap.size w (w.alloc o)) := fun o => jB.alloc jN _
 by_cases h1 : f1 <= 4 /\ f2 <= 1 /\ f3 <= 1024
 ·obtain ⟨h1,h2,h3⟩ := h1
  by_cases hk0 : k = 0
  ·subst hk0
   have HR : Hid (R = (f0 == 0 && (f1 == 0 && f2 == 0))) := hR.symm.trans (jke h1 h2 h3)
   clear hR hblk hown
   go_enter Tryz.func64,Tryz.ntmps64
   go_wp2
   all_goals
    go_ret
    refine ⟨?_,HB.out _⟩
    refine JQ ?_
    rw [HR.out,Bool.eq_iff_iff]
    simp
    omega
  ·have HR : Hid (R = decide (r0 s (k - 1) < f0)) := hR.symm.trans (jkd hk0 h1 h2 h3)
   obtain ⟨m,rfl⟩ : ∃ m,k = m + 1 := ⟨k - 1,by omega⟩
   obtain ⟨g,cap,hsl,hg1,hg2,hg3,hg4⟩ := jaf hown (by omega)
   injection hsl with e1 e2 e3
   subst e1 e3
   have hk1 : (((m + 1 : Nat) : Int) == 0) = false := by simp;omega
   have HF : Hid (∀ (z : Int) w',z = (m : Int) -> Below w.heap.size w w' -> Calls Tryz.prog 66 #[.agg #[.slice (some ⟨g,0,none⟩) (m + 1) cFc,.slice an nn cn,.slice al nl cl],.int .i64 z] w' fun e w2 => e = .returned (.agg #[.int .i64 (r0 s m),.int .i64 (r1 s m),.int .i64 (r2 s m),.int .i64 (r3 s m)]) /\ Below w'.heap.size w' w2) := fun z w' hz hb => by
    subst hz
    have hcell : ∀ o v,o < 4 -> (cF s m)[o]? = some v -> w'.cell? ⟨g,m * 4 + o,none⟩ = some v := fun o v ho hv => by
     rw [hb.cell (p := ⟨g,m * 4 + o,none⟩) hg2,hown.cellAt (m * 4 + o) (by omega)]
     exact (Jq (jcD s) ho (m + 1) (by omega)).trans hv
    have hs := hb.size
    exact jdq (by omega) (by omega) hg3 (by omega) (hcell 0 _ (by omega) rfl) (hcell 1 _ (by omega) rfl) (hcell 2 _ (by omega) rfl) (hcell 3 _ (by omega) rfl)
   rw [Nat.add_sub_cancel] at HR
   have hf := jfj (r0 s m) (r1 s m) (r2 s m) (r3 s m)
   generalize (r0 s m : Nat) = q0 at *
   generalize (r1 s m : Int) = q1 at *
   generalize (r2 s m : Int) = q2 at *
   generalize (r3 s m : Int) = q3 at *
   clear hR hblk hown hk0
   go_enter Tryz.func64,Tryz.ntmps64
   have hwm : IntKind.i64.wrap (m : Int) = m := by rw [IntKind.wrap_i64];omega
   go_wp2
   go_region_with (go_at_call 66;refine (HF.out _ _ (by omega) (by first | exact HB.out _ | exact (HB.out _).drew)).mono ?_;rintro _ w2 ⟨rfl,hb2⟩;have hc2 : w2.cell? ⟨w.heap.size,0,none⟩ = some (.int .i64 f0) := (hb2.cell (p := ⟨w.heap.size,0,none⟩) (by first | (show w.heap.size < (w.alloc _).heap.size;rw [World.size_alloc];omega) | (show w.heap.size < (w.alloc _).drew.heap.size;show w.heap.size < (w.alloc _).heap.size;rw [World.size_alloc];omega))).trans (ja (jg w _) 0 rfl))
   all_goals
    rename_i Q' K hK
    refine hK _ _ ?_
    clear hK
    clear K
    go_wp2
    go_ret
    refine ⟨JQ ?_,?_⟩
    ·rw [HR.out]
    ·have hb3 := hb2.mono (show w.heap.size <= (w.alloc _).heap.size by rw [World.size_alloc];omega)
     first | exact (HB.out _).trans hb3 | exact ((HB.out _).drew).trans hb3
 ·have HR : Hid (R = false) := hR.symm.trans (jkc (by omega))
  clear hR hblk hown
  go_enter Tryz.func64,Tryz.ntmps64
  go_wp2
  all_goals
   first
    | omega
    | (go_ret;exact ⟨by rw [HR.out];rfl,HB.out _⟩)
theorem Tryz.inf124 : (Tryz.prog.info? 124).map (fun i => (i.zero,i.size,i.bytes)) = some (some (.agg #[.int .i64 0,.int .i64 0,.int .i64 0,.int .i64 0]),4,32) := by kernel_rfl
theorem Tryz.und65 : Tryz.prog.underlying 65 = some (.slice 124) := by kernel_rfl
def jn : Value := .slice none 0 0
structure Lone (r : Nat) (w w' : World) : Prop where
 below : Below r w w'
 size : w.heap.size <= w'.heap.size
 rest : ∀ b,b < w.heap.size -> b ≠ r -> w'.heap[b]? = w.heap[b]?
theorem Lone.refl (r : Nat) (w : World) : Lone r w w := ⟨jB,jN,fun _ _ _ => rfl⟩
theorem Lone.trans {w w1 w2 : World} (h : Lone r w w1) (h2 : Lone r w1 w2) : Lone r w w2 :=
 ⟨h.below.trans h2.below,Nat.le_trans h.size h2.size,fun b hb hr => (h2.rest b (by have := h.size;omega) hr).trans (h.rest b hb hr)⟩
theorem Lone.of {w w1 : World} (h : Below w.heap.size w w1) (hr : r <= w.heap.size) : Lone r w w1 := ⟨h.mono hr,h.size,fun b hb _ => h.block b hb⟩
theorem Lone.set {w w1 : World} (h : Lone r w w1) (i : Nat) (u : Value) : Lone r w (w1.setCell ⟨r,i,none⟩ u) :=
 ⟨h.below.setCell (p := ⟨r,i,none⟩) jN _,by rw [jy];exact h.size,fun b hb hr => by rw [Below.heap_setCell _ _ _ _ hr];exact h.rest b hb hr⟩
theorem Lone.drew {w w1 : World} (h : Lone r w w1) : Lone r w w1.drew := ⟨h.below.drew,h.size,h.rest⟩
theorem Lone.app {r base n size : Nat} {w w0 W w1 : World} {e : TypeId} {v : Value} {xs : List Value} (h0 : Lone r w w0) (hown : w0.ownsRow base e size v n xs) (hb : w.heap.size <= base) (hr : r < base) (hW : Below w0.heap.size w0 W) (hbase : base <= w0.heap.size) (hg : W.grownBy w1 v.ownBlock) : Lone r w w1 := by
 obtain ⟨h1,h2,h3⟩ := jan hown hW hbase hg
 exact ⟨h0.below.trans (h3.mono (by omega)),by have := h0.size;omega,fun b hb' hr' => (h1 b (by have := h0.size;omega) (fun h => by have := (hown.lt _ h).1;omega)).trans (h0.rest b hb' hr')⟩
set_option maxRecDepth 100000 in
theorem jd9 {r F L : Nat} (hs : s.size <= 600000) (hsz : 8 + 6 * F <= s.size) (hF : F < 65536) (hLl : L < 65536) (hL' : hL s = L) (hblk : w.heap[r]? = some (rdB s 8 jn jn jn)) :
 Calls Tryz.prog 39 #[.pointer (some ⟨r,0,none⟩),.int .i64 F,.int .i64 L] w fun e w' => ∃ (k : Nat) (v : Value),w'.heap[r]? = some (rdB s (8 + 6 * k) v jn jn) /\ Lone r w w' /\
  ((e = .returned (.bool false) /\ bad (jt s) F 0 = some k) \/ (e = .returned (.bool true) /\ bad (jt s) F 0 = none /\ k = F /\ w'.ownsRow w.heap.size 124 4 v F (ji (cF s) F))) := by
 have hr := lt_of_block hblk
 obtain ⟨R,hR⟩ : ∃ R,bad (jt s) F 0 = R := ⟨_,rfl⟩
 rw [hR]
 have HR : Hid (bad (jt s) F 0 = R) := hR
 have HBK0 : Hid (w.heap[r]? = some (rdB s 8 jn jn jn)) := hblk
 have EL : Hid (hL s = L) := hL'
 clear hR hblk hL'
 go_enter Tryz.func39,Tryz.ntmps39
 go_wp2_with fail
 go_loopw [7] (fun i wr => ∃ (k : Nat) (v : Value),k <= F /\ i = .int .i64 k /\ bad (jt s) (F - k) k = R /\ wr.heap[r]? = some (rdB s (8 + 6 * k) v jn jn) /\ wr.ownsRow w.heap.size 124 4 v k (ji (cF s) k) /\ Lone r w wr) (fun i _ => F - (intOf i).toNat)
 case atStart => exact ⟨0,jn,by omega,rfl,HR.out,HBK0.out,World.ownsRow_nil _ _ _ _,Lone.refl _ _⟩
 case round =>
  obtain ⟨k,v,hk,rfl,hbad,hblk,hown,hlone⟩ := hrel
  have HBK : Hid (wr.heap[r]? = some (rdB s (8 + 6 * k) v jn jn)) := hblk
  have HLO : Hid (Lone r w wr) := hlone
  have hsw := hlone.size
  by_cases hlt : k < F
  ·have HBAD : Hid (bad (jt s) (F - k) k = R) := hbad
   obtain ⟨f0,hf0⟩ : ∃ f,r0 s k = f := ⟨_,rfl⟩
   obtain ⟨f1,hf1⟩ : ∃ f,r1 s k = f := ⟨_,rfl⟩
   obtain ⟨f2,hf2⟩ : ∃ f,r2 s k = f := ⟨_,rfl⟩
   obtain ⟨f3,hf3⟩ : ∃ f,r3 s k = f := ⟨_,rfl⟩
   have hf0l : f0 < 65536 := by rw [<- hf0];exact ju _ _
   have CA : Hid (∀ (z n : Int) (w : World),z = 8 + 6 * (k : Int) /\ n = 2 -> Calls Tryz.prog 40 #[.string s,.int .i64 z,.int .i64 n] w fun e w' => e = .returned (.int .i64 (f0 : Int)) /\ w' = w) := fun z n w hz => by
    rw [hz.2]
    have := Jz (s := s) (a := 8 + 6 * k) (n := 2) (w := w) hs (by omega)
    rw [j8,show n2 s (8 + 6 * k) = f0 from hf0,show ((8 + 6 * k : Nat) : Int) = z by omega] at this
    exact this
   have CB : Hid (∀ (z n : Int) (w : World),z = 8 + 6 * (k : Int) + 2 /\ n = 1 -> Calls Tryz.prog 40 #[.string s,.int .i64 z,.int .i64 n] w fun e w' => e = .returned (.int .i64 (f1 : Int)) /\ w' = w) := fun z n w hz => by
    rw [hz.2]
    have := Jz (s := s) (a := 8 + 6 * k + 2) (n := 1) (w := w) hs (by omega)
    rw [jbE,show bt s (8 + 6 * k + 2) = f1 from hf1,show ((8 + 6 * k + 2 : Nat) : Int) = z by omega] at this
    exact this
   have CC : Hid (∀ (z n : Int) (w : World),z = 8 + 6 * (k : Int) + 3 /\ n = 1 -> Calls Tryz.prog 40 #[.string s,.int .i64 z,.int .i64 n] w fun e w' => e = .returned (.int .i64 (f2 : Int)) /\ w' = w) := fun z n w hz => by
    rw [hz.2]
    have := Jz (s := s) (a := 8 + 6 * k + 3) (n := 1) (w := w) hs (by omega)
    rw [jbE,show bt s (8 + 6 * k + 3) = f2 from hf2,show ((8 + 6 * k + 3 : Nat) : Int) = z by omega] at this
    exact this
   have CD : Hid (∀ (z n : Int) (w : World),z = 8 + 6 * (k : Int) + 4 /\ n = 2 -> Calls Tryz.prog 40 #[.string s,.int .i64 z,.int .i64 n] w fun e w' => e = .returned (.int .i64 (f3 : Int)) /\ w' = w) := fun z n w hz => by
    rw [hz.2]
    have := Jz (s := s) (a := 8 + 6 * k + 4) (n := 2) (w := w) hs (by omega)
    rw [j8,show n2 s (8 + 6 * k + 4) = f3 from hf3,show ((8 + 6 * k + 4 : Nat) : Int) = z by omega] at this
    exact this
   have HOW : Hid (wr.ownsRow w.heap.size 124 4 v k (ji (cF s) k)) := hown
   have c0 : wr.cell? ⟨r,0,none⟩ = some (.string s) := ja hblk 0 rfl
   have c1 : wr.cell? ⟨r,1,none⟩ = some (.int .i64 (8 + 6 * (k : Int))) := by
    have := ja hblk 1 rfl
    simpa using this
   have n0 := World.new_ne wr ⟨r,0,none⟩ c0
   have n1 := World.new_ne wr ⟨r,1,none⟩ c1
   have y2 : IntKind.i64.wrap (8 + 6 * (k : Int) + 2) = 8 + 6 * (k : Int) + 2 := by rw [IntKind.wrap_i64];omega
   have y3 : IntKind.i64.wrap (8 + 6 * (k : Int) + 3) = 8 + 6 * (k : Int) + 3 := by rw [IntKind.wrap_i64];omega
   have y4 : IntKind.i64.wrap (8 + 6 * (k : Int) + 4) = 8 + 6 * (k : Int) + 4 := by rw [IntKind.wrap_i64];omega
   have HRW : Hid (jt s k = (flB k f0 f1 f2 f3 (r0 s (k - 1)) && decide (f0 < L))) := by
    show _ = _
    rw [jd8,jkb,EL.out,hf0,hf1,hf2,hf3]
   have ECF : Hid (cF s k = [.int .i64 f0,.int .i64 f1,.int .i64 f2,.int .i64 f3]) := by show cF s k = _;unfold cF;rw [hf0,hf1,hf2,hf3]
   clear hf0 hf1 hf2 hf3 hbad hblk hown hlone
   go_upto_region 4 with fail
   go_cut [8] from 9 to 82 (fun s8 wx => s8 = .pointer (some ⟨wr.heap.size,0,none⟩) /\ wx = (wr.alloc (.cells #[.int .i64 f0,.int .i64 f1,.int .i64 f2,.int .i64 f3] 124)).drew)
   case first =>
    go_region_held3 (fun w' => w'.cell? ⟨r,0,none⟩ = some (.string s) /\ w'.cell? ⟨r,1,none⟩ = some (.int .i64 (8 + 6 * (k : Int)))) (go_keep) (first
     | (go_at_call 40;refine (CA.out _ _ _ (by omega)).mono ?_;rintro _ w1 ⟨rfl,hw1⟩;have hw2 := hw1.symm;subst hw2)
     | (go_at_call 40;refine (CB.out _ _ _ (by omega)).mono ?_;rintro _ w1 ⟨rfl,hw1⟩;have hw2 := hw1.symm;subst hw2)
     | (go_at_call 40;refine (CC.out _ _ _ (by omega)).mono ?_;rintro _ w1 ⟨rfl,hw1⟩;have hw2 := hw1.symm;subst hw2)
     | (go_at_call 40;refine (CD.out _ _ _ (by omega)).mono ?_;rintro _ w1 ⟨rfl,hw1⟩;have hw2 := hw1.symm;subst hw2))
    all_goals (try go_wp2_with fail)
    all_goals go_meet
    all_goals exact ⟨rfl,rfl⟩
   case rest =>
    obtain ⟨rfl,rfl⟩ := hcut
    have hB : Below wr.heap.size wr (wr.alloc (.cells #[.int .i64 f0,.int .i64 f1,.int .i64 f2,.int .i64 f3] 124)).drew := (jB.alloc jN _).drew
    have hblk1 := jc HBK.out hB (by omega)
    have hnew : (wr.alloc (.cells #[.int .i64 f0,.int .i64 f1,.int .i64 f2,.int .i64 f3] 124)).drew.heap[wr.heap.size]? = some (.cells #[.int .i64 f0,.int .i64 f1,.int .i64 f2,.int .i64 f3] 124) := jg wr _
    have hown1 := own_below HOW.out hB
    have hsz1 : (wr.alloc (.cells #[.int .i64 f0,.int .i64 f1,.int .i64 f2,.int .i64 f3] 124)).drew.heap.size = wr.heap.size + 1 := World.size_alloc (w := wr) _
    have hlo1 := HLO.out.trans (Lone.of hB (by omega))
    generalize (wr.alloc (.cells #[.int .i64 f0,.int .i64 f1,.int .i64 f2,.int .i64 f3] 124)).drew = W at *
    have e0 := ja hnew 0 rfl
    have e1 := ja hnew 1 rfl
    have e2 := ja hnew 2 rfl
    have e3 := ja hnew 3 rfl
    simp only [List.getElem_toArray,List.getElem_cons_zero,List.getElem_cons_succ] at e0 e1 e2 e3
    have HFO : Hid (∀ Q,flB k f0 f1 f2 f3 (r0 s (k - 1)) = Q -> Calls Tryz.prog 64 #[.pointer (some ⟨r,0,none⟩),.agg #[.int .i64 f0,.int .i64 f1,.int .i64 f2,.int .i64 f3]] W fun e w' => e = .returned (.bool Q) /\ Below W.heap.size W w') := fun Q hQ => jj2 hQ (by omega) hblk1 hown1
    have HB1 : Hid (W.heap[r]? = some (rdB s (8 + 6 * k) v jn jn)) := hblk1
    have HN1 : Hid (W.heap[wr.heap.size]? = some (.cells #[.int .i64 f0,.int .i64 f1,.int .i64 f2,.int .i64 f3] 124)) := hnew
    have HO1 : Hid (W.ownsRow w.heap.size 124 4 v k (ji (cF s) k)) := hown1
    have HL1 : Hid (Lone r w W) := hlo1
    have HS1 : Hid (W.heap.size = wr.heap.size + 1) := hsz1
    clear hB hblk1 hnew hown1 hlo1 hsz1 c0 c1 n0 n1 HBK HOW HLO
    by_cases hfl : flB k f0 f1 f2 f3 (r0 s (k - 1)) = true
    ·have HC := jH (HFO.out true hfl)
     by_cases hll : f0 < L
     ·have HNX : Hid (bad (jt s) (F - (k + 1)) (k + 1) = R) := by
       have h := HBAD.out
       rw [show F - k = (F - (k + 1)) + 1 by omega,bad,if_pos (by rw [HRW.out,hfl,decide_eq_true hll];rfl)] at h
       exact h
      have hdl : decide ((L : Int) <= (f0 : Int)) = false := by simp;omega
      clear hfl HFO
      obtain ⟨i0,hi0,hz1,hz2,hz3⟩ := info_parts Tryz.inf124
      go_wp2_with (go_at_call 64;refine HC.out.mono ?_;rintro _ w2 ⟨rfl,hb2⟩;have hs2 := hb2.size;have hsW := HS1.out;have HB2 := jH (jc HB1.out hb2 (by omega));have HN2 := jH (jc HN1.out hb2 (by omega));have HO2 := jH (own_below HO1.out hb2);have HL2 := jH (HL1.out.trans (Lone.of hb2 (by omega)));have g0 := ja HN2.out 0 rfl;have g1 := ja HN2.out 1 rfl;have g2 := ja HN2.out 2 rfl;have g3 := ja HN2.out 3 rfl;have d2 := ja HB2.out 2 rfl;have d2' : ∀ o,(w2.alloc o).cell? ⟨r,2,none⟩ = some v := jT HB2.out 2 rfl;simp only [List.getElem_toArray,List.getElem_cons_zero,List.getElem_cons_succ] at g0 g1 g2 g3 d2)
      go_region_law ((refine step_append_lies _ (by rfl) (.tmp 69) (.tmp 71) 65 (by rfl) w.heap.size 124 i0 _ 4 32 Tryz.und65 hi0 hz1 hz2 hz3 rfl (by decide) v k (ji (cF s) k) (by rfl) (HO2.out.alloc _) ⟨w2.heap.size,0,none⟩ 1 1 [.int .i64 f0,.int .i64 f1,.int .i64 f2,.int .i64 f3] (by rfl) (by rfl) (Ja _ _ _ _ (by simp)) (by intro u hu;simp at hu;rcases hu with rfl | rfl | rfl | rfl <;> rfl) (by decide) (by unfold maxLen;omega) (by omega) (by simp;omega) _ rfl ?_;intro g c w3 hown3 hgrow hat hlt3;obtain ⟨hh3,hs3,hb3⟩ := jan HO2.out ((jB.alloc jN _).drew) (by omega) hgrow;have hlo3 := Lone.app HL2.out HO2.out jN hr ((jB.alloc jN _).drew) (by omega) hgrow;have hblk3 := (hh3 r (by omega) (fun h => by have := (HO2.out.lt _ h).1;omega)).trans HB2.out;have d3 := ja hblk3 2 rfl;have q3 := je hblk3 2;simp only [List.getElem_toArray,List.getElem_cons_zero,List.getElem_cons_succ] at d3))
      all_goals
       rename_i Q' K hK
       refine hK _ _ ?_
       clear hK
       clear K
       have hblk4 := jf hblk3 2 (.slice (some ⟨g,0,none⟩) (k + 1) c)
       have c41 : (w3.setCell ⟨r,2,none⟩ (.slice (some ⟨g,0,none⟩) (k + 1) c)).cell? ⟨r,1,none⟩ = some (.int .i64 (8 + 6 * (k : Int))) := by
        have := ja hblk4 1 rfl
        simpa using this
       have q41 := je hblk4 1
       go_wp2_with fail
       go_roundw
       case rel =>
        refine ⟨k + 1,.slice (some ⟨g,0,none⟩) (k + 1) c,by omega,by go_num,HNX.out,?_,?_,(hlo3.set 2 _).set 1 _⟩
        ·have e : ((8 + 6 * (k + 1) : Nat) : Int) = 8 + 6 * (k : Int) + 6 := by omega
         unfold rdB
         rw [e]
         exact jf hblk4 1 _
        ·have e : ji (cF s) (k + 1) = ji (cF s) k ++ [.int .i64 f0,.int .i64 f1,.int .i64 f2,.int .i64 f3] := by rw [<- ECF.out];rfl
         rw [e]
         exact ownsRow_setCell_below (a := ⟨r,1,none⟩) (ownsRow_setCell_below (a := ⟨r,2,none⟩) hown3 hr _) hr _
       case measure => simp [intOf];omega
     ·have HNX : Hid (R = some k) := by
       have h := HBAD.out
       rw [show F - k = (F - (k + 1)) + 1 by omega,bad,if_neg (by rw [HRW.out,decide_eq_false hll];simp)] at h
       exact h.symm
      have hdl : decide ((L : Int) <= (f0 : Int)) = true := by simp;omega
      clear hfl HFO
      go_wp2_with (go_at_call 64;refine HC.out.mono ?_;rintro _ w2 ⟨rfl,hb2⟩;have hs2 := hb2.size;have hsW := HS1.out;have HN2 := jH (jc HN1.out hb2 (by omega));have g0 := ja HN2.out 0 rfl;simp only [List.getElem_toArray,List.getElem_cons_zero,List.getElem_cons_succ] at g0)
      go_ret
      exact ⟨k,v,jc HB1.out hb2 (by omega),HL1.out.trans (Lone.of hb2 (by omega)),.inl ⟨rfl,HNX.out⟩⟩
    ·have hff : flB k f0 f1 f2 f3 (r0 s (k - 1)) = false := by simpa using hfl
     have HC := jH (HFO.out false hff)
     have HNX : Hid (R = some k) := by
      have h := HBAD.out
      rw [show F - k = (F - (k + 1)) + 1 by omega,bad,if_neg (by rw [HRW.out,hff];simp)] at h
      exact h.symm
     clear hfl hff HFO
     go_wp2_with (go_at_call 64;refine HC.out.mono ?_;rintro _ w2 ⟨rfl,hb2⟩;have hs2 := hb2.size;have hsW := HS1.out)
     go_ret
     exact ⟨k,v,jc HB1.out hb2 (by omega),HL1.out.trans (Lone.of hb2 (by omega)),.inl ⟨rfl,HNX.out⟩⟩
  ·rw [show k = F by omega] at hown hbad hblk
   rw [Nat.sub_self,bad] at hbad
   have HNX : Hid (R = none) := hbad.symm
   have HOW : Hid (wr.ownsRow w.heap.size 124 4 v F (ji (cF s) F)) := hown
   have HB : Hid (wr.heap[r]? = some (rdB s (8 + 6 * F) v jn jn)) := hblk
   clear hbad hown hblk hlone
   go_wp2_with fail
   go_ret
   exact ⟨F,v,HB.out,HLO.out,.inr ⟨rfl,HNX.out,rfl,HOW.out⟩⟩
end Go.Proofs.YtjmgolahkgalbaaGreatDoor
