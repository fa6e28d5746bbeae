import Derived.Test.YtjmgolahkgalbaaGreatDoorS33
set_option linter.unusedVariables false
set_option linter.unusedSimpArgs false
set_option maxHeartbeats 20000000
namespace Go.Proofs.YtjmgolahkgalbaaGreatDoor
open Go.RowKit Li Ro
variable {s : ByteArray} {w : World}
theorem jfD {P : Program} {f : FuncId} {args : Array Value} {W : World} {v : Value} (h : Calls P f args W fun e w' => e = .returned v /\ w' = W) : Calls P f args W fun e w' => e = .returned v /\ Below W.heap.size W w' := h.mono fun _ _ ⟨a,b⟩ => ⟨a,b ▸ jB⟩
set_option maxRecDepth 100000 in
theorem jgJ {op r x y p b o : Nat} {A : Pl} {arr : Array Value} {t : TypeId} (hb : w.heap[b]? = some (.cells arr t (0,0))) (hA : jk w b o (some A)) (hop : op = 1 \/ op = 2 \/ op = 3 \/ op = 7 \/ op = 8 \/ op = 9 \/ op = 10 \/ op = 11 \/ op = 12 \/ op = 13 \/ op = 14 \/ op = 15 \/ op = 16 \/ op = 22 \/ op = 24 \/ op = 26 \/ op = 28) (hr : r < 8) :
 Calls Tryz.prog 96 #[.pointer (some ⟨b,o,none⟩),.agg #[.int .i64 op,.int .i64 r,.int .i64 x,.int .i64 y,.int .i64 p]] w fun e w' => e = .returned (.tuple #[]) /\ jk w' b o (some (afO op r x A)) /\ Ch b o w w' := by
 have HB : Hid (∀ ob : Obj,Below w.heap.size w (w.alloc ob)) := fun ob => jB.alloc jN _
 have hlt := lt_of_block hb
 have HBZ : Hid (∀ (ob : Obj) (z : Wd (w.alloc ob).heap.size (w.alloc ob)),Below w.heap.size w z.v) := fun ob z => (HB.out ob).trans (z.h.mono (by rw [World.size_alloc];omega))
 have HV : Hid (bits BinOp.or IntKind.i64 ((jh A 8 : Nat) : Int) ((mkR [r] : Nat) : Int) = ((jh (fun i => i == r || A i) 8 : Nat) : Int)) := by
  show _ = _
  have h1 := JK A 8
  have h2 := jbG [r]
  rw [jcn _ _ (by omega) (by omega)]
  unfold mkR
  rw [jbH]
  congr 1
  apply JA
  intro i hi
  rw [Bool.eq_iff_iff];simp [or_comm]
 have HZ : Hid (∀ (ob : Obj) (z : Wd (w.alloc ob).heap.size (w.alloc ob)),jk (z.v.setCell ⟨b,o + 1,none⟩ (.int .i64 (bits BinOp.or IntKind.i64 ((jh A 8 : Nat) : Int) ((mkR [r] : Nat) : Int)))) b o (some fun i => i == r || A i) /\ Ch b o w (z.v.setCell ⟨b,o + 1,none⟩ (.int .i64 (bits BinOp.or IntKind.i64 ((jh A 8 : Nat) : Int) ((mkR [r] : Nat) : Int)))) /\ ∃ arr',(z.v.setCell ⟨b,o + 1,none⟩ (.int .i64 (bits BinOp.or IntKind.i64 ((jh A 8 : Nat) : Int) ((mkR [r] : Nat) : Int)))).heap[b]? = some (.cells arr' t (0,0))) := fun ob z => by
  rw [HV.out]
  have hbz := jc hb (HBZ.out ob z) hlt
  refine ⟨jk.reg hbz (hA.on (HBZ.out ob z) hlt) (fun i hi => ?_),(Ch.of (HBZ.out ob z) hlt).set _ _ (by omega) (by omega),_,jf hbz _ _⟩
  have : ¬ i = r := by omega
  simp [this]
 have C : Hid (∀ W,Calls Tryz.prog 112 #[.int .i64 r] W fun e w' => e = .returned (.int .i64 ((mkR [r] : Nat) : Int)) /\ Below W.heap.size W w') := fun W => jfD (Jy hr _ rfl W)
 have k1 : ∀ (ob : Obj) (z : Wd (w.alloc ob).heap.size (w.alloc ob)),z.v.cell? ⟨b,o + 1,none⟩ = some (.int .i64 ((jh A 8 : Nat) : Int)) := fun ob z => hA.on (HBZ.out ob z) hlt 1 (by omega)
 have f1 : ∀ (ob : Obj) (z : Wd (w.alloc ob).heap.size (w.alloc ob)),z.v.frozen? ⟨b,o + 1,none⟩ = false := fun ob z => je (jc hb (HBZ.out ob z) hlt) _
 have hl1 : ∀ ob : Obj,w.heap.size < (w.alloc ob).heap.size := fun ob => by rw [World.size_alloc];omega
 have v1 : ∀ z : Wd (w.alloc (.cells #[.int .i64 op,.int .i64 r,.int .i64 x,.int .i64 y,.int .i64 p] 116 (0,0))).heap.size (w.alloc (.cells #[.int .i64 op,.int .i64 r,.int .i64 x,.int .i64 y,.int .i64 p] 116 (0,0))),z.v.cell? ⟨w.heap.size,1,none⟩ = some (.int .i64 r) := fun z => Wd.at (jg w _) (hl1 _) 1 rfl z
 have v2 : ∀ z : Wd (w.alloc (.cells #[.int .i64 op,.int .i64 r,.int .i64 x,.int .i64 y,.int .i64 p] 116 (0,0))).heap.size (w.alloc (.cells #[.int .i64 op,.int .i64 r,.int .i64 x,.int .i64 y,.int .i64 p] 116 (0,0))),z.v.cell? ⟨w.heap.size,2,none⟩ = some (.int .i64 x) := fun z => Wd.at (jg w _) (hl1 _) 2 rfl z
 have HE : Hid ((fun i => i == r || A i) = afO op r x A) := by
  show _ = _
  funext i
  rcases hop with rfl | rfl | rfl | rfl | rfl | rfl | rfl | rfl | rfl | rfl | rfl | rfl | rfl | rfl | rfl | rfl | rfl <;> simp [afO,lyO,loO]
 generalize afO op r x A = A' at *
 generalize mkR [r] = M at *
 generalize jh A 8 = MA at *
 clear hb hA hl1
 rcases hop with rfl | rfl | rfl | rfl | rfl | rfl | rfl | rfl | rfl | rfl | rfl | rfl | rfl | rfl | rfl | rfl | rfl
 all_goals
  go_enter Tryz.func96,Tryz.ntmps96
  go_wp2_with fail
  refine jP 10 11 (by kernel_rfl) (by kernel_rfl) (by decide) ?_
  simp only [TkD]
  refine jd (by decide) (by rfl) (v := ?v0) ?hv0 ?_
  case hv0 => (intro z;go_simp;all_goals with_reducible rfl)
  simp only [Act.put,SsT]
  refine jd (by decide) (by rfl) (v := ?v1) ?hv1 ?_
  case hv1 => (intro z;go_simp;all_goals with_reducible rfl)
  simp only [Act.put,SsT]
  refine jd (by decide) (by rfl) (v := ?v2) ?hv2 ?_
  case hv2 => (intro z;go_simp;all_goals with_reducible rfl)
  simp only [Act.put,SsT]
  refine jd (by decide) (by rfl) (v := ?v3) ?hv3 ?_
  case hv3 => (intro z;go_simp;all_goals with_reducible rfl)
  simp only [Act.put,SsT]
  refine jd (by decide) (by rfl) (v := ?v4) ?hv4 ?_
  case hv4 => (intro z;go_simp;all_goals with_reducible rfl)
  simp only [Act.put,SsT]
  refine jd (by decide) (by rfl) (v := ?v5) ?hv5 ?_
  case hv5 => (intro z;go_simp;all_goals with_reducible rfl)
  simp only [Act.put,SsT]
  refine jd (by decide) (by rfl) (v := ?v6) ?hv6 ?_
  case hv6 => (intro z;go_simp;exact C.out _)
  simp only [Act.put,SsT]
  refine jd (by decide) (by rfl) (v := ?v7) ?hv7 ?_
  case hv7 => (intro z;go_simp;all_goals with_reducible rfl)
  simp only [Act.put,SsT]
  refine jd (by decide) (by rfl) (v := ?v8) ?hv8 ?_
  case hv8 => (intro z;go_simp;all_goals with_reducible rfl)
  simp only [Act.put,SsT]
  refine jd (by decide) (by rfl) (v := ?v9) ?hv9 ?_
  case hv9 => (intro z;go_simp;all_goals with_reducible rfl)
  simp only [Act.put,SsT]
  refine js ?_
  intro z
  go_wp2_with fail
  go_returns
  obtain ⟨h1,h2,_⟩ := HZ.out _ z
  exact ⟨rfl,h1.congr HE.out,h2⟩
set_option maxRecDepth 100000 in
theorem jgL {op r x y p b o : Nat} {A : Pl} {arr : Array Value} {t : TypeId} (hb : w.heap[b]? = some (.cells arr t (0,0))) (hA : jk w b o (some A)) (hop : op = 4) (hr : r < 8) (hx : x < 1024) :
 Calls Tryz.prog 96 #[.pointer (some ⟨b,o,none⟩),.agg #[.int .i64 op,.int .i64 r,.int .i64 x,.int .i64 y,.int .i64 p]] w fun e w' => e = .returned (.tuple #[]) /\ jk w' b o (some (afO op r x A)) /\ Ch b o w w' := by
 have HB : Hid (∀ ob : Obj,Below w.heap.size w (w.alloc ob)) := fun ob => jB.alloc jN _
 have hlt := lt_of_block hb
 have HBZ : Hid (∀ (ob : Obj) (z : Wd (w.alloc ob).heap.size (w.alloc ob)),Below w.heap.size w z.v) := fun ob z => (HB.out ob).trans (z.h.mono (by rw [World.size_alloc];omega))
 have HV : Hid (bits BinOp.or IntKind.i64 ((jh A 8 : Nat) : Int) ((mkR [r] : Nat) : Int) = ((jh (fun i => i == r || A i) 8 : Nat) : Int)) := by
  show _ = _
  have h1 := JK A 8
  have h2 := jbG [r]
  rw [jcn _ _ (by omega) (by omega)]
  unfold mkR
  rw [jbH]
  congr 1
  apply JA
  intro i hi
  rw [Bool.eq_iff_iff];simp [or_comm]
 have HZ : Hid (∀ (ob : Obj) (z : Wd (w.alloc ob).heap.size (w.alloc ob)),jk (z.v.setCell ⟨b,o + 1,none⟩ (.int .i64 (bits BinOp.or IntKind.i64 ((jh A 8 : Nat) : Int) ((mkR [r] : Nat) : Int)))) b o (some fun i => i == r || A i) /\ Ch b o w (z.v.setCell ⟨b,o + 1,none⟩ (.int .i64 (bits BinOp.or IntKind.i64 ((jh A 8 : Nat) : Int) ((mkR [r] : Nat) : Int)))) /\ ∃ arr',(z.v.setCell ⟨b,o + 1,none⟩ (.int .i64 (bits BinOp.or IntKind.i64 ((jh A 8 : Nat) : Int) ((mkR [r] : Nat) : Int)))).heap[b]? = some (.cells arr' t (0,0))) := fun ob z => by
  rw [HV.out]
  have hbz := jc hb (HBZ.out ob z) hlt
  refine ⟨jk.reg hbz (hA.on (HBZ.out ob z) hlt) (fun i hi => ?_),(Ch.of (HBZ.out ob z) hlt).set _ _ (by omega) (by omega),_,jf hbz _ _⟩
  have : ¬ i = r := by omega
  simp [this]
 have C : Hid (∀ W,Calls Tryz.prog 112 #[.int .i64 r] W fun e w' => e = .returned (.int .i64 ((mkR [r] : Nat) : Int)) /\ Below W.heap.size W w') := fun W => jfD (Jy hr _ rfl W)
 have k1 : ∀ (ob : Obj) (z : Wd (w.alloc ob).heap.size (w.alloc ob)),z.v.cell? ⟨b,o + 1,none⟩ = some (.int .i64 ((jh A 8 : Nat) : Int)) := fun ob z => hA.on (HBZ.out ob z) hlt 1 (by omega)
 have f1 : ∀ (ob : Obj) (z : Wd (w.alloc ob).heap.size (w.alloc ob)),z.v.frozen? ⟨b,o + 1,none⟩ = false := fun ob z => je (jc hb (HBZ.out ob z) hlt) _
 have hl1 : ∀ ob : Obj,w.heap.size < (w.alloc ob).heap.size := fun ob => by rw [World.size_alloc];omega
 have v1 : ∀ z : Wd (w.alloc (.cells #[.int .i64 op,.int .i64 r,.int .i64 x,.int .i64 y,.int .i64 p] 116 (0,0))).heap.size (w.alloc (.cells #[.int .i64 op,.int .i64 r,.int .i64 x,.int .i64 y,.int .i64 p] 116 (0,0))),z.v.cell? ⟨w.heap.size,1,none⟩ = some (.int .i64 r) := fun z => Wd.at (jg w _) (hl1 _) 1 rfl z
 have v2 : ∀ z : Wd (w.alloc (.cells #[.int .i64 op,.int .i64 r,.int .i64 x,.int .i64 y,.int .i64 p] 116 (0,0))).heap.size (w.alloc (.cells #[.int .i64 op,.int .i64 r,.int .i64 x,.int .i64 y,.int .i64 p] 116 (0,0))),z.v.cell? ⟨w.heap.size,2,none⟩ = some (.int .i64 x) := fun z => Wd.at (jg w _) (hl1 _) 2 rfl z
 have HE : Hid (∀ i,i ≠ 8 + x -> afO op r x A i = (i == r || A i)) := fun i hi => by
  have e4 : (i == 8 + x) = false := by rw [beq_eq_false_iff_ne];exact hi
  rw [hop];simp [afO,lyO,loO,e4]
 have HU : Hid ((jh (fun j => (8 + 64 * (x / 64) + j == r || A (8 + 64 * (x / 64) + j))) 64 &&& (18446744073709551615 - 2 ^ (x % 64))) = jh (fun j => afO op r x A (8 + 64 * (x / 64) + j)) 64) := by
  show _ = _
  rw [jbI (show x % 64 < 64 by omega),show 18446744073709551615 = 2 ^ 64 - 1 from rfl,jeK]
  apply JA
  intro j hj
  rw [hop]
  have e0 : (8 + 64 * (x / 64) + j == r) = false := by rw [beq_eq_false_iff_ne];omega
  by_cases e : j = x % 64
  ·have e4 : (8 + 64 * (x / 64) + x % 64 == r) = false := by rw [beq_eq_false_iff_ne];omega
   simp [afO,lyO,loO,e,show 8 + 64 * (x / 64) + x % 64 = 8 + x by omega]
   omega
  ·have e2 : ¬ 8 + 64 * (x / 64) + j = 8 + x := by omega
   have e3 : (j == x % 64) = false := by rw [beq_eq_false_iff_ne];exact e
   have e4 : (8 + 64 * (x / 64) + j == 8 + x) = false := by rw [beq_eq_false_iff_ne];exact e2
   simp [afO,lyO,loO,e3,e4,e0]
 have CU : Hid (∀ (ob : Obj) (z : Wd (w.alloc ob).heap.size (w.alloc ob)),Calls Tryz.prog 115 #[.pointer (some ⟨b,o,none⟩),.int .i64 x] (z.v.setCell ⟨b,o + 1,none⟩ (.int .i64 (bits BinOp.or IntKind.i64 ((jh A 8 : Nat) : Int) ((mkR [r] : Nat) : Int)))) fun e w' => e = .returned (.tuple #[]) /\ jk w' b o (some (afO op r x A)) /\ Ch b o w w') := fun ob z => by
  obtain ⟨h1,h2,arr',h3⟩ := HZ.out ob z
  refine (jdP hx (JK _ 64) (h1.word hx) (je h3 _)).mono ?_
  rintro e w' ⟨rfl,rfl⟩
  refine ⟨rfl,?_,(h2.set _ _ (by omega) (by omega)).drew⟩
  rw [HU.out]
  exact jk.slot h3 h1 hx HE.out
 have HVV := jH (show ∀ (ob : Obj) (z : Wd (w.alloc ob).heap.size (w.alloc ob)) (v : Value),(z.v.setCell ⟨b,o + 1,none⟩ v).cell? ⟨w.heap.size,2,none⟩ = z.v.cell? ⟨w.heap.size,2,none⟩ from fun ob z v => World.cell?_of_block (w := z.v) (a := ⟨w.heap.size,2,none⟩) (Below.heap_setCell _ _ _ _ (show w.heap.size ≠ b by omega)))
 generalize afO op r x A = A' at *
 generalize mkR [r] = M at *
 generalize jh A 8 = MA at *
 clear hb hA hl1
 rcases hop with rfl
 all_goals
  go_enter Tryz.func96,Tryz.ntmps96
  go_wp2_with fail
  refine jP 10 11 (by kernel_rfl) (by kernel_rfl) (by decide) ?_
  simp only [TkD]
  refine jd (by decide) (by rfl) (v := ?v0) ?hv0 ?_
  case hv0 => (intro z;go_simp;all_goals with_reducible rfl)
  simp only [Act.put,SsT]
  refine jd (by decide) (by rfl) (v := ?v1) ?hv1 ?_
  case hv1 => (intro z;go_simp;all_goals with_reducible rfl)
  simp only [Act.put,SsT]
  refine jd (by decide) (by rfl) (v := ?v2) ?hv2 ?_
  case hv2 => (intro z;go_simp;all_goals with_reducible rfl)
  simp only [Act.put,SsT]
  refine jd (by decide) (by rfl) (v := ?v3) ?hv3 ?_
  case hv3 => (intro z;go_simp;all_goals with_reducible rfl)
  simp only [Act.put,SsT]
  refine jd (by decide) (by rfl) (v := ?v4) ?hv4 ?_
  case hv4 => (intro z;go_simp;all_goals with_reducible rfl)
  simp only [Act.put,SsT]
  refine jd (by decide) (by rfl) (v := ?v5) ?hv5 ?_
  case hv5 => (intro z;go_simp;all_goals with_reducible rfl)
  simp only [Act.put,SsT]
  refine jd (by decide) (by rfl) (v := ?v6) ?hv6 ?_
  case hv6 => (intro z;go_simp;exact C.out _)
  simp only [Act.put,SsT]
  refine jd (by decide) (by rfl) (v := ?v7) ?hv7 ?_
  case hv7 => (intro z;go_simp;all_goals with_reducible rfl)
  simp only [Act.put,SsT]
  refine jd (by decide) (by rfl) (v := ?v8) ?hv8 ?_
  case hv8 => (intro z;go_simp;all_goals with_reducible rfl)
  simp only [Act.put,SsT]
  refine jd (by decide) (by rfl) (v := ?v9) ?hv9 ?_
  case hv9 => (intro z;go_simp;all_goals with_reducible rfl)
  simp only [Act.put,SsT]
  refine js ?_
  intro z
  have hvv := HVV.out _ z
  go_wp2_with (go_at_call 115;refine (CU.out _ z).mono ?_;rintro _ w1 ⟨rfl,hA1,hC1⟩)
  go_returns
  exact ⟨rfl,hA1,hC1⟩
theorem jgQ {k pc b o : Nat} {A : Pl} {arr : Array Value} {t : TypeId} (hrow : bad (jt s) (hF s) 0 = none) (hk : k < hF s) (hw : Wl s k pc) (hb : w.heap[b]? = some (.cells arr t (0,0))) (hA : jk w b o (some A)) :
 Calls Tryz.prog 96 #[.pointer (some ⟨b,o,none⟩),.agg #[.int .i64 (l0 s pc),.int .i64 (l1 s pc),.int .i64 (l2 s pc),.int .i64 (l3 s pc),.int .i64 (l4 s pc)]] w fun e w' => e = .returned (.tuple #[]) /\ jk w' b o (some (afO (l0 s pc) (l1 s pc) (l2 s pc) A)) /\ Ch b o w w' := by
 have h0 := hw.f0
 have h1 := hw.f1
 have h3 := hw.op1
 have h4 := hw.op2
 have h5 := (j7 hrow hk).2.2.1
 generalize l0 s pc = op at *
 generalize l1 s pc = r at *
 generalize l2 s pc = x at *
 generalize l3 s pc = y at *
 generalize l4 s pc = p at *
 by_cases g0 : op = 17 \/ op = 18 \/ op = 21 \/ op = 25 \/ op = 27 \/ op = 31 \/ op = 32 \/ op = 33
 ·exact jgK hb hA g0
 by_cases g1 : op = 5
 ·exact jgI hb hA g1 (by subst g1;have : x < r3 s k := (by simpa [jo,ruN,rul] using h1);omega)
 by_cases g2 : op = 6
 ·exact jgM hb hA g2 (by subst g2;have : x < r3 s k := (by simpa [jo,ruN,rul] using h1);omega)
 by_cases g3 : op = 19 \/ op = 20 \/ op = 23
 ·exact jgR hb hA g3 (by rcases g3 with rfl | rfl | rfl <;> simpa [jo,ruN,rul] using h0)
 by_cases g4 : op = 29 \/ op = 30
 ·exact jgN hb hA g4
 by_cases g5 : op = 4
 ·exact jgL hb hA g5 (by subst g5;simpa [jo,ruN,rul] using h0) (by subst g5;have : x < r3 s k := (by simpa [jo,ruN,rul] using h1);omega)
 ·have g6 : op = 1 \/ op = 2 \/ op = 3 \/ op = 7 \/ op = 8 \/ op = 9 \/ op = 10 \/ op = 11 \/ op = 12 \/ op = 13 \/ op = 14 \/ op = 15 \/ op = 16 \/ op = 22 \/ op = 24 \/ op = 26 \/ op = 28 := by omega
  exact jgJ hb hA g6 (by rcases g6 with rfl | rfl | rfl | rfl | rfl | rfl | rfl | rfl | rfl | rfl | rfl | rfl | rfl | rfl | rfl | rfl | rfl <;> simpa [jo,ruN,rul] using h0)
theorem jiz {b o b2 o2 : Nat} {c : Option Pl} {A : Pl} {arr : Array Value} {t : TypeId} (hb : w.heap[b]? = some (.cells arr t (0,0))) (hb2 : b2 < w.heap.size) (hne : b2 ≠ b \/ o2 + 18 <= o) (h1 : jk w b o c) (h2 : jk w b2 o2 (some A)) :
 Calls Tryz.prog 110 #[.pointer (some ⟨b,o,none⟩),.pointer (some ⟨b2,o2,none⟩)] w fun e w' => e = .returned (.tuple #[]) /\ jk w' b o (Ro.meet c A) /\ Ch b o w w' := by
 cases c with
 | none => exact jiy hb h1 h2
 | some B => exact Go.Proofs.YtjmgolahkgalbaaGreatDoor.meet_some hb hb2 hne h1 h2
set_option maxRecDepth 100000 in
theorem jfJ {f g first j cnt b2 o2 : Nat} {vF vN vL : Value} {c : Option Pl} {A : Pl} {arr : Array Value} {t : TypeId} (hf : w.heap[f]? = some (JL vF vN vL first (.slice (some ⟨g,0,none⟩) cnt cnt))) (hb : w.heap[g]? = some (.cells arr t (0,0))) (hj : j < cnt) (hcn : cnt <= 70000) (hfi : first <= 70000) (hb2 : b2 < w.heap.size) (hne : b2 ≠ g \/ o2 + 18 <= j * 18) (h1 : jk w g (j * 18) c) (h2 : jk w b2 o2 (some A)) (z : Int) (hz : z = ((first + j : Nat) : Int)) :
 Calls Tryz.prog 93 #[.pointer (some ⟨f,0,none⟩),.int .i64 z,.pointer (some ⟨b2,o2,none⟩)] w fun e w' => e = .returned (.tuple #[]) /\ jk w' g (j * 18) (Ro.meet c A) /\ Ch g (j * 18) w w' := by
 have C : Hid (Calls Tryz.prog 110 #[.pointer (some ⟨g,j * 18,none⟩),.pointer (some ⟨b2,o2,none⟩)] w fun e w' => e = .returned (.tuple #[]) /\ jk w' g (j * 18) (Ro.meet c A) /\ Ch g (j * 18) w w') := jiz hb hb2 hne h1 h2
 have c3 := ja hf 3 rfl
 have c4 := ja hf 4 rfl
 simp only [List.getElem_toArray,List.getElem_cons_zero,List.getElem_cons_succ] at c3 c4
 have hz2 : z - (first : Int) = (j : Int) := by omega
 have hz3 : IntKind.i64.wrap (z - (first : Int)) = (j : Int) := by rw [hz2,IntKind.wrap_i64];omega
 have g1 : (j : Int) < (cnt : Int) := by omega
 have g2 : z <= 200000 := by omega
 have g3 : 0 <= z := by omega
 clear hf hb h1 h2 hz
 go_enter Tryz.func93,Tryz.ntmps93
 go_wp2_with (go_at_call 110;refine C.out.mono ?_;rintro _ w1 ⟨rfl,hA1,hC1⟩)
 go_returns
 exact ⟨rfl,hA1,hC1⟩
structure Lg (g : Nat) (w w' : World) : Prop where
 lone : Lone g w w'
 blk : ∀ arr t,w.heap[g]? = some (.cells arr t (0,0)) -> ∃ arr',w'.heap[g]? = some (.cells arr' t (0,0))
theorem Ch.lg {b o : Nat} {w w' : World} (h : Ch b o w w') : Lg b w w' := ⟨h.lone,fun arr t hb => by obtain ⟨a,h1,_⟩ := h.blk arr t hb;exact ⟨a,h1⟩⟩
theorem Lg.refl (g : Nat) (w : World) : Lg g w w := ⟨Lone.refl _ _,fun arr t h => ⟨arr,h⟩⟩
theorem Lg.trans {g : Nat} {w w1 w2 : World} (h : Lg g w w1) (h2 : Lg g w1 w2) : Lg g w w2 := ⟨h.lone.trans h2.lone,fun arr t hb => by obtain ⟨a,h3⟩ := h.blk arr t hb;exact h2.blk a t h3⟩
theorem Lg.of {g : Nat} {w w1 : World} (h : Below w.heap.size w w1) (hb : g < w.heap.size) : Lg g w w1 := ⟨Lone.of h (Nat.le_of_lt hb),fun arr t he => ⟨arr,jc he h hb⟩⟩
def Jo (w : World) (g cnt i : Nat) (S : Nat -> Option Pl) : Prop := ∀ j,i <= j -> j < cnt -> jk w g (j * 18) (S j)
theorem Jo.arr {w w' : World} {g cnt i j : Nat} {S : Nat -> Option Pl} {A : Pl} {ar : Array Value} {t : TypeId} (hb : w.heap[g]? = some (.cells ar t (0,0))) (h : Jo w g cnt i S) (hc : Ch g (j * 18) w w') (h1 : jk w' g (j * 18) (Ro.meet (S j) A)) : Jo w' g cnt i (Ro.arr S j A) := fun n hn hnc => by
 by_cases e : n = j
 ·subst e;rw [Ro.arr_eq];exact h1
 ·rw [Ro.arr_ne e]
  exact fun q hq => (hc.cell hb (lt_of_block hb) (.inr (by omega))).trans (h n hn hnc q hq)
theorem jk.keep {w w' : World} {g n j : Nat} {c : Option Pl} {ar : Array Value} {t : TypeId} (hb : w.heap[g]? = some (.cells ar t (0,0))) (h : jk w g (n * 18) c) (hc : Ch g (j * 18) w w') (e : n ≠ j) : jk w' g (n * 18) c := fun q hq => (hc.cell hb (lt_of_block hb) (.inr (by omega))).trans (h q hq)
set_option maxRecDepth 100000 in
theorem leave_any {s : ByteArray} {f g k i cnt : Nat} {vF vN vL : Value} {S : Nat -> Option Pl} {A : Pl} {arr : Array Value} {t : TypeId} (hcnt : cnt = en s k - r0 s k) (hi : i < cnt) (hen : en s k <= 65536) (hw : Wl s k (r0 s k + i)) (hfg : f ≠ g)
 (hf : w.heap[f]? = some (JL vF vN vL (r0 s k) (.slice (some ⟨g,0,none⟩) cnt cnt))) (hb : w.heap[g]? = some (.cells arr t (0,0))) (hA : jk w g (i * 18) (some A)) (hS : Jo w g cnt (i + 1) S) :
 Calls Tryz.prog 97 #[.pointer (some ⟨f,0,none⟩),.int .i64 ((r0 s k + i : Nat) : Int),.agg #[.int .i64 (l0 s (r0 s k + i)),.int .i64 (l1 s (r0 s k + i)),.int .i64 (l2 s (r0 s k + i)),.int .i64 (l3 s (r0 s k + i)),.int .i64 (l4 s (r0 s k + i))],.pointer (some ⟨g,i * 18,none⟩)] w fun e w' => e = .returned (.tuple #[]) /\ Jo w' g cnt (i + 1) ((fnS s k).leave i A S) /\ Lg g w w' := by
 have hflt := lt_of_block hf
 have hglt := lt_of_block hb
 have HB : Hid (∀ ob : Obj,Below w.heap.size w (w.alloc ob)) := fun ob => jB.alloc jN _
 obtain ⟨jm,hjm⟩ : ∃ jm,jmB (l0 s (r0 s k + i)) = jm := ⟨_,rfl⟩
 obtain ⟨go,hgo⟩ : ∃ go,(!jx (l0 s (r0 s k + i))) = go := ⟨_,rfl⟩
 have hJ : (fnS s k).jmp i = jm := by
  show (decide (i < en s k - r0 s k) && jmB (l0 s (r0 s k + i))) = jm
  rw [decide_eq_true (by omega),Bool.true_and,hjm]
 have hG : (fnS s k).goes i = go := hgo
 have hT : (fnS s k).tgt i = l2 s (r0 s k + i) - r0 s k := rfl
 have hjt : jm = true -> r0 s k + i < l2 s (r0 s k + i) /\ l2 s (r0 s k + i) < en s k := fun h => hw.jump (by rw [hjm,h])
 have hgt : go = true -> i + 1 < cnt := fun h => by
  rcases hw.on with h1 | h1
  ·rw [h1] at hgo;rw [<- hgo] at h;cases h
  ·omega
 have CG : Hid (∀ W : World,Calls Tryz.prog 91 #[.int .i64 (l0 s (r0 s k + i))] W fun e w' => e = .returned (.bool go) /\ w' = W) := fun W => by rw [<- hgo];exact jcq
 have CA : Hid (∀ (W : World) (S' : Nat -> Option Pl) (j : Nat) (z : Int),Lg g w W -> Jo W g cnt (i + 1) S' -> jk W g (i * 18) (some A) -> i < j -> j < cnt -> z = ((r0 s k + j : Nat) : Int) -> Calls Tryz.prog 93 #[.pointer (some ⟨f,0,none⟩),.int .i64 z,.pointer (some ⟨g,i * 18,none⟩)] W fun e w' => e = .returned (.tuple #[]) /\ Jo w' g cnt (i + 1) (Ro.arr S' j A) /\ jk w' g (i * 18) (some A) /\ Lg g W w') := fun W S' j z hW hS' hA' hij hjc hz => by
  obtain ⟨arr',hb'⟩ := hW.blk arr t hb
  have hs := hW.lone.size
  refine (jfJ ((hW.lone.rest f hflt hfg).trans hf) hb' hjc (by omega) (by omega) (by omega) (.inr (by omega)) (hS' j (by omega) hjc) hA' z hz).mono ?_
  rintro e w' ⟨rfl,h1,h2⟩
  exact ⟨rfl,hS'.arr hb' h2 h1,hA'.keep hb' h2 (by omega),h2.lg⟩
 have H0 : Hid (∀ ob : Obj,Lg g w (w.alloc ob) /\ Jo (w.alloc ob) g cnt (i + 1) S /\ jk (w.alloc ob) g (i * 18) (some A)) := fun ob => ⟨Lg.of (HB.out ob) hglt,fun j h1 h2 => (hS j h1 h2).on (HB.out ob) hglt,hA.on (HB.out ob) hglt⟩
 obtain ⟨x,hx⟩ : ∃ x,l2 s (r0 s k + i) = x := ⟨_,rfl⟩
 obtain ⟨op,hop⟩ : ∃ op,l0 s (r0 s k + i) = op := ⟨_,rfl⟩
 rw [hx] at hT hjt
 rw [hx,hop]
 rw [hop] at CG hjm
 unfold jmB at hjm
 clear hf hb hA hS hw hgo hx hop
 generalize (l1 s (r0 s k + i) : Int) = q1 at *
 generalize (l3 s (r0 s k + i) : Int) = q3 at *
 generalize (l4 s (r0 s k + i) : Int) = q4 at *
 have hr0 : r0 s k < 65536 := ju _ _
 cases jm with
 | true =>
   obtain ⟨hj1,hj2⟩ := hjt rfl
   have hjm2 : op = 17 \/ op = 18 := by simpa using hjm
   cases go with
   | true =>
     have hg2 := hgt rfl
     have HF : Hid ((fnS s k).leave i A S = Ro.arr (Ro.arr S (x - r0 s k) A) (i + 1) A) := by show _ = _;rw [jeZ hJ hG,hT]
     rw [HF.out]
     clear HF hJ hG hT hjt hgt hjm
     rcases hjm2 with rfl | rfl
     all_goals
      go_enter Tryz.func97,Tryz.ntmps97
      go_wp2_with (first
       | (go_at_call_of 93 x;refine (CA.out _ S (x - r0 s k) _ (H0.out _).1 (H0.out _).2.1 (H0.out _).2.2 (by omega) (by omega) (by omega)).mono ?_;rintro _ w1 ⟨rfl,hS1,hA1,hL1⟩;have kb := (hL1.lone.rest w.heap.size (by rw [World.size_alloc];omega) (by omega)).trans (jg w _);have c0 := ja kb 0 rfl;simp only [List.getElem_toArray,List.getElem_cons_zero,List.getElem_cons_succ] at c0)
       | (go_at_call 93;refine (CA.out _ _ (i + 1) _ ((H0.out _).1.trans hL1) hS1 hA1 (by omega) (by omega) (by omega)).mono ?_;rintro _ w2 ⟨rfl,hS2,hA2,hL2⟩)
       | (go_at_call 91;refine (CG.out _).mono ?_;rintro _ w3 ⟨rfl,hw3⟩;have hw4 := hw3.symm;subst hw4))
      go_returns
      exact ⟨rfl,hS2,((H0.out _).1.trans hL1).trans hL2⟩
   | false =>
     have HF : Hid ((fnS s k).leave i A S = Ro.arr S (x - r0 s k) A) := by show _ = _;rw [je0 hJ hG,hT]
     rw [HF.out]
     clear HF hJ hG hT hjt hgt hjm
     rcases hjm2 with rfl | rfl
     all_goals
      go_enter Tryz.func97,Tryz.ntmps97
      go_wp2_with (first
       | (go_at_call_of 93 x;refine (CA.out _ S (x - r0 s k) _ (H0.out _).1 (H0.out _).2.1 (H0.out _).2.2 (by omega) (by omega) (by omega)).mono ?_;rintro _ w1 ⟨rfl,hS1,hA1,hL1⟩;have kb := (hL1.lone.rest w.heap.size (by rw [World.size_alloc];omega) (by omega)).trans (jg w _);have c0 := ja kb 0 rfl;simp only [List.getElem_toArray,List.getElem_cons_zero,List.getElem_cons_succ] at c0)
       | (go_at_call 91;refine (CG.out _).mono ?_;rintro _ w3 ⟨rfl,hw3⟩;have hw4 := hw3.symm;subst hw4))
      go_returns
      exact ⟨rfl,hS1,(H0.out _).1.trans hL1⟩
 | false =>
   have e17 : ((op : Int) == 17) = false := by simp at hjm ⊢;omega
   have e18 : ((op : Int) == 18) = false := by simp at hjm ⊢;omega
   cases go with
   | true =>
     have hg2 := hgt rfl
     have HF : Hid ((fnS s k).leave i A S = Ro.arr S (i + 1) A) := by show _ = _;rw [je1 hJ hG]
     rw [HF.out]
     clear HF hJ hG hT hjt hgt hjm
     go_enter Tryz.func97,Tryz.ntmps97
     go_wp2_with (first
      | (go_at_call 93;refine (CA.out _ S (i + 1) _ (H0.out _).1 (H0.out _).2.1 (H0.out _).2.2 (by omega) (by omega) (by omega)).mono ?_;rintro _ w2 ⟨rfl,hS2,hA2,hL2⟩)
      | (go_at_call 91;refine (CG.out _).mono ?_;rintro _ w3 ⟨rfl,hw3⟩;have hw4 := hw3.symm;subst hw4))
     go_returns
     exact ⟨rfl,hS2,(H0.out _).1.trans hL2⟩
   | false =>
     have HF : Hid ((fnS s k).leave i A S = S) := by show _ = _;rw [jeY hJ hG]
     rw [HF.out]
     clear HF hJ hG hT hjt hgt hjm
     go_enter Tryz.func97,Tryz.ntmps97
     go_wp2_with (go_at_call 91;refine (CG.out _).mono ?_;rintro _ w3 ⟨rfl,hw3⟩;have hw4 := hw3.symm;subst hw4)
     go_returns
     exact ⟨rfl,(H0.out _).2.1,(H0.out _).1⟩
theorem Tryz.infoLine : (Tryz.prog.info? 116).map (·.size) = some 5 := by kernel_rfl
theorem jgu {f : Ro.Fn} {i : Nat} (h : f.T i = none) : f.st (i + 1) = f.st i := by
 show f.step i (f.st i) = _
 unfold Ro.Fn.step
 rw [show f.st i i = none from h]
theorem jgt {f : Ro.Fn} {i : Nat} {A : Pl} (h : f.T i = some A) : f.st (i + 1) = f.leave i (f.aft i A) (f.st i) := by
 show f.step i (f.st i) = _
 unfold Ro.Fn.step
 rw [show f.st i i = some A from h]
def flI (b : Nat) : Option Nat -> Int
 | some i => ((b + i : Nat) : Int)
 | none => -1
def flR (s : ByteArray) (k : Nat) : Option Nat := bad ((fnS s k).ok fun i => rdL s (r0 s k + i)) (en s k - r0 s k) 0
theorem Lone.lower {g B : Nat} {w w' : World} (h : Lone g w w') (hB : B <= g) : Below B w w' := h.below.mono hB
set_option maxRecDepth 100000 in
theorem jkj {B f g k cnt : Nat} {aF aN aL : Option Addr} {nF cFc nN cNc nL cLc : Nat} {arr : Array Value} {t : TypeId} {R : Option Nat} (hcd : jU s w B (.slice aF nF cFc) (.slice aN nN cNc) (.slice aL nL cLc)) (hBg : ∀ v : Value,(v = .slice aF nF cFc \/ v = .slice aN nN cNc \/ v = .slice aL nL cLc) -> v.ownBlock ≠ some g)
 (hrow : bad (jt s) (hF s) 0 = none) (hk : k < hF s) (hw : ∀ pc,r0 s k <= pc -> pc < en s k -> Wl s k pc) (hcnt : cnt = en s k - r0 s k) (hfg : f ≠ g)
 (hf : w.heap[f]? = some (JL (.slice aF nF cFc) (.slice aN nN cNc) (.slice aL nL cLc) (r0 s k) (.slice (some ⟨g,0,none⟩) cnt cnt))) (hb : w.heap[g]? = some (.cells arr t (0,0))) (hS : Jo w g cnt 0 ((fnS s k).st 0)) (hR : flR s k = R) :
 Calls Tryz.prog 70 #[.pointer (some ⟨f,0,none⟩)] w fun e w' => e = .returned (.int .i64 (flI (r0 s k) R)) /\ Lg g w w' := by
 obtain ⟨he1,he2⟩ := jal hrow hk
 have hLl : hL s < 65536 := ju _ _
 have hflt := lt_of_block hf
 have hglt := lt_of_block hb
 have HF := jH hf
 have HBK := jH hb
 have HCD := jH hcd
 have HR := jH hR
 have HW := jH hw
 have HRW := jH hrow
 have HBG := jH hBg
 have HS0 := jH hS
 obtain ⟨res,hres⟩ : ∃ res : Int,(flI (r0 s k) R) = res := ⟨_,rfl⟩
 rw [hres]
 have HRES := jH hres
 have HON : Hid (∀ W,Lg g w W -> jU s W B (.slice aF nF cFc) (.slice aN nN cNc) (.slice aL nL cLc) /\ W.heap[f]? = some (JL (.slice aF nF cFc) (.slice aN nN cNc) (.slice aL nL cLc) (r0 s k) (.slice (some ⟨g,0,none⟩) cnt cnt)) /\ ∃ arr',W.heap[g]? = some (.cells arr' t (0,0))) := fun W hW =>
  ⟨⟨j3 hcd.funs (fun b h => hW.lone.rest b (hcd.funs.lt b h).2 (fun e => hBg _ (.inl rfl) (e ▸ h))),j3 hcd.nums (fun b h => hW.lone.rest b (hcd.nums.lt b h).2 (fun e => hBg _ (.inr (.inl rfl)) (e ▸ h))),j3 hcd.lines (fun b h => hW.lone.rest b (hcd.lines.lt b h).2 (fun e => hBg _ (.inr (.inr rfl)) (e ▸ h)))⟩,(hW.lone.rest f hflt hfg).trans hf,hW.blk arr t hb⟩
 have hcb : r0 s k + cnt = en s k := by omega
 have HCN := jH hcnt
 have HCB := jH hcb
 have hcl : r0 s k + cnt <= 65536 := by omega
 clear hf hb hcd hR hw hrow hBg hS hres hcnt hcb
 go_enter Tryz.func70,Tryz.ntmps70
 go_wp2
 go_loopg [3] cnt (fun gh s3 (wr : World) => ∃ i : Nat,i <= cnt /\ gh = cnt - i /\ s3 = .int .i64 i /\ bad ((fnS s k).ok fun i => rdL s (r0 s k + i)) (cnt - i) i = R /\ Jo wr g cnt i ((fnS s k).st i) /\ Lg g w wr)
 case atStart => exact ⟨0,by omega,rfl,rfl,by rw [Nat.sub_zero,HCN.out];exact HR.out,HS0.out,Lg.refl _ _⟩
 case round =>
  obtain ⟨i,hi,hgi,rfl,hbad,hSi,hLg⟩ := hrel
  obtain ⟨hcd1,hf1,arr1,hb1⟩ := HON.out _ hLg
  have hs1 := hLg.lone.size
  have c0 := ja hf1 0 rfl
  have c1 := ja hf1 1 rfl
  have c2 := ja hf1 2 rfl
  have c3 := ja hf1 3 rfl
  have c4 := ja hf1 4 rfl
  simp only [List.getElem_toArray,List.getElem_cons_zero,List.getElem_cons_succ] at c0 c1 c2 c3 c4
  have HCD1 := jH hcd1
  have HF1 := jH hf1
  have HB1 := jH hb1
  have HS1 := jH hSi
  have HL1 := jH hLg
  have HBAD := jH hbad
  clear hcd1 hf1 hb1 hLg hbad
  by_cases hlt : i < cnt
  ·have hLi := hSi i jN hlt
   have g1 : (i : Int) < (cnt : Int) := by omega
   have hr0 : r0 s k < 65536 := ju _ _
   cases hT : (fnS s k).T i with
   | none =>
     have hT' : (fnS s k).st i i = none := hT
     rw [hT'] at hLi
     have d0 : wr.cell? ⟨g,i * 18,none⟩ = some (.bool false) := hLi 0 (by omega)
     have HNX : Hid (bad ((fnS s k).ok fun i => rdL s (r0 s k + i)) (cnt - (i + 1)) (i + 1) = R) := by
      have h := HBAD.out
      rw [show cnt - i = (cnt - (i + 1)) + 1 by omega,bad,if_pos (by unfold Ro.Fn.ok;rw [hT])] at h
      exact h
     have HNS : Hid (Jo wr g cnt (i + 1) ((fnS s k).st (i + 1))) := by
      show Jo _ _ _ _ _
      rw [jgu hT]
      exact fun j h1 h2 => HS1.out j (by omega) h2
     clear hT hT' hLi hSi
     go_wp2_with fail
     go_roundg (cnt - (i + 1))
     case measure => omega
     case rel => exact ⟨i + 1,by omega,rfl,by go_num,HNX.out,HNS.out,HL1.out⟩
   | some A =>
     have hT' : (fnS s k).st i i = some A := hT
     rw [hT'] at hLi
     have d0 : wr.cell? ⟨g,i * 18,none⟩ = some (.bool true) := hLi 0 (by omega)
     have HLI := jH hLi
     have hwl := HW.out (r0 s k + i) (by omega) (by have := HCB.out;omega)
     have HWL := jH hwl
     have u0 : ∀ x : Wd wr.heap.size wr,x.v.cell? ⟨f,0,none⟩ = some (.slice aF nF cFc) := fun x => Wd.at HF1.out (by omega) 0 rfl x
     have u1 : ∀ x : Wd wr.heap.size wr,x.v.cell? ⟨f,1,none⟩ = some (.slice aN nN cNc) := fun x => Wd.at HF1.out (by omega) 1 rfl x
     have u2 : ∀ x : Wd wr.heap.size wr,x.v.cell? ⟨f,2,none⟩ = some (.slice aL nL cLc) := fun x => Wd.at HF1.out (by omega) 2 rfl x
     have u3 : ∀ x : Wd wr.heap.size wr,x.v.cell? ⟨f,3,none⟩ = some (.int .i64 (r0 s k)) := fun x => Wd.at HF1.out (by omega) 3 rfl x
     have CL : Hid (∀ (x : Wd wr.heap.size wr) (z : Int),z = ((r0 s k + i : Nat) : Int) -> Calls Tryz.prog 50 #[.agg #[.slice aF nF cFc,.slice aN nN cNc,.slice aL nL cLc],.int .i64 z] x.v fun e w' => e = .returned (.agg #[.int .i64 (l0 s (r0 s k + i)),.int .i64 (l1 s (r0 s k + i)),.int .i64 (l2 s (r0 s k + i)),.int .i64 (l3 s (r0 s k + i)),.int .i64 (l4 s (r0 s k + i))]) /\ Below x.v.heap.size x.v w') := fun x z hz => by rw [hz];exact jdi HCD1.out (by have := HCB.out;omega) x.v x.h
     obtain ⟨Q,hQ⟩ : ∃ Q,(rdL s (r0 s k + i)).all A = Q := ⟨_,rfl⟩
     have HQ := jH hQ
     have HTT := jH hT
     have yw : IntKind.i64.wrap ((r0 s k : Int) + (i : Int)) = (r0 s k : Int) + (i : Int) := by rw [IntKind.wrap_i64];omega
     clear hT hT' hLi hSi hwl hQ
     go_upto_region 6 with fail
     refine jbo 12 11 5 (.cells #[.int .i64 0,.int .i64 0,.int .i64 0,.int .i64 0,.int .i64 0] 116 (0,0)) _ (by kernel_rfl) (by kernel_rfl) (by kernel_rfl) (by decide) rfl rfl rfl ?_
     simp only [TkD]
     refine jd (by decide) (by rfl) (v := ?v0) ?hv0 ?_
     case hv0 => (intro x;go_simp;all_goals with_reducible rfl)
     simp only [Act.put,SsT]
     refine jd (by decide) (by rfl) (v := ?v1) ?hv1 ?_
     case hv1 => (intro x;go_simp;all_goals with_reducible rfl)
     simp only [Act.put,SsT]
     refine jd (by decide) (by rfl) (v := ?v2) ?hv2 ?_
     case hv2 => (intro x;go_simp;all_goals with_reducible rfl)
     simp only [Act.put,SsT]
     refine jd (by decide) (by rfl) (v := ?v3) ?hv3 ?_
     case hv3 => (intro x;go_simp;all_goals with_reducible rfl)
     simp only [Act.put,SsT]
     refine jd (by decide) (by rfl) (v := ?v4) ?hv4 ?_
     case hv4 => (intro x;go_simp;all_goals with_reducible rfl)
     simp only [Act.put,SsT]
     refine jd (by decide) (by rfl) (v := ?v5) ?hv5 ?_
     case hv5 => (intro x;go_simp;all_goals with_reducible rfl)
     simp only [Act.put,SsT]
     refine jd (by decide) (by rfl) (v := ?v6) ?hv6 ?_
     case hv6 => (intro x;go_simp;all_goals with_reducible rfl)
     simp only [Act.put,SsT]
     refine jd (by decide) (by rfl) (v := ?v7) ?hv7 ?_
     case hv7 => (intro x;go_simp;all_goals with_reducible rfl)
     simp only [Act.put,SsT]
     refine jd (by decide) (by rfl) (v := ?v8) ?hv8 ?_
     case hv8 => (intro x;go_simp;all_goals with_reducible rfl)
     simp only [Act.put,SsT]
     refine jd (by decide) (by rfl) (v := ?v9) ?hv9 ?_
     case hv9 => (intro x;go_simp;all_goals with_reducible rfl)
     simp only [Act.put,SsT]
     refine jd (by decide) (by rfl) (v := ?v10) ?hv10 ?_
     case hv10 => (intro x;go_simp;refine CL.out x _ ?_;omega)
     simp only [Act.put,SsT]
     refine Jh (by decide) (fun w => by kernel_rfl) ?_
     refine js ?_
     intro b x hb hbk
     refine Jv hbk rfl 116 (.tmp 5) (.tmp 36) rfl #[.int .i64 (l0 s (r0 s k + i)),.int .i64 (l1 s (r0 s k + i)),.int .i64 (l2 s (r0 s k + i)),.int .i64 (l3 s (r0 s k + i)),.int .i64 (l4 s (r0 s k + i))] rfl rfl rfl Tryz.infoLine (all_oneCell_toArray (by intro u hu;simp at hu;rcases hu with rfl | rfl | rfl | rfl | rfl <;> rfl)) ?_
     intro w2 hbk2 hlo
     have hs2 := hlo.size
     have hbw2 : Below wr.heap.size wr w2 := x.h.trans (hlo.below.mono hb)
     have hL2 : Lg g w w2 := HL1.out.trans (Lg.of hbw2 (by omega))
     obtain ⟨hcd2,hf2,arr2,hb2⟩ := HON.out _ hL2
     have hA2 := HLI.out.on hbw2 (by omega)
     have CM : Hid (Calls Tryz.prog 95 #[.pointer (some ⟨f,0,none⟩),.agg #[.int .i64 (l0 s (r0 s k + i)),.int .i64 (l1 s (r0 s k + i)),.int .i64 (l2 s (r0 s k + i)),.int .i64 (l3 s (r0 s k + i)),.int .i64 (l4 s (r0 s k + i))],.pointer (some ⟨g,i * 18,none⟩)] w2 fun e w' => e = .returned (.bool Q) /\ Below w2.heap.size w2 w') := jiB hcd2 HRW.out hk hf2 HWL.out hA2 (lt_of_block hb2) HQ.out
     have e0 := ja hbk2 0 rfl
     have e1 := ja hbk2 1 rfl
     have e2 := ja hbk2 2 rfl
     have e3 := ja hbk2 3 rfl
     have e4 := ja hbk2 4 rfl
     have e5 := ja hf2 3 rfl
     simp only [List.getElem_toArray,List.getElem_cons_zero,List.getElem_cons_succ] at e0 e1 e2 e3 e4 e5
     have hbs2 := lt_of_block hbk2
     have hgs2 := lt_of_block hb2
     have HBK2 := jH hbk2
     have HL2 := jH hL2
     have HB2 := jH hb2
     have HF2 := jH hf2
     have HA2 := jH hA2
     have HBW2 := jH hbw2
     have hgw : g < w.heap.size := hglt
     have hfs2 := lt_of_block hf2
     have hgb : g ≠ b := by omega
     clear u0 u1 u2 u3 CL hbk hbk2 hlo hcd2 hf2 hb2 hA2 hL2 hbw2 c0 c1 c2 c3 c4 d0
     cases Q with
     | false =>
       have HRE : Hid (R = some i) := by
        have h := HBAD.out
        rw [show cnt - i = (cnt - (i + 1)) + 1 by omega,bad,if_neg (by unfold Ro.Fn.ok;rw [HTT.out];simp only [HQ.out];decide)] at h
        exact h.symm
       have HRS : Hid (res = (r0 s k : Int) + (i : Int)) := by show _ = _;rw [<- HRES.out,HRE.out];show ((r0 s k + i : Nat) : Int) = _;omega
       go_wp2_with (go_at_call 95;refine CM.out.mono ?_;rintro _ w3 ⟨rfl,hb3⟩;have e6 := ja (jc HF2.out hb3 hfs2) 3 rfl;simp only [List.getElem_toArray,List.getElem_cons_zero,List.getElem_cons_succ] at e6)
       go_ret
       exact ⟨jR HRS.out.symm,HL2.out.trans (Lg.of hb3 hgs2)⟩
     | true =>
       have HNX : Hid (bad ((fnS s k).ok fun i => rdL s (r0 s k + i)) (cnt - (i + 1)) (i + 1) = R) := by
        have h := HBAD.out
        rw [show cnt - i = (cnt - (i + 1)) + 1 by omega,bad,if_pos (by unfold Ro.Fn.ok;rw [HTT.out];exact HQ.out)] at h
        exact h
       have CR : Hid (∀ W,Below w2.heap.size w2 W -> Calls Tryz.prog 96 #[.pointer (some ⟨g,i * 18,none⟩),.agg #[.int .i64 (l0 s (r0 s k + i)),.int .i64 (l1 s (r0 s k + i)),.int .i64 (l2 s (r0 s k + i)),.int .i64 (l3 s (r0 s k + i)),.int .i64 (l4 s (r0 s k + i))]] W fun e w' => e = .returned (.tuple #[]) /\ jk w' g (i * 18) (some ((fnS s k).aft i A)) /\ Jo w' g cnt (i + 1) ((fnS s k).st i) /\ Lg g w w' /\ W.heap.size <= w'.heap.size /\ ∀ b',b' < W.heap.size -> b' ≠ g -> w'.heap[b']? = W.heap[b']?) := fun W hW => by
        have hbW := jc HB2.out hW hgs2
        refine (jgQ HRW.out hk HWL.out hbW (HA2.out.on hW hgs2)).mono ?_
        rintro e w' ⟨rfl,h1,h2⟩
        refine ⟨rfl,h1,fun j hj1 hj2 => ?_,(HL2.out.trans (Lg.of hW hgs2)).trans h2.lg,h2.lone.size,h2.lone.rest⟩
        exact (((HS1.out j (by omega) hj2).on HBW2.out (by omega)).on hW hgs2).keep hbW h2 (by omega)
       have CV : Hid (∀ W,Lg g w W -> jk W g (i * 18) (some ((fnS s k).aft i A)) -> Jo W g cnt (i + 1) ((fnS s k).st i) -> ∀ z : Int,z = ((r0 s k + i : Nat) : Int) -> Calls Tryz.prog 97 #[.pointer (some ⟨f,0,none⟩),.int .i64 z,.agg #[.int .i64 (l0 s (r0 s k + i)),.int .i64 (l1 s (r0 s k + i)),.int .i64 (l2 s (r0 s k + i)),.int .i64 (l3 s (r0 s k + i)),.int .i64 (l4 s (r0 s k + i))],.pointer (some ⟨g,i * 18,none⟩)] W fun e w' => e = .returned (.tuple #[]) /\ Jo w' g cnt (i + 1) ((fnS s k).st (i + 1)) /\ Lg g w w') := fun W hW hA' hS' z hz => by
        obtain ⟨_,hf',arr',hb'⟩ := HON.out _ hW
        rw [hz]
        refine (leave_any HCN.out hlt (by omega) HWL.out hfg hf' hb' hA' hS').mono ?_
        rintro e w' ⟨rfl,h1,h2⟩
        rw [jgt HTT.out]
        exact ⟨rfl,h1,hW.trans h2⟩
       go_wp2_with (first
        | (go_at_call 95;refine CM.out.mono ?_;rintro _ w3 ⟨rfl,hb3⟩;have hk3 := jc HBK2.out hb3 hbs2;have HK3 := jH hk3;have e0' := ja hk3 0 rfl;have e1' := ja hk3 1 rfl;have e2' := ja hk3 2 rfl;have e3' := ja hk3 3 rfl;have e4' := ja hk3 4 rfl;simp only [List.getElem_toArray,List.getElem_cons_zero,List.getElem_cons_succ] at e0' e1' e2' e3' e4';clear hk3)
        | (go_at_call 96;refine (CR.out _ hb3).mono ?_;rintro _ w4 ⟨rfl,hA4,hS4,hL4,hz4,hr4⟩;have hk4 := (hr4 b (by have := hb3.size;omega) (by omega)).trans HK3.out;have e6 := ja (HON.out _ hL4).2.1 3 rfl;have e0'' := ja hk4 0 rfl;have e1'' := ja hk4 1 rfl;have e2'' := ja hk4 2 rfl;have e3'' := ja hk4 3 rfl;have e4'' := ja hk4 4 rfl;simp only [List.getElem_toArray,List.getElem_cons_zero,List.getElem_cons_succ] at e6 e0'' e1'' e2'' e3'' e4'';have HK4 := jH hk4;clear hk4))
       have hb4 := lt_of_block HK4.out
       have hg4 : g < w4.heap.size := by have := hL4.lone.size;omega
       have HF4 := jH (HON.out _ hL4).2.1
       have hf4 := lt_of_block HF4.out
       have u3 : ∀ z : Wd w4.heap.size w4,z.v.cell? ⟨f,3,none⟩ = some (.int .i64 (r0 s k)) := fun z => Wd.at HF4.out hf4 3 rfl z
       have p0 : ∀ z : Wd w4.heap.size w4,z.v.cell? ⟨b,0,none⟩ = some (.int .i64 (l0 s (r0 s k + i))) := fun z => Wd.at HK4.out hb4 0 rfl z
       have p1 : ∀ z : Wd w4.heap.size w4,z.v.cell? ⟨b,1,none⟩ = some (.int .i64 (l1 s (r0 s k + i))) := fun z => Wd.at HK4.out hb4 1 rfl z
       have p2 : ∀ z : Wd w4.heap.size w4,z.v.cell? ⟨b,2,none⟩ = some (.int .i64 (l2 s (r0 s k + i))) := fun z => Wd.at HK4.out hb4 2 rfl z
       have p3 : ∀ z : Wd w4.heap.size w4,z.v.cell? ⟨b,3,none⟩ = some (.int .i64 (l3 s (r0 s k + i))) := fun z => Wd.at HK4.out hb4 3 rfl z
       have p4 : ∀ z : Wd w4.heap.size w4,z.v.cell? ⟨b,4,none⟩ = some (.int .i64 (l4 s (r0 s k + i))) := fun z => Wd.at HK4.out hb4 4 rfl z
       refine jP 9 10 (by kernel_rfl) (by kernel_rfl) (by decide) ?_
       simp only [TkD]
       refine jd (by decide) (by rfl) (v := ?r0) ?hr0 ?_
       case hr0 => (intro x;go_simp;all_goals with_reducible rfl)
       simp only [Act.put,SsT]
       refine jd (by decide) (by rfl) (v := ?r1) ?hr1 ?_
       case hr1 => (intro x;go_simp;all_goals with_reducible rfl)
       simp only [Act.put,SsT]
       refine jd (by decide) (by rfl) (v := ?r2) ?hr2 ?_
       case hr2 => (intro x;go_simp;all_goals with_reducible rfl)
       simp only [Act.put,SsT]
       refine jd (by decide) (by rfl) (v := ?r3) ?hr3 ?_
       case hr3 => (intro x;go_simp;all_goals with_reducible rfl)
       simp only [Act.put,SsT]
       refine jd (by decide) (by rfl) (v := ?r4) ?hr4 ?_
       case hr4 => (intro x;go_simp;all_goals with_reducible rfl)
       simp only [Act.put,SsT]
       refine jd (by decide) (by rfl) (v := ?r5) ?hr5 ?_
       case hr5 => (intro x;go_simp;all_goals with_reducible rfl)
       simp only [Act.put,SsT]
       refine jd (by decide) (by rfl) (v := ?r6) ?hr6 ?_
       case hr6 => (intro x;go_simp;all_goals with_reducible rfl)
       simp only [Act.put,SsT]
       refine jd (by decide) (by rfl) (v := ?r7) ?hr7 ?_
       case hr7 => (intro x;go_simp;all_goals with_reducible rfl)
       simp only [Act.put,SsT]
       refine jd (by decide) (by rfl) (v := ?r8) ?hr8 ?_
       case hr8 => (intro x;go_simp;all_goals with_reducible rfl)
       simp only [Act.put,SsT]
       refine js ?_
       intro z
       go_wp2_with (go_at_call 97;refine (CV.out _ (hL4.trans (Lg.of z.h hg4)) (hA4.on z.h hg4) (fun j h1 h2 => (hS4 j h1 h2).on z.h hg4) _ (by omega)).mono ?_;rintro _ w5 ⟨rfl,hS5,hL5⟩)
       go_roundg (cnt - (i + 1))
       case measure => omega
       case rel => exact ⟨i + 1,by omega,rfl,by go_num,HNX.out,hS5,hL5⟩
  ·have hci : i = cnt := by omega
   subst hci
   have HRE : Hid (R = none) := by
    have h := HBAD.out
    rw [Nat.sub_self] at h
    exact h.symm
   have HRS : Hid (res = -1) := by show _ = _;rw [<- HRES.out,HRE.out];rfl
   clear hSi
   go_wp2_with fail
   go_ret
   exact ⟨jR HRS.out.symm,HL1.out⟩
theorem Tryz.infM : (Tryz.prog.info? 165).map (fun i => (i.zero,i.size,i.bytes)) = some (some (.agg #[.bool false,.int .i64 0,.int .u64 0,.int .u64 0,.int .u64 0,.int .u64 0,.int .u64 0,.int .u64 0,.int .u64 0,.int .u64 0,.int .u64 0,.int .u64 0,.int .u64 0,.int .u64 0,.int .u64 0,.int .u64 0,.int .u64 0,.int .u64 0]),18,144) := by kernel_rfl
theorem Tryz.undM : Tryz.prog.underlying 156 = some (.slice 165) := by kernel_rfl
def mdC (n : Nat) : Array Value := madeCells #[.bool false,.int .i64 0,.int .u64 0,.int .u64 0,.int .u64 0,.int .u64 0,.int .u64 0,.int .u64 0,.int .u64 0,.int .u64 0,.int .u64 0,.int .u64 0,.int .u64 0,.int .u64 0,.int .u64 0,.int .u64 0,.int .u64 0,.int .u64 0] (n * 18)
theorem jiA {n j q : Nat} (hj : j < n) (hq : q < 18) : (mdC n)[j * 18 + q]? = some (cv none q) := by
 unfold mdC madeCells
 have h1 : j * 18 + q < n * 18 := by omega
 have h2 : (j * 18 + q) % 18 = q := by omega
 simp only [Array.getElem?_map,Array.getElem?_range,h1,if_true,Option.map_some]
 rw [show (#[.bool false,.int .i64 0,.int .u64 0,.int .u64 0,.int .u64 0,.int .u64 0,.int .u64 0,.int .u64 0,.int .u64 0,.int .u64 0,.int .u64 0,.int .u64 0,.int .u64 0,.int .u64 0,.int .u64 0,.int .u64 0,.int .u64 0,.int .u64 0] : Array Value).size = 18 from rfl,h2]
 have hc : q = 0 \/ q = 1 \/ q = 2 \/ q = 3 \/ q = 4 \/ q = 5 \/ q = 6 \/ q = 7 \/ q = 8 \/ q = 9 \/ q = 10 \/ q = 11 \/ q = 12 \/ q = 13 \/ q = 14 \/ q = 15 \/ q = 16 \/ q = 17 := by omega
 rcases hc with rfl | rfl | rfl | rfl | rfl | rfl | rfl | rfl | rfl | rfl | rfl | rfl | rfl | rfl | rfl | rfl | rfl | rfl <;> rfl
theorem jiF (n : Nat) (hn : n <= 70000) (w : World) : (Instr.makeSlice 156 (.int .i64 (n : Int)) (.int .i64 (n : Int))).run Tryz.prog w = .ok (.slice (some ⟨w.heap.size,0,none⟩) n n) (w.alloc (.cells (mdC n) 165)) := by
 obtain ⟨i,hi,hzz⟩ := Option.map_eq_some_iff.1 Tryz.infM
 simp only [Prod.mk.injEq] at hzz
 obtain ⟨hz,hs,hb⟩ := hzz
 have hr := run_make (P := Tryz.prog) w 156 165 i _ Tryz.undM hi hz .i64 .i64 n n (by omega) (Int.le_refl _) (by rw [hb];omega) (by omega)
 rw [hs] at hr
 simp only [Int.toNat_natCast] at hr
 exact hr
theorem jjF (s : ByteArray) (k : Nat) (hr : ∀ x ∈ tkF s k,x < 8) : ∀ q,q < 18 -> (#[.bool true,.int .i64 ((mkR (tkL (r1 s k) (r2 s k)) : Nat) : Int),.int .u64 0,.int .u64 0,.int .u64 0,.int .u64 0,.int .u64 0,.int .u64 0,.int .u64 0,.int .u64 0,.int .u64 0,.int .u64 0,.int .u64 0,.int .u64 0,.int .u64 0,.int .u64 0,.int .u64 0,.int .u64 0] : Array Value)[q]? = some (cv (some (fnS s k).init) q) := by
 intro q hq
 have h0 : ∀ n,jh (fun j => (fnS s k).init (8 + 64 * n + j)) 64 = 0 := fun n => by
  rw [<- jeJ 64]
  apply JA
  intro j _
  show (tkF s k).contains (8 + 64 * n + j) = false
  rw [List.contains_eq_any_beq,List.any_eq_false]
  intro x hx
  have := hr x hx
  simp;omega
 have h1 : jh (fnS s k).init 8 = mkR (tkL (r1 s k) (r2 s k)) := rfl
 by_cases e0 : q = 0
 ·subst e0;rfl
 ·by_cases e1 : q = 1
  ·subst e1;rfl
  ·have hc : cv (some (fnS s k).init) q = .int .u64 0 := by
    simp only [cv,if_neg e0,if_neg e1]
    rw [h0];rfl
   rw [hc]
   have hq2 : q = 2 \/ q = 3 \/ q = 4 \/ q = 5 \/ q = 6 \/ q = 7 \/ q = 8 \/ q = 9 \/ q = 10 \/ q = 11 \/ q = 12 \/ q = 13 \/ q = 14 \/ q = 15 \/ q = 16 \/ q = 17 := by omega
   rcases hq2 with rfl | rfl | rfl | rfl | rfl | rfl | rfl | rfl | rfl | rfl | rfl | rfl | rfl | rfl | rfl | rfl <;> rfl
theorem jmH (A : Pl) : Ro.meet none A = some A := rfl
set_option maxRecDepth 100000 in
theorem jmd {B k : Nat} {aF aN aL : Option Addr} {nF cFc nN cNc nL cLc : Nat} (hcd : jU s w B (.slice aF nF cFc) (.slice aN nN cNc) (.slice aL nL cLc)) (hrow : bad (jt s) (hF s) 0 = none) (hk : k < hF s) :
 Calls Tryz.prog 69 #[.agg #[.slice aF nF cFc,.slice aN nN cNc,.slice aL nL cLc],.int .i64 k] w fun e w' => ∃ (f g : Nat) (arr : Array Value),e = .returned (.pointer (some ⟨f,0,none⟩)) /\ w.heap.size <= f /\ w.heap.size <= g /\ f ≠ g /\ w'.heap[f]? = some (JL (.slice aF nF cFc) (.slice aN nN cNc) (.slice aL nL cLc) (r0 s k) (.slice (some ⟨g,0,none⟩) (en s k - r0 s k) (en s k - r0 s k))) /\ w'.heap[g]? = some (.cells arr 165 (0,0)) /\ Jo w' g (en s k - r0 s k) 0 ((fnS s k).st 0) /\ Below w.heap.size w w' := by
 obtain ⟨he1,he2⟩ := jal hrow hk
 have hLl : hL s < 65536 := ju _ _
 have hr0 : r0 s k < 65536 := ju _ _
 obtain ⟨hr1,hr2,hr3,hr4⟩ := j7 hrow hk
 have HIN := jH (jjF s k (jb5 hrow hk))
 have HB : Hid (∀ o : Obj,Below w.heap.size w (w.alloc o)) := fun o => jB.alloc jN _
 have CF : Hid (∀ W,Below w.heap.size w W -> Calls Tryz.prog 66 #[.agg #[.slice aF nF cFc,.slice aN nN cNc,.slice aL nL cLc],.int .i64 k] W fun e w' => e = .returned (.agg #[.int .i64 (r0 s k),.int .i64 (r1 s k),.int .i64 (r2 s k),.int .i64 (r3 s k)]) /\ Below W.heap.size W w') := fun W hW => jcu hcd hk W hW
 have CE : Hid (∀ W,Below w.heap.size w W -> Calls Tryz.prog 67 #[.agg #[.slice aF nF cFc,.slice aN nN cNc,.slice aL nL cLc],.int .i64 k] W fun e w' => e = .returned (.int .i64 (en s k)) /\ Below W.heap.size W w') := fun W hW => end_any (hcd.on hW) hk
 have CN : Hid (∀ W,Calls Tryz.prog 94 #[.agg #[.int .i64 (r0 s k),.int .i64 (r1 s k),.int .i64 (r2 s k),.int .i64 (r3 s k)]] W fun e w' => e = .returned (.int .i64 ((mkR (tkL (r1 s k) (r2 s k)) : Nat) : Int)) /\ Below W.heap.size W w') := fun W => jfo hr1
 clear hcd hrow
 go_enter Tryz.func69,Tryz.ntmps69
 go_wp2_with (go_at_call 66;refine (CF.out _ (HB.out _)).mono ?_;rintro _ w1 ⟨rfl,hb1⟩;have hs1 := Nat.le_trans (by rw [World.size_alloc];omega : w.heap.size + 1 <= (w.alloc _).heap.size) hb1.size;have hbox := jc (jg w _) hb1 (by rw [World.size_alloc];omega);have HBX := jH hbox;have k0 : ∀ o : Obj,(w1.alloc o).cell? ⟨w.heap.size,0,none⟩ = some (.slice aF nF cFc) := jT hbox 0 rfl;have k1 : ∀ o : Obj,(w1.alloc o).cell? ⟨w.heap.size,1,none⟩ = some (.slice aN nN cNc) := jT hbox 1 rfl;have k2 : ∀ o : Obj,(w1.alloc o).cell? ⟨w.heap.size,2,none⟩ = some (.slice aL nL cLc) := jT hbox 2 rfl;have HBW1 := jH ((HB.out _).trans (hb1.mono (by rw [World.size_alloc];omega)));clear hbox)
 obtain ⟨W2,hW2⟩ : ∃ W2,W2 = (w1.alloc (Obj.cells #[.int .i64 (r0 s k),.int .i64 (r1 s k),.int .i64 (r2 s k),.int .i64 (r3 s k)] 124 (0,0))).alloc (JL (.slice aF nF cFc) (.slice aN nN cNc) (.slice aL nL cLc) (r0 s k) (.slice none 0 0)) := ⟨_,rfl⟩
 have hz2 : W2.heap.size = w1.heap.size + 2 := by rw [hW2,World.size_alloc,World.size_alloc]
 have hrow2 : W2.heap[w1.heap.size]? = some (Obj.cells #[.int .i64 (r0 s k),.int .i64 (r1 s k),.int .i64 (r2 s k),.int .i64 (r3 s k)] 124 (0,0)) := by rw [hW2];exact (Below.heap_alloc _ _ _ (by rw [World.size_alloc];omega)).trans (jg w1 _)
 have hfl2 : W2.heap[w1.heap.size + 1]? = some (JL (.slice aF nF cFc) (.slice aN nN cNc) (.slice aL nL cLc) (r0 s k) (.slice none 0 0)) := by
  rw [hW2]
  have := jg (w1.alloc (Obj.cells #[.int .i64 (r0 s k),.int .i64 (r1 s k),.int .i64 (r2 s k),.int .i64 (r3 s k)] 124 (0,0))) (JL (.slice aF nF cFc) (.slice aN nN cNc) (.slice aL nL cLc) (r0 s k) (.slice none 0 0))
  rw [World.size_alloc] at this
  exact this
 have hbox2 : W2.heap[w.heap.size]? = some (.cells #[.slice aF nF cFc,.slice aN nN cNc,.slice aL nL cLc] 68 (0,0)) := by rw [hW2];exact (Below.heap_alloc _ _ _ (by rw [World.size_alloc];omega)).trans ((Below.heap_alloc _ _ _ (by omega)).trans HBX.out)
 have hbw2 : Below w.heap.size w W2 := by rw [hW2];exact ((HBW1.out).alloc (by omega) _).alloc (by rw [World.size_alloc];omega) _
 show Code.wp _ _ _ _ ((w1.alloc (Obj.cells #[.int .i64 (r0 s k),.int .i64 (r1 s k),.int .i64 (r2 s k),.int .i64 (r3 s k)] 124 (0,0))).alloc (JL (.slice aF nF cFc) (.slice aN nN cNc) (.slice aL nL cLc) (r0 s k) (.slice none 0 0)))
 rw [<- hW2]
 have u0 : ∀ x : Wd W2.heap.size W2,x.v.cell? ⟨w.heap.size,0,none⟩ = some (.slice aF nF cFc) := fun x => Wd.at hbox2 (by omega) 0 rfl x
 have u1 : ∀ x : Wd W2.heap.size W2,x.v.cell? ⟨w.heap.size,1,none⟩ = some (.slice aN nN cNc) := fun x => Wd.at hbox2 (by omega) 1 rfl x
 have u2 : ∀ x : Wd W2.heap.size W2,x.v.cell? ⟨w.heap.size,2,none⟩ = some (.slice aL nL cLc) := fun x => Wd.at hbox2 (by omega) 2 rfl x
 have u3 : ∀ x : Wd W2.heap.size W2,x.v.cell? ⟨w1.heap.size,0,none⟩ = some (.int .i64 (r0 s k)) := fun x => Wd.at hrow2 (by omega) 0 rfl x
 have HBZ : Hid (∀ x : Wd W2.heap.size W2,Below w.heap.size w x.v) := fun x => hbw2.trans (x.h.mono (by omega))
 have HFL := jH hfl2
 have HRO := jH hrow2
 have HZ2 := jH hz2
 haveI := Wd.ne
 clear hW2 hbox2 hbw2 hfl2 hrow2 k0 k1 k2 hz2
 refine jY (by kernel_rfl) (by kernel_rfl) ?_
 repeat (go_big_quiet_step ((go_at_call 67;exact jI jN (CE.out _ (HBZ.out _)))))
 refine wpQuiet_nil ?_
 intro x
 have hxb := jc HFL.out x.h (by have := HZ2.out;omega)
 have hx3 : ∀ o,(x.v.alloc o).cell? ⟨w1.heap.size + 1,4,none⟩ = some (.slice none 0 0) := jT hxb 4 rfl
 have hx4 : ∀ o,(x.v.alloc o).frozen? ⟨w1.heap.size + 1,4,none⟩ = false := fun o => je ((Below.heap_alloc _ _ _ (lt_of_block hxb)).trans hxb) 4
 have HXB := jH hxb
 clear hxb
 have hmk := jiF (en s k - r0 s k) (by omega)
 rw [show ((en s k - r0 s k : Nat) : Int) = (en s k : Int) - (r0 s k : Int) by omega] at hmk
 clear u0 u1 u2 u3
 go_wp2_with fail
 obtain ⟨W3,hW3⟩ : ∃ W3,W3 = ((x.v.alloc (Obj.cells (mdC (en s k - r0 s k)) 165)).setCell ⟨w1.heap.size + 1,4,none⟩ (.slice (some ⟨x.v.heap.size,0,none⟩) (en s k - r0 s k) (en s k - r0 s k))) := ⟨_,rfl⟩
 have hxs := x.h.size
 have hz2 := HZ2.out
 have hz3 : W3.heap.size = x.v.heap.size + 1 := by rw [hW3,jy,World.size_alloc]
 have hfl3 : W3.heap[w1.heap.size + 1]? = some (JL (.slice aF nF cFc) (.slice aN nN cNc) (.slice aL nL cLc) (r0 s k) (.slice (some ⟨x.v.heap.size,0,none⟩) (en s k - r0 s k) (en s k - r0 s k))) := by rw [hW3];exact jf ((Below.heap_alloc _ _ _ (by omega)).trans HXB.out) 4 _
 have hg3 : W3.heap[x.v.heap.size]? = some (.cells (mdC (en s k - r0 s k)) 165 (0,0)) := by rw [hW3];exact (Below.heap_setCell _ _ _ _ (show x.v.heap.size ≠ w1.heap.size + 1 by omega)).trans (jg x.v _)
 have hrow3 : W3.heap[w1.heap.size]? = some (Obj.cells #[.int .i64 (r0 s k),.int .i64 (r1 s k),.int .i64 (r2 s k),.int .i64 (r3 s k)] 124 (0,0)) := by rw [hW3];exact (Below.heap_setCell _ _ _ _ (show w1.heap.size ≠ w1.heap.size + 1 by omega)).trans ((Below.heap_alloc _ _ _ (by omega)).trans (jc HRO.out x.h (by omega)))
 have hbw3 : Below w.heap.size w W3 := by rw [hW3];exact (((HBZ.out x).alloc (by omega) _).setCell (p := ⟨w1.heap.size + 1,4,none⟩) (show w.heap.size <= w1.heap.size + 1 by omega) _)
 rw [<- hW3]
 generalize x.v.heap.size = g at *
 have v0 : ∀ z : Wd W3.heap.size W3,z.v.cell? ⟨w1.heap.size,0,none⟩ = some (.int .i64 (r0 s k)) := fun z => Wd.at hrow3 (by omega) 0 rfl z
 have v1 : ∀ z : Wd W3.heap.size W3,z.v.cell? ⟨w1.heap.size,1,none⟩ = some (.int .i64 (r1 s k)) := fun z => Wd.at hrow3 (by omega) 1 rfl z
 have v2 : ∀ z : Wd W3.heap.size W3,z.v.cell? ⟨w1.heap.size,2,none⟩ = some (.int .i64 (r2 s k)) := fun z => Wd.at hrow3 (by omega) 2 rfl z
 have v3 : ∀ z : Wd W3.heap.size W3,z.v.cell? ⟨w1.heap.size,3,none⟩ = some (.int .i64 (r3 s k)) := fun z => Wd.at hrow3 (by omega) 3 rfl z
 have HFL3 := jH hfl3
 have HG3 := jH hg3
 have HBW3 := jH hbw3
 have HZ3 := jH hz3
 have HLT := jH (show w1.heap.size + 1 < g /\ w.heap.size < w1.heap.size + 1 by omega)
 clear hW3 hfl3 hg3 hrow3 hbw3 hz3 hx3 hx4 hmk hz2 hxs
 refine jbo 7 6 35 (.cells #[.bool true,.int .i64 ((mkR (tkL (r1 s k) (r2 s k)) : Nat) : Int),.int .u64 0,.int .u64 0,.int .u64 0,.int .u64 0,.int .u64 0,.int .u64 0,.int .u64 0,.int .u64 0,.int .u64 0,.int .u64 0,.int .u64 0,.int .u64 0,.int .u64 0,.int .u64 0,.int .u64 0,.int .u64 0] 165 (0,0)) _ (by kernel_rfl) (by kernel_rfl) (by kernel_rfl) (by decide) rfl rfl rfl ?_
 simp only [TkD]
 refine jd (by decide) (by rfl) (v := ?v0) ?hv0 ?_
 case hv0 => (intro x;go_simp;all_goals with_reducible rfl)
 simp only [Act.put,SsT]
 refine jd (by decide) (by rfl) (v := ?v1) ?hv1 ?_
 case hv1 => (intro x;go_simp;all_goals with_reducible rfl)
 simp only [Act.put,SsT]
 refine jd (by decide) (by rfl) (v := ?v2) ?hv2 ?_
 case hv2 => (intro x;go_simp;all_goals with_reducible rfl)
 simp only [Act.put,SsT]
 refine jd (by decide) (by rfl) (v := ?v3) ?hv3 ?_
 case hv3 => (intro x;go_simp;all_goals with_reducible rfl)
 simp only [Act.put,SsT]
 refine jd (by decide) (by rfl) (v := ?v4) ?hv4 ?_
 case hv4 => (intro x;go_simp;exact CN.out _)
 simp only [Act.put,SsT]
 refine jd (by decide) (by rfl) (v := ?v5) ?hv5 ?_
 case hv5 => (intro x;go_simp;all_goals with_reducible rfl)
 simp only [Act.put,SsT]
 refine Jh (by decide) (fun w => by kernel_rfl) ?_
 refine js ?_
 intro b z hb hbk
 have hz3 := HZ3.out
 have hlt := HLT.out
 have hflz := jc HFL3.out z.h (by omega)
 have hgz := jc HG3.out z.h (by omega)
 have hA : jk z.v b 0 (some (fnS s k).init) := fun q hq => by
  rw [Nat.zero_add]
  exact ja hbk q (HIN.out q hq)
 have hR0 : ∀ j,j < en s k - r0 s k -> jk z.v g (j * 18) none := fun j hj q hq => ja hgz _ (jiA hj hq)
 have HRS : Hid (∀ w',jk w' g (0 * 18) (Ro.meet none (fnS s k).init) -> Ch g (0 * 18) z.v w' -> Jo w' g (en s k - r0 s k) 0 ((fnS s k).st 0)) := fun w' h1 h2 j hj1 hj2 => by
  by_cases e : j = 0
  ·subst e;exact h1
  ·have : (fnS s k).st 0 j = none := by show (if j = 0 then some (fnS s k).init else none) = none;rw [if_neg e]
   rw [this]
   exact (hR0 j hj2).keep hgz h2 e
 have CA : Hid (∀ zz : Int,zz = ((r0 s k + 0 : Nat) : Int) -> Calls Tryz.prog 93 #[.pointer (some ⟨w1.heap.size + 1,0,none⟩),.int .i64 zz,.pointer (some ⟨b,0,none⟩)] z.v fun e w' => e = .returned (.tuple #[]) /\ jk w' g (0 * 18) (Ro.meet none (fnS s k).init) /\ Ch g (0 * 18) z.v w') := fun zz hzz =>
  jfJ hflz hgz (by omega) (by omega) (by omega) (lt_of_block hbk) (.inl (by omega)) (hR0 0 (by omega)) hA zz hzz
 have HFZ := jH hflz
 have HGZ := jH hgz
 clear hflz hgz hA hR0 hbk
 go_wp2_with (go_at_call 93;refine (CA.out _ (by omega)).mono ?_;rintro _ w5 ⟨rfl,hM5,hC5⟩)
 go_ret
 obtain ⟨arr5,h5,_⟩ := hC5.blk _ _ HGZ.out
 refine ⟨w1.heap.size + 1,g,arr5,rfl,by omega,by omega,by omega,?_,h5,HRS.out _ hM5 hC5,?_⟩
 ·exact (hC5.lone.rest _ (lt_of_block HFZ.out) (by omega)).trans HFZ.out
 ·exact (HBW3.out.trans (z.h.mono (by omega))).trans (hC5.lone.below.mono (by omega))
theorem jcx (s : ByteArray) (k : Nat) : flK s k = (flR s k).map (r0 s k + ·) := rfl
theorem jki {B f g k : Nat} {aF aN aL : Option Addr} {nF cFc nN cNc nL cLc : Nat} {arr : Array Value} (hcd : jU s w B (.slice aF nF cFc) (.slice aN nN cNc) (.slice aL nL cLc)) {w0 : World} (hcd0 : jU s w0 B (.slice aF nF cFc) (.slice aN nN cNc) (.slice aL nL cLc)) (hg : w0.heap.size <= g)
 (hrow : bad (jt s) (hF s) 0 = none) (hk : k < hF s) (hop : jz (opK s) (hF s) 0 = none) (hfg : f ≠ g)
 (hf : w.heap[f]? = some (JL (.slice aF nF cFc) (.slice aN nN cNc) (.slice aL nL cLc) (r0 s k) (.slice (some ⟨g,0,none⟩) (en s k - r0 s k) (en s k - r0 s k)))) (hb : w.heap[g]? = some (.cells arr 165 (0,0))) (hS : Jo w g (en s k - r0 s k) 0 ((fnS s k).st 0)) :
 Calls Tryz.prog 70 #[.pointer (some ⟨f,0,none⟩)] w fun e w' => e = .returned (.int .i64 (flI (r0 s k) (flR s k))) /\ Lg g w w' := by
 obtain ⟨he1,he2⟩ := jal hrow hk
 refine jkj hcd (fun v hv h => ?_) hrow hk (fun pc h1 h2 => Wl.of ?_) rfl hfg hf hb hS rfl
 ·rcases hv with rfl | rfl | rfl
  ·have := (hcd0.funs.lt g h).2;omega
  ·have := (hcd0.nums.lt g h).2;omega
  ·have := (hcd0.lines.lt g h).2;omega
 ·have h3 := jbu _ _ hop k (by omega) (by omega)
  exact jay _ _ h3 pc (by omega) (by omega)
set_option maxRecDepth 100000 in
theorem jeb {B : Nat} {aF aN aL : Option Addr} {nF cFc nN cNc nL cLc : Nat} {R : Option Nat} (hcd : jU s w B (.slice aF nF cFc) (.slice aN nN cNc) (.slice aL nL cLc)) (hrow : bad (jt s) (hF s) 0 = none) (hop : jz (opK s) (hF s) 0 = none) (hR : jz (flK s) (hF s) 0 = R) :
 Calls Tryz.prog 44 #[.agg #[.slice aF nF cFc,.slice aN nN cNc,.slice aL nL cLc]] w fun e w' => e = .returned (.tuple #[.int .i64 (if R = none then 0 else 12 : Nat),.int .i64 (R.getD 0 : Nat)]) /\ Below w.heap.size w w' := by
 have hFl : hF s < 65536 := ju _ _
 have hnF : nF = hF s := by
  obtain ⟨a3,c3,h3⟩ := j5 hcd.funs
  injection h3
 obtain ⟨er,her⟩ : ∃ er : Nat,(if R = none then 0 else 12) = er := ⟨_,rfl⟩
 obtain ⟨at',hat'⟩ : ∃ a : Nat,R.getD 0 = a := ⟨_,rfl⟩
 rw [her,hat']
 have HER := jH her
 have HAT := jH hat'
 clear her hat'
 have HR := jH hR
 have HCD := jH hcd
 have HRW := jH hrow
 have HOP := jH hop
 clear hR hcd hrow hop
 have HB0 : Hid (∀ o : Obj,Below w.heap.size w (w.alloc o)) := fun o => jB.alloc jN _
 subst hnF
 go_enter Tryz.func44,Tryz.ntmps44
 go_wp2
 go_loopg [4] (hF s) (fun gh i (wr : World) => ∃ k : Nat,k <= hF s /\ gh = hF s - k /\ i = .int .i64 k /\ jz (flK s) (hF s - k) k = R /\ wr.heap[w.heap.size]? = some (.cells #[.slice aF (hF s) cFc,.slice aN nN cNc,.slice aL nL cLc] 68 (0,0)) /\ Below w.heap.size w wr)
 case atStart => exact ⟨0,by omega,by omega,rfl,HR.out,jg w _,HB0.out _⟩
 case round =>
  obtain ⟨k,hk,hgk,rfl,hsc,hbox,hbw⟩ := hrel
  have c0 := ja hbox 0 rfl
  have c1 := ja hbox 1 rfl
  have c2 := ja hbox 2 rfl
  simp only [List.getElem_toArray,List.getElem_cons_zero,List.getElem_cons_succ] at c0 c1 c2
  have hlt0 := lt_of_block hbox
  by_cases hlt : k < hF s
  ·have HSC := jH hsc
   have HBX := jH hbox
   have HBW := jH hbw
   have hcd1 := HCD.out.on hbw
   have CB : Hid (Calls Tryz.prog 69 #[.agg #[.slice aF (hF s) cFc,.slice aN nN cNc,.slice aL nL cLc],.int .i64 k] wr fun e w' => ∃ (f g : Nat),e = .returned (.pointer (some ⟨f,0,none⟩)) /\ wr.heap.size <= g /\ Below wr.heap.size wr w' /\ Calls Tryz.prog 70 #[.pointer (some ⟨f,0,none⟩)] w' fun e w'' => e = .returned (.int .i64 (flI (r0 s k) (flR s k))) /\ Lg g w' w'') := by
    refine (jmd hcd1 HRW.out hlt).mono ?_
    rintro e w' ⟨f,g,arr,rfl,h1,h2,h3,h4,h5,h6,h7⟩
    exact ⟨f,g,rfl,h2,h7,jki (hcd1.on h7) hcd1 h2 HRW.out hlt HOP.out h3 h4 h5 h6⟩
   have hr0 : r0 s k < 65536 := ju _ _
   clear hsc hbox hbw hcd1
   cases hfl : flR s k with
   | none =>
     rw [hfl] at CB
     have HNX : Hid (jz (flK s) (hF s - (k + 1)) (k + 1) = R) := by
      have h := HSC.out
      rw [show hF s - k = (hF s - (k + 1)) + 1 by omega,jz,jcx,hfl] at h
      exact h
     have CB2 : Hid (Calls Tryz.prog 69 #[.agg #[.slice aF (hF s) cFc,.slice aN nN cNc,.slice aL nL cLc],.int .i64 k] wr fun e w' => ∃ (f g : Nat),e = .returned (.pointer (some ⟨f,0,none⟩)) /\ wr.heap.size <= g /\ Below wr.heap.size wr w' /\ Calls Tryz.prog 70 #[.pointer (some ⟨f,0,none⟩)] w' fun e w'' => e = .returned (.int .i64 (-1)) /\ Lg g w' w'') := CB.out
     clear CB hfl
     go_wp2_with (first
      | (go_at_call 69;refine CB2.out.mono ?_;rintro _ w1 ⟨f,g,rfl,hg,hb1,C1⟩;have HC1 := jH C1;clear C1)
      | (go_at_call 70;refine HC1.out.mono ?_;rintro _ w2 ⟨rfl,hL2⟩))
     go_roundg (hF s - (k + 1))
     case measure => omega
     case rel =>
      have hb2 : Below wr.heap.size wr w2 := hb1.trans (hL2.lone.below.mono hg)
      exact ⟨k + 1,by omega,rfl,by go_num,HNX.out,jc HBX.out hb2 hlt0,HBW.out.trans (hb2.mono HBW.out.size)⟩
   | some i =>
     rw [hfl] at CB
     have HRE : Hid (R = some (r0 s k + i)) := by
      have h := HSC.out
      rw [show hF s - k = (hF s - (k + 1)) + 1 by omega,jz,jcx,hfl] at h
      exact h.symm
     have CB2 : Hid (Calls Tryz.prog 69 #[.agg #[.slice aF (hF s) cFc,.slice aN nN cNc,.slice aL nL cLc],.int .i64 k] wr fun e w' => ∃ (f g : Nat),e = .returned (.pointer (some ⟨f,0,none⟩)) /\ wr.heap.size <= g /\ Below wr.heap.size wr w' /\ Calls Tryz.prog 70 #[.pointer (some ⟨f,0,none⟩)] w' fun e w'' => e = .returned (.int .i64 ((r0 s k + i : Nat) : Int)) /\ Lg g w' w'') := CB.out
     clear CB hfl
     generalize r0 s k + i = ln at *
     have hln : (0 : Int) <= (ln : Int) := by omega
     go_wp2_with (first
      | (go_at_call 69;refine CB2.out.mono ?_;rintro _ w1 ⟨f,g,rfl,hg,hb1,C1⟩;have HC1 := jH C1;clear C1)
      | (go_at_call 70;refine HC1.out.mono ?_;rintro _ w2 ⟨rfl,hL2⟩))
     go_ret2
     have e1 : er = 12 := by rw [<- HER.out,HRE.out];rfl
     have e2 : at' = ln := by rw [<- HAT.out,HRE.out];rfl
     subst e1 e2
     exact ⟨rfl,HBW.out.trans ((hb1.trans (hL2.lone.below.mono hg)).mono HBW.out.size)⟩
  ·have hke : hF s - k = 0 := by omega
   rw [hke] at hsc
   have HRN : Hid (R = none) := hsc.symm
   clear hsc hbox
   go_wp2_with fail
   go_ret2
   have e1 : er = 0 := by rw [<- HER.out,HRN.out];rfl
   have e2 : at' = 0 := by rw [<- HAT.out,HRN.out];rfl
   subst e1 e2
   exact ⟨rfl,hbw⟩
def JS (s : ByteArray) : Nat × Nat :=
 match jz (opK s) (hF s) 0 with
 | some p => (11,p)
 | none => match jz (flK s) (hF s) 0 with
   | some p => (12,p)
   | none => (0,0)
set_option maxRecDepth 100000 in
theorem jkk {B : Nat} {aF aN aL : Option Addr} {nF cFc nN cNc nL cLc : Nat} {er at' : Nat} (hcd : jU s w B (.slice aF nF cFc) (.slice aN nN cNc) (.slice aL nL cLc)) (hrow : bad (jt s) (hF s) 0 = none) (hl : Jc w.heap.size w) (hR : JS s = (er,at')) :
 Calls Tryz.prog 21 #[.agg #[.slice aF nF cFc,.slice aN nN cNc,.slice aL nL cLc]] w fun e w' => e = .returned (.tuple #[.int .i64 er,.int .i64 at']) /\ Below w.heap.size w w' := by
 have HB : Hid (∀ o : Obj,Below w.heap.size w (w.alloc o)) := fun o => jB.alloc jN _
 cases hop : jz (opK s) (hF s) 0 with
 | some p =>
   have e1 : 11 = er := by unfold JS at hR;rw [hop] at hR;exact congrArg Prod.fst hR
   have e2 : p = at' := by unfold JS at hR;rw [hop] at hR;exact congrArg Prod.snd hR
   have CL : Hid (∀ o : Obj,Calls Tryz.prog 43 #[.agg #[.slice aF nF cFc,.slice aN nN cNc,.slice aL nL cLc]] (w.alloc o) fun e w' => e = .returned (.tuple #[.int .i64 11,.int .i64 p]) /\ Below (w.alloc o).heap.size (w.alloc o) w') := fun o => jfz (hcd.on (HB.out o)) hrow ((hl.on (HB.out o)).less (by rw [World.size_alloc];omega)) hop
   subst e1 e2
   clear hcd hl hop hR hrow
   go_enter Tryz.func21,Tryz.ntmps21
   go_wp2_with (go_at_call 43;refine (CL.out _).mono ?_;rintro _ w1 ⟨rfl,hb1⟩;have HB1 := jH ((HB.out _).trans (hb1.mono (by rw [World.size_alloc];omega))))
   go_ret2
   exact ⟨rfl,HB1.out⟩
 | none =>
   have CL : Hid (∀ o : Obj,Calls Tryz.prog 43 #[.agg #[.slice aF nF cFc,.slice aN nN cNc,.slice aL nL cLc]] (w.alloc o) fun e w' => e = .returned (.tuple #[.int .i64 0,.int .i64 0]) /\ Below (w.alloc o).heap.size (w.alloc o) w') := fun o => jfz (hcd.on (HB.out o)) hrow ((hl.on (HB.out o)).less (by rw [World.size_alloc];omega)) hop
   have CR : Hid (∀ W,Below w.heap.size w W -> Calls Tryz.prog 44 #[.agg #[.slice aF nF cFc,.slice aN nN cNc,.slice aL nL cLc]] W fun e w' => e = .returned (.tuple #[.int .i64 er,.int .i64 at']) /\ Below W.heap.size W w') := fun W hW => by
    cases hfl : jz (flK s) (hF s) 0 with
    | some p =>
      have e1 : 12 = er := by unfold JS at hR;rw [hop,hfl] at hR;exact congrArg Prod.fst hR
      have e2 : p = at' := by unfold JS at hR;rw [hop,hfl] at hR;exact congrArg Prod.snd hR
      have := jeb (hcd.on hW) hrow hop hfl
      subst e1 e2
      exact this
    | none =>
      have e1 : 0 = er := by unfold JS at hR;rw [hop,hfl] at hR;exact congrArg Prod.fst hR
      have e2 : 0 = at' := by unfold JS at hR;rw [hop,hfl] at hR;exact congrArg Prod.snd hR
      have := jeb (hcd.on hW) hrow hop hfl
      subst e1 e2
      exact this
   clear hcd hl hop hR hrow
   go_enter Tryz.func21,Tryz.ntmps21
   go_wp2_with (first
    | (go_at_call 43;refine (CL.out _).mono ?_;rintro _ w1 ⟨rfl,hb1⟩;have HB1 := jH ((HB.out _).trans (hb1.mono (by rw [World.size_alloc];omega)));have hbx := jc (jg w _) hb1 (by rw [World.size_alloc];omega);have c0 := ja hbx 0 rfl;have c1 := ja hbx 1 rfl;have c2 := ja hbx 2 rfl;simp only [List.getElem_toArray,List.getElem_cons_zero,List.getElem_cons_succ] at c0 c1 c2;clear hbx)
    | (go_at_call 44;refine (CR.out _ HB1.out).mono ?_;rintro _ w2 ⟨rfl,hb2⟩))
   go_ret2
   exact ⟨rfl,HB1.out.trans (hb2.mono HB1.out.size)⟩
end Go.Proofs.YtjmgolahkgalbaaGreatDoor
namespace Go.Proofs.YtjmgolahkgalbaaGreatDoor
open Go.RowKit Li
variable {s : ByteArray}
theorem jfA {er at' : Nat} (h : res s = some (er,at')) : ckR s = (er,at') := by unfold ckR;rw [h]
theorem jdB (h : res s = none) : ckR s = JS s := by
 unfold ckR JS
 rw [h]
 cases jz (opK s) (hF s) 0 with
 | some p => rfl
 | none => cases jz (flK s) (hF s) 0 <;> rfl
def jms (s : ByteArray) : Prop := ∀ W : World,Calls Tryz.prog 23 #[.string s] W fun e w' => e = .returned (.tuple #[.int .i64 (ckR s).1,.int .i64 (ckR s).2]) /\ Below W.heap.size W w'
end Go.Proofs.YtjmgolahkgalbaaGreatDoor
