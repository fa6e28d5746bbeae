import Derived.Test.YtjmgolahkgalbaaGreatDoorS52
import Derived.Test.YtjmgolahkgalbaaGreatDoorS53
import Derived.Test.YtjmgolahkgalbaaGreatDoorRows
import Derived.ProofKit
import Derived.LaidMore
import Derived.OpenShut
import Derived.Stop.Joined
import Derived.Lib.LaidTab
import Derived.ChangeMaps5
import Derived.ShutString
import Derived.ChangeSlices
import Derived.ChangeSame
import Derived.Test.YtjmgolahkgalbaaGreatDoorTie
import Derived.Test.YtjmgolahkgalbaaGreatDoorCards
import Derived.SevenTiedAt
set_option linter.unusedVariables false
set_option linter.unusedSimpArgs false
set_option maxHeartbeats 20000000
namespace Go.Proofs.YtjmgolahkgalbaaGreatDoor
namespace Ko
open Go.RowKit Li
variable {s : ByteArray} {w : World}
theorem jjW {b : Nat} {a0 a1 a2 a3 a4 a5 a6 a7 : Value} {t : TypeId} (h : w.heap[b]? = some (.cells #[a0,a1,a2,a3,a4,a5,a6,a7] t (0,0))) (x0 x1 x2 x3 x4 x5 x6 x7 : Value) :
 ((((((((w.setCell ⟨b,0,none⟩ x0).setCell ⟨b,1,none⟩ x1).setCell ⟨b,2,none⟩ x2).setCell ⟨b,3,none⟩ x3).setCell ⟨b,4,none⟩ x4).setCell ⟨b,5,none⟩ x5).setCell ⟨b,6,none⟩ x6).setCell ⟨b,7,none⟩ x7).drew.heap[b]? = some (.cells #[x0,x1,x2,x3,x4,x5,x6,x7] t (0,0)) := by
 have h0 : (w.setCell ⟨b,0,none⟩ x0).heap[b]? = some (.cells #[x0,a1,a2,a3,a4,a5,a6,a7] t (0,0)) := by
  rw [jf h 0 x0];rfl
 have h1 : ((w.setCell ⟨b,0,none⟩ x0).setCell ⟨b,1,none⟩ x1).heap[b]? = some (.cells #[x0,x1,a2,a3,a4,a5,a6,a7] t (0,0)) := by
  rw [jf h0 1 x1];rfl
 have h2 : (((w.setCell ⟨b,0,none⟩ x0).setCell ⟨b,1,none⟩ x1).setCell ⟨b,2,none⟩ x2).heap[b]? = some (.cells #[x0,x1,x2,a3,a4,a5,a6,a7] t (0,0)) := by
  rw [jf h1 2 x2];rfl
 have h3 : ((((w.setCell ⟨b,0,none⟩ x0).setCell ⟨b,1,none⟩ x1).setCell ⟨b,2,none⟩ x2).setCell ⟨b,3,none⟩ x3).heap[b]? = some (.cells #[x0,x1,x2,x3,a4,a5,a6,a7] t (0,0)) := by
  rw [jf h2 3 x3];rfl
 have h4 : (((((w.setCell ⟨b,0,none⟩ x0).setCell ⟨b,1,none⟩ x1).setCell ⟨b,2,none⟩ x2).setCell ⟨b,3,none⟩ x3).setCell ⟨b,4,none⟩ x4).heap[b]? = some (.cells #[x0,x1,x2,x3,x4,a5,a6,a7] t (0,0)) := by
  rw [jf h3 4 x4];rfl
 have h5 : ((((((w.setCell ⟨b,0,none⟩ x0).setCell ⟨b,1,none⟩ x1).setCell ⟨b,2,none⟩ x2).setCell ⟨b,3,none⟩ x3).setCell ⟨b,4,none⟩ x4).setCell ⟨b,5,none⟩ x5).heap[b]? = some (.cells #[x0,x1,x2,x3,x4,x5,a6,a7] t (0,0)) := by
  rw [jf h4 5 x5];rfl
 have h6 : (((((((w.setCell ⟨b,0,none⟩ x0).setCell ⟨b,1,none⟩ x1).setCell ⟨b,2,none⟩ x2).setCell ⟨b,3,none⟩ x3).setCell ⟨b,4,none⟩ x4).setCell ⟨b,5,none⟩ x5).setCell ⟨b,6,none⟩ x6).heap[b]? = some (.cells #[x0,x1,x2,x3,x4,x5,x6,a7] t (0,0)) := by
  rw [jf h5 6 x6];rfl
 have h7 : ((((((((w.setCell ⟨b,0,none⟩ x0).setCell ⟨b,1,none⟩ x1).setCell ⟨b,2,none⟩ x2).setCell ⟨b,3,none⟩ x3).setCell ⟨b,4,none⟩ x4).setCell ⟨b,5,none⟩ x5).setCell ⟨b,6,none⟩ x6).setCell ⟨b,7,none⟩ x7).heap[b]? = some (.cells #[x0,x1,x2,x3,x4,x5,x6,x7] t (0,0)) := by
  rw [jf h6 7 x7];rfl
 have e : ∀ W : World,W.drew.heap = W.heap := fun W => rfl
 rw [e]
 exact h7
theorem jjY (w : World) (b : Nat) (x0 x1 x2 x3 x4 x5 x6 x7 : Value) :
 Lone b w ((((((((w.setCell ⟨b,0,none⟩ x0).setCell ⟨b,1,none⟩ x1).setCell ⟨b,2,none⟩ x2).setCell ⟨b,3,none⟩ x3).setCell ⟨b,4,none⟩ x4).setCell ⟨b,5,none⟩ x5).setCell ⟨b,6,none⟩ x6).setCell ⟨b,7,none⟩ x7).drew :=
 (((((((((Lone.refl b w).set 0 x0).set 1 x1).set 2 x2).set 3 x3).set 4 x4).set 5 x5).set 6 x6).set 7 x7).drew
theorem jjX {W : World} {a : Act} {b : Nat} {x0 x1 x2 x3 x4 x5 x6 x7 : Value} {bb : Bool} {t : TypeId} {Q : Ending -> World -> Prop} (hd : a.defers = []) (ht : a.tmps.getD 4 undef = .pointer (some ⟨b,0,none⟩)) (h5 : a.tmps.getD 5 undef = .bool bb) (hb : W.heap[b]? = some (.cells #[x0,x1,x2,x3,x4,x5,x6,x7] t (0,0))) (hq : Q (.returned (.tuple #[.agg #[x0,x1,x2,x3,x4,x5,x6,x7],.bool bb])) W) :
 bodyPost Tryz.prog Tryz.f5 Q Exit.ret a W := by
 obtain ⟨tmps,df⟩ := a
 subst hd
 have c0 : W.cell? ⟨b,0,none⟩ = some x0 := ja hb 0 rfl
 have c1 : W.cell? ⟨b,1,none⟩ = some x1 := ja hb 1 rfl
 have c2 : W.cell? ⟨b,2,none⟩ = some x2 := ja hb 2 rfl
 have c3 : W.cell? ⟨b,3,none⟩ = some x3 := ja hb 3 rfl
 have c4 : W.cell? ⟨b,4,none⟩ = some x4 := ja hb 4 rfl
 have c5 : W.cell? ⟨b,5,none⟩ = some x5 := ja hb 5 rfl
 have c6 : W.cell? ⟨b,6,none⟩ = some x6 := ja hb 6 rfl
 have c7 : W.cell? ⟨b,7,none⟩ = some x7 := ja hb 7 rfl
 have ht' : tmps[4]?.getD undef = .pointer (some ⟨b,0,none⟩) := by simpa using ht
 have h5' : tmps[5]?.getD undef = .bool bb := by simpa using h5
 exact bodyPost_ret (v := .tuple #[.agg #[x0,x1,x2,x3,x4,x5,x6,x7],.bool bb]) (by simp [results,Tryz.results5,go_sem,ht',h5',c0,c1,c2,c3,c4,c5,c6,c7]) rfl hq
def Tv (B : Nat) (W : World) (l : List Int) (v : Value) : Prop := (l = [] /\ v = .slice none 0 0) \/ (l ≠ [] /\ ∃ b,v = .slice (some ⟨b,0,none⟩) l.length l.length /\ B <= b /\ W.heap[b]? = some (.cells (iV l).toArray 3 (0,0)))
theorem Tv.keep {B : Nat} {w W : World} {l : List Int} {v : Value} (h : Tv B w l v) (hk : ∀ b,B <= b -> b < w.heap.size -> W.heap[b]? = w.heap[b]?) : Tv B W l v := by
 rcases h with h | ⟨h1,b,h2,h3,h4⟩
 ·exact .inl h
 ·exact .inr ⟨h1,b,h2,h3,(hk b h3 (jb h4)).trans h4⟩
theorem Tv.form {B : Nat} {l : List Int} {v : Value} (h : Tv B w l v) : ∃ a,v = .slice a l.length l.length /\ (0 < l.length \/ a = none) /\ (a = none -> l.length = 0) := by
 rcases h with ⟨rfl,rfl⟩ | ⟨h1,b,rfl,_⟩
 ·exact ⟨none,rfl,.inr rfl,fun _ => rfl⟩
 ·exact ⟨_,rfl,.inl (List.length_pos_iff.2 h1),fun e => by cases e⟩
theorem Tv.ir {B : Nat} {l : List Int} {v : Value} (h : Tv B w l v) : IR w v l := by
 rcases h with ⟨rfl,rfl⟩ | ⟨h1,b,rfl,_,h4⟩
 ·exact jck w
 ·exact ⟨_,l.length,rfl,jN,fun e => (by cases e),fun ad e j u hj => (by cases e;rw [add0];exact ja h4 j (by simpa using hj))⟩
set_option maxRecDepth 100000 in
theorem jjZ {S0 vb pb mb : Nat} {mo : Obj} (h : Bt s S0 vb pb w) (hS : S0 <= w.heap.size) (hv : vb < S0) (hp : pb < S0) (hne : vb ≠ pb) (hm : mb < S0) (hmv : mb ≠ vb) (hmp : mb ≠ pb) (hmo : w.heap[mb]? = some mo) (hm0 : ∀ W : World,W.heap[mb]? = some mo -> W.cell? ⟨mb,0,none⟩ = some (.pointer (some ⟨vb,0,none⟩)) /\ W.cell? ⟨mb,1,none⟩ = some (.pointer (some ⟨pb,0,none⟩))) (n : Int) :
 Calls Tryz.prog 5 #[.pointer (some ⟨mb,0,none⟩),.int .i64 n] w fun e w' => ∃ rv,e = .returned (.tuple #[rv,.bool true]) /\ Bt s S0 vb pb w' /\ Ou S0 vb pb w w' := by
 have hA0 := jr w (.cells #[.int .i64 0,.int .i64 0,.int .i64 0,.slice none 0 0,.int .i64 0,.int .i64 0,.int .i64 0,.int .i64 0] 30 (0,0))
 have HV := jfY h hS hv hp hne hA0 n
 unfold G1 Rs.arr at HV
 have HV := jH HV
 have hx4 := jg w (.cells #[.int .i64 0,.int .i64 0,.int .i64 0,.slice none 0 0,.int .i64 0,.int .i64 0,.int .i64 0,.int .i64 0] 30 (0,0))
 obtain ⟨c0,c1⟩ := hm0 w hmo
 have HA0 := jH hA0
 have HX4 := jH hx4
 have HMO := jH hmo
 have HM0 := jH hm0
 have hml := jb hmo
 clear h hA0 hx4 hmo hm0
 go_enter Tryz.func5,Tryz.ntmps5
 go_upto_region 2 with (go_at_call 12;refine HV.out.mono ?_;rintro _ w1 ⟨A,v,rfl,htd,hol,hk1,ho1,hmd⟩;have htv : Tv w.heap.size w1 A.l v := htd;obtain ⟨av,rfl,ht1,ht2⟩ := htv.form;have HTV := jH htv;have HK1 := jH hk1;have HO1 := jH ho1;have HMD := jH hmd;have HT1 := jH ht1;have HT2 := jH ht2;clear htd htv hk1 ho1 hmd ht1 ht2)
 have hz1 := HO1.out.low.size
 rw [World.size_alloc] at hz1
 have hA1 := jr w1 (.cells #[.int .i64 A.x0,.int .i64 A.x1,.int .i64 A.x2,.slice av A.l.length A.l.length,.int .i64 A.x4,.int .i64 A.x5,.int .i64 A.x6,.int .i64 A.x7] 30 (0,0))
 have hb6 : (w1.alloc (.cells #[.int .i64 A.x0,.int .i64 A.x1,.int .i64 A.x2,.slice av A.l.length A.l.length,.int .i64 A.x4,.int .i64 A.x5,.int .i64 A.x6,.int .i64 A.x7] 30 (0,0))).heap[w1.heap.size]? = _ := jg w1 (.cells #[.int .i64 A.x0,.int .i64 A.x1,.int .i64 A.x2,.slice av A.l.length A.l.length,.int .i64 A.x4,.int .i64 A.x5,.int .i64 A.x6,.int .i64 A.x7] 30 (0,0))
 obtain ⟨b6,hq6⟩ : ∃ b6,w1.heap.size = b6 := ⟨_,rfl⟩
 rw [hq6] at hb6
 have HMD1 := HMD.out _ hA1
 unfold Rs.arr at HMD1
 generalize w1.alloc (.cells #[.int .i64 A.x0,.int .i64 A.x1,.int .i64 A.x2,.slice av A.l.length A.l.length,.int .i64 A.x4,.int .i64 A.x5,.int .i64 A.x6,.int .i64 A.x7] 30 (0,0)) = W1 at hA1 hb6 HMD1 ⊢
 rw [hq6]
 have HMD1 := jH HMD1
 have hO1 : Ou S0 vb pb w W1 := ((Ou.of HA0.out hS).trans HO1.out).trans (Ou.of hA1 (by omega))
 have hmo1 := (hO1.rest mb hm hmv hmp).trans HMO.out
 obtain ⟨_,c1'⟩ := HM0.out W1 hmo1
 have hx41 : W1.heap[w.heap.size]? = _ := (hA1.block _ (by omega)).trans ((HK1.out w.heap.size jN (by simp)).trans HX4.out)
 have htv1 := HTV.out.keep (W := W1) (fun b _ hb => hA1.block b hb)
 have hm1 := jb hmo1
 have hl6 := jb hb6
 have HB6 := jH hb6
 have HO1' := jH hO1
 have HMO1 := jH hmo1
 have HX41 := jH hx41
 have HTV1 := jH htv1
 clear hA1 hb6 hO1 hmo1 hx41 htv1 c0 c1 HV HTV HK1 HO1 HMD
 go_upto_region 3 with (go_at_call 13;refine HMD1.out.mono ?_;rintro _ w2 ⟨v',rfl,hir,hk2,ho2,hbt⟩;obtain ⟨av',cv',rfl,hir2⟩ := id hir;have HIR := jH hir;have HK2 := jH hk2;have HO2 := jH ho2;have HBT := jH hbt;clear hir hir2 hk2 ho2 hbt)
 have hz2 := HO2.out.low.size
 have hA2 := jr w2 (.cells #[.int .i64 A.x0,.int .i64 A.x1,.int .i64 A.x2,(.slice av' A.l.length cv'),.int .i64 A.x4,.int .i64 A.x5,.int .i64 A.x6,.int .i64 A.x7] 30 (0,0))
 have hb7 : (w2.alloc (.cells #[.int .i64 A.x0,.int .i64 A.x1,.int .i64 A.x2,(.slice av' A.l.length cv'),.int .i64 A.x4,.int .i64 A.x5,.int .i64 A.x6,.int .i64 A.x7] 30 (0,0))).heap[w2.heap.size]? = _ := jg w2 (.cells #[.int .i64 A.x0,.int .i64 A.x1,.int .i64 A.x2,(.slice av' A.l.length cv'),.int .i64 A.x4,.int .i64 A.x5,.int .i64 A.x6,.int .i64 A.x7] 30 (0,0))
 obtain ⟨b7,hq7⟩ : ∃ b7,w2.heap.size = b7 := ⟨_,rfl⟩
 rw [hq7] at hb7
 generalize w2.alloc (.cells #[.int .i64 A.x0,.int .i64 A.x1,.int .i64 A.x2,(.slice av' A.l.length cv'),.int .i64 A.x4,.int .i64 A.x5,.int .i64 A.x6,.int .i64 A.x7] 30 (0,0)) = W2 at hA2 hb7 ⊢
 rw [hq7]
 have hkp : ∀ b,w.heap.size <= b -> b < W1.heap.size -> W2.heap[b]? = W1.heap[b]? := fun b h1 h2 => (hA2.block b (by omega)).trans (HK2.out b h1 h2)
 have hb62 := (hkp b6 (by omega) hl6).trans HB6.out
 have hx42 := (hkp w.heap.size jN (by omega)).trans HX41.out
 have htv2 := HTV1.out.keep hkp
 have hir2 : IR W2 (.slice av' A.l.length cv') A.l := HIR.out.on fun p u hpu => by
  have hb : p.block < w2.heap.size := by
   rcases Nat.lt_or_ge p.block w2.heap.size with h2 | h2
   ·exact h2
   ·unfold World.cell? at hpu
    rw [Array.getElem?_eq_none (by omega)] at hpu
    cases hpu
  exact (hA2.cell hb).trans hpu
 have hO2 : Ou S0 vb pb w W2 := (HO1'.out.trans HO2.out).trans (Ou.of hA2 (by have := HO1'.out.low.size;omega))
 have HA2 := jH hA2
 have HSA := jH (jgC (x0 := A.x0) (x1 := A.x1) (x2 := A.x2) (x4 := A.x4) (x5 := A.x5) (x6 := A.x6) (x7 := A.x7) htv2.ir hir2 (by omega))
 have p0 := ja hb62 0 rfl
 have p1 := ja hb62 1 rfl
 have p2 := ja hb62 2 rfl
 have p3 := ja hb62 3 rfl
 have p4 := ja hb62 4 rfl
 have p5 := ja hb62 5 rfl
 have p6 := ja hb62 6 rfl
 have p7 := ja hb62 7 rfl
 simp only [List.getElem_toArray,List.getElem_cons_zero,List.getElem_cons_succ] at p0 p1 p2 p3 p4 p5 p6 p7
 have q0 := ja hb7 0 rfl
 have q1 := ja hb7 1 rfl
 have q2 := ja hb7 2 rfl
 have q3 := ja hb7 3 rfl
 have q4 := ja hb7 4 rfl
 have q5 := ja hb7 5 rfl
 have q6 := ja hb7 6 rfl
 have q7 := ja hb7 7 rfl
 simp only [List.getElem_toArray,List.getElem_cons_zero,List.getElem_cons_succ] at q0 q1 q2 q3 q4 q5 q6 q7
 have hl62 := jb hb62
 have hl7 := jb hb7
 have HB62 := jH hb62
 have HX42 := jH hx42
 have HO2' := jH hO2
 clear hA2 hb7 hb62 hx42 htv2 hir2 hO2 hkp HK2 HO2 HIR HMD1 HB6 HX41 HTV1 HO1'
 go_upto_region 4 with (go_at_call 14;refine HSA.out.mono ?_;rintro _ w3 ⟨rfl,hb3⟩;have HB3 := jH hb3;clear hb3)
 have hb3 := HB3.out
 have hb63 := jc HB62.out hb3 hl62
 have hx43 := jc HX42.out hb3 (jb HX42.out)
 have HX43 := jH hx43
 haveI := Wd.ne
 clear p0 p1 p2 p3 p4 p5 p6 p7 q0 q1 q2 q3 q4 q5 q6 q7
 have y0 : w3.cell? ⟨b6,0,none⟩ = some (.int .i64 A.x0) := ja hb63 0 rfl
 have y1 : w3.cell? ⟨b6,1,none⟩ = some (.int .i64 A.x1) := ja hb63 1 rfl
 have y2 : w3.cell? ⟨b6,2,none⟩ = some (.int .i64 A.x2) := ja hb63 2 rfl
 have y3 : w3.cell? ⟨b6,3,none⟩ = some (.slice av A.l.length A.l.length) := ja hb63 3 rfl
 have y4 : w3.cell? ⟨b6,4,none⟩ = some (.int .i64 A.x4) := ja hb63 4 rfl
 have y5 : w3.cell? ⟨b6,5,none⟩ = some (.int .i64 A.x5) := ja hb63 5 rfl
 have y6 : w3.cell? ⟨b6,6,none⟩ = some (.int .i64 A.x6) := ja hb63 6 rfl
 have y7 : w3.cell? ⟨b6,7,none⟩ = some (.int .i64 A.x7) := ja hb63 7 rfl
 have k0 : w3.cell? ⟨w.heap.size,0,none⟩ = some (.int .i64 0) := ja hx43 0 rfl
 have z0 := je hx43 0
 have k1 : w3.cell? ⟨w.heap.size,1,none⟩ = some (.int .i64 0) := ja hx43 1 rfl
 have z1 := je hx43 1
 have k2 : w3.cell? ⟨w.heap.size,2,none⟩ = some (.int .i64 0) := ja hx43 2 rfl
 have z2 := je hx43 2
 have k3 : w3.cell? ⟨w.heap.size,3,none⟩ = some (.slice none 0 0) := ja hx43 3 rfl
 have z3 := je hx43 3
 have k4 : w3.cell? ⟨w.heap.size,4,none⟩ = some (.int .i64 0) := ja hx43 4 rfl
 have z4 := je hx43 4
 have k5 : w3.cell? ⟨w.heap.size,5,none⟩ = some (.int .i64 0) := ja hx43 5 rfl
 have z5 := je hx43 5
 have k6 : w3.cell? ⟨w.heap.size,6,none⟩ = some (.int .i64 0) := ja hx43 6 rfl
 have z6 := je hx43 6
 have k7 : w3.cell? ⟨w.heap.size,7,none⟩ = some (.int .i64 0) := ja hx43 7 rfl
 have z7 := je hx43 7
 have CT : Hid (jE 15 #[.slice av A.l.length A.l.length] (.bool true)) := fun W' => jgd HT1.out HT2.out (by omega)
 have h463 : w.heap.size ≠ b6 := by omega
 have h463' : b6 ≠ w.heap.size := by omega
 have hl63 := jb hb63
 have hl43 := jb hx43
 clear hb3 hb63 hx43
 go_region_with (first
  | (go_at_call 15;refine (CT.out _).mono ?_;rintro _ w4 ⟨rfl,hw4⟩;have hw4 := hw4.symm;subst hw4))
 all_goals
  rename_i K hK
  refine hK _ _ ?_
  go_wp2
  have FB := jjW HX43.out (.int .i64 A.x0) (.int .i64 A.x1) (.int .i64 A.x2) (.slice av A.l.length A.l.length) (.int .i64 A.x4) (.int .i64 A.x5) (.int .i64 A.x6) (.int .i64 A.x7)
  have FL := jjY w3 w.heap.size (.int .i64 A.x0) (.int .i64 A.x1) (.int .i64 A.x2) (.slice av A.l.length A.l.length) (.int .i64 A.x4) (.int .i64 A.x5) (.int .i64 A.x6) (.int .i64 A.x7)
  generalize World.drew _ = WF at FB FL ⊢
  have s3 := FL.size
  have s2 := HB3.out.size
  have s1 := HA2.out.size
  refine jjX rfl rfl rfl FB ⟨_,rfl,HBT.out _ (by omega) (fun b h1 h2 => ?_),HO2'.out.trans ((Ou.of HB3.out (by omega)).trans ⟨FL.below.mono (Nat.zero_le _),fun b h1 _ _ => FL.rest b (by omega) (by omega)⟩)⟩
  rw [World.size_alloc] at h2
  exact (FL.rest b (by omega) (by omega)).trans ((HB3.out.block b (by omega)).trans (HA2.out.block b h1))
theorem jfU {b n ci : Nat} {a : Option Addr} {words depth : Int} {er at' : Nat} (hs : s.size <= 1073741824) (hl : Jc w.heap.size w) (hn : n <= 1073741824) (hR : stR s words depth n = (er,at')) (hne : er ≠ 0) :
 Calls Tryz.prog 16 #[.pointer (some ⟨b,0,none⟩),.string s,.int .i64 words,.int .i64 depth,.slice a n ci] w fun e w' => e = .returned (.tuple #[.int .i64 er,.int .i64 at']) /\ Below w.heap.size w w' := by
 by_cases h : 0 <= words /\ words <= 4096 /\ 1 <= depth /\ depth <= 64 /\ n <= 16
 ·obtain ⟨wd,rfl⟩ : ∃ wd : Nat,words = (wd : Nat) := ⟨words.toNat,by omega⟩
  obtain ⟨dp,rfl⟩ : ∃ dp : Nat,depth = (dp : Nat) := ⟨depth.toNat,by omega⟩
  unfold stR at hR
  rw [if_neg (by omega),if_neg (by omega),if_neg (by omega)] at hR
  exact jfT hs hl ⟨by omega,by omega,by omega⟩ hR hne
 ·refine (jfS h hn (er := er)).mono fun e w' ⟨he,hw⟩ => ⟨?_,?_⟩
  ·rw [he,hR]
  ·rw [hw];exact jB
theorem jkt {b n ci : Nat} {a : Option Addr} {words depth : Int} {er at' : Nat} (hs : s.size <= 1073741824) (hn : n <= 1073741824) (hR : stR s words depth n = (er,at')) (hne : er ≠ 0) :
 Calls Tryz.prog 17 #[.pointer (some ⟨b,0,none⟩),.string s,.int .i64 words,.int .i64 depth,.slice a n ci] w fun e w' => e = .returned (.tuple #[.int .i64 er,.int .i64 at']) /\ Below w.heap.size w w' := by
 by_cases h : 0 <= words /\ words <= 4096 /\ 1 <= depth /\ depth <= 64 /\ n <= 16
 ·obtain ⟨wd,rfl⟩ : ∃ wd : Nat,words = (wd : Nat) := ⟨words.toNat,by omega⟩
  obtain ⟨dp,rfl⟩ : ∃ dp : Nat,depth = (dp : Nat) := ⟨depth.toNat,by omega⟩
  unfold stR at hR
  rw [if_neg (by omega),if_neg (by omega),if_neg (by omega)] at hR
  exact jks hs ⟨by omega,by omega,by omega⟩ hR hne
 ·refine (jkr h hn).mono fun e w' ⟨he,hw⟩ => ⟨?_,?_⟩
  ·rw [he,hR]
  ·rw [hw];exact jB
def rnO (vb pb : Nat) (a b : ByteArray) (f : Bool) (vi : Value) (x y : Int) : Obj := .cells #[.pointer (some ⟨vb,0,none⟩),.pointer (some ⟨pb,0,none⟩),.string a,.string b,.bool f,vi,.int .i64 x,.int .i64 y] 40 (0,0)
theorem jd3 (g k L : Nat) (hk : k <= L) (w : World) : (Instr.slice 22 (.slice (some ⟨g,0,none⟩) L L) (some (.int .i64 0)) (some (.int .i64 k)) none).run Tryz.prog w = .ok (.slice (some ⟨g,0,none⟩) k L) w := by
 have h1 : (k : Int) <= (L : Int) := by omega
 have hu := Tryz.kuI
 obtain ⟨i0,hi0,hz0,hz1,hz2⟩ := info_parts Tryz.kiI
 simp [Instr.slice,Instr.sliceBounds,Instr.sliceBound,asIntOf,go_sem,h1,hk,hu]
theorem jd4 (g k L : Nat) (hk : k <= L) (w : World) : (Instr.slice 22 (.slice (some ⟨g,0,none⟩) L L) (some (.int .i64 0)) (some (.int .i64 k)) (some (.int .i64 L))).run Tryz.prog w = .ok (.slice (some ⟨g,0,none⟩) k L) w := by
 have h1 : (k : Int) <= (L : Int) := by omega
 have hu := Tryz.kuI
 simp [Instr.slice,Instr.sliceBounds,Instr.sliceBound,asIntOf,go_sem,h1,hk,hu]
theorem wrap64 {x : Int} (h : -9223372036854775808 <= x /\ x <= 9223372036854775807) : IntKind.i64.wrap x = x := by
 simp [IntKind.wrap,IntKind.bits,IntKind.signed]
 omega
set_option maxRecDepth 100000 in
theorem jgr {s sr e0 e1 : ByteArray} {vb pb mb gm L : Nat} {fi f0 : Bool} {vi : Value} {x0 y0 x words depth : Int} {ins : List Int} {er at' : Nat} (hs : s.size <= 1073741824) (hl : Jc w.heap.size w) (hL : L <= 1073741824) (hx : (ins.length : Int) + x = (L : Nat)) (hi : ins.length <= L) (hm : w.heap[mb]? = some (rnO vb pb e0 e1 f0 vi x0 y0)) (hgm : gm < w.heap.size) (hcell : ∀ j u,(iV ins)[j]? = some u -> w.cell? ⟨gm,j,none⟩ = some u) (hR : stR s words depth ins.length = (er,at')) (hne : er ≠ 0) :
 Calls Tryz.prog 11 #[.pointer (some ⟨mb,0,none⟩),.agg #[.string s,.string sr,.bool fi],.slice (some ⟨gm,0,none⟩) L L,.int .i64 0,.int .i64 ins.length,.int .i64 x,.int .i64 words,.int .i64 depth] w fun e w' => e = .returned (.bool true) /\ Below w.heap.size w w' := by
 have g1 : ((er : Int) == 0) = false := by rw [beq_eq_false_iff_ne];omega
 have hA0 := jr w (.cells #[.string s,.string sr,.bool fi] 27 (0,0))
 have hc0 : (w.alloc (.cells #[.string s,.string sr,.bool fi] 27 (0,0))).heap[w.heap.size]? = _ := jg w _
 have hm0 := jc hm hA0 (jb hm)
 have hml := jb hm
 have HA0 := jH hA0
 have HC0 := jH hc0
 have HM0 := jH hm0
 have HCE : Hid (∀ W,Below w.heap.size w W -> IR W (.slice (some ⟨gm,0,none⟩) ins.length L) ins) := fun W hW => ⟨_,L,rfl,hi,fun e => (by cases e),fun ad e j u hj => (by cases e;rw [add0];exact jbh (hcell j u hj) hgm hW)⟩
 have HLF : Hid (∀ W,Below w.heap.size w W -> Jc W.heap.size W) := fun W hW => (hl.on hW).less hW.size
 have k1 := jd3 gm ins.length L hi
 have k2 := jd4 gm ins.length L hi
 have wl : IntKind.i64.wrap (ins.length : Int) = (ins.length : Int) := by apply wrap64;omega
 have wx : IntKind.i64.wrap ((ins.length : Int) + x) = (L : Int) := by rw [hx];apply wrap64;omega
 have wL : IntKind.i64.wrap (L : Int) = (L : Int) := by apply wrap64;omega
 have mL : max (L : Int) 0 = (L : Int) := by omega
 have kL : (L : Int) <= (L : Int) := Int.le_refl _
 have kl : (0 : Int) <= (L : Int) := by omega
 have ki : (ins.length : Int) <= (L : Int) := by omega
 clear hm hA0 hc0 hm0 hl hcell
 go_enter Tryz.func11,Tryz.ntmps11
 go_upto_region 2 with (go_at_call 9;refine (jcA (HCE.out _ HA0.out) (by omega)).mono ?_;rintro _ w1 ⟨rfl,hb1,hB1⟩)
 have hz0 := HA0.out.size
 have hB1' : Below w.heap.size w w1 := HA0.out.trans (hB1.mono hz0)
 have hm1 : w1.heap[mb]? = some (rnO vb pb e0 e1 f0 vi x0 y0) := jc HM0.out hB1 (by omega)
 have hc1 := jc HC0.out hB1 (by simp)
 have m0 : w1.cell? ⟨mb,0,none⟩ = some (.pointer (some ⟨vb,0,none⟩)) := ja hm1 0 rfl
 have m1 : w1.cell? ⟨mb,1,none⟩ = some (.pointer (some ⟨pb,0,none⟩)) := ja hm1 1 rfl
 have q0 : w1.cell? ⟨w.heap.size,0,none⟩ = some (.string s) := ja hc1 0 rfl
 have hl1 := jb hm1
 have HB1 := jH hB1'
 have HM1 := jH hm1
 have HC1 := jH hc1
 have CS : Hid (Calls Tryz.prog 16 #[.pointer (some ⟨vb,0,none⟩),.string s,.int .i64 words,.int .i64 depth,.slice (some ⟨gm,0,none⟩) ins.length L] w1.drew fun e w' => e = .returned (.tuple #[.int .i64 er,.int .i64 at']) /\ Below w1.drew.heap.size w1.drew w') := jfU hs (HLF.out w1.drew HB1.out.drew) (by omega) hR hne
 haveI := Wd.ne
 clear hb1 hB1 hB1' hm1 hc1
 go_cut [18,19] (fun s18 s19 wx => s18 = .int .i64 er /\ s19 = .int .i64 at' /\ Below w1.heap.size w1 wx)
 case first =>
  go_region_with (first
   | (go_at_call 16;refine CS.out.mono ?_;rintro _ w2 ⟨rfl,hB2⟩;have HB2 := jH hB2;clear hB2))
  all_goals (try go_wp2_with fail)
  all_goals go_meet
  all_goals exact ⟨rfl,rfl,(Below.refl w1.heap.size w1).drew.trans HB2.out⟩
 case rest =>
 obtain ⟨rfl,rfl,hB2⟩ := hcut
 obtain ⟨w2,rfl⟩ : ∃ w2,w2 = wc := ⟨_,rfl⟩
 have hm2 : w2.heap[mb]? = some (rnO vb pb e0 e1 f0 vi x0 y0) := jc HM1.out hB2 hl1
 have hc2 := jc HC1.out hB2 (jb HC1.out)
 have m1' : w2.cell? ⟨mb,1,none⟩ = some (.pointer (some ⟨pb,0,none⟩)) := ja hm2 1 rfl
 have q0' : w2.cell? ⟨w.heap.size,0,none⟩ = some (.string s) := ja hc2 0 rfl
 have hl2 := jb hm2
 have HB2 := jH hB2
 have CD : Hid (Calls Tryz.prog 17 #[.pointer (some ⟨pb,0,none⟩),.string s,.int .i64 words,.int .i64 depth,.slice (some ⟨w.heap.size + 1,0,none⟩) ins.length ins.length] w2.drew fun e w' => e = .returned (.tuple #[.int .i64 er,.int .i64 at']) /\ Below w2.drew.heap.size w2.drew w') := jkt hs (by omega) hR hne
 clear hB2 hm2 hc2 m0 m1 q0
 go_wp2_with fail
 go_region_with (first
  | (go_at_call 17;refine CD.out.mono ?_;rintro _ w3 ⟨rfl,hB3⟩;have HB3 := jH hB3;clear hB3))
 all_goals go_wp2
 all_goals go_ret
 all_goals exact ⟨rfl,HB1.out.trans ((HB2.out.trans (((Below.refl w2.heap.size w2).drew.trans HB3.out).mono HB2.out.size)).mono HB1.out.size)⟩
theorem two0 {S0 vb pb : Nat} {wd dp : Nat} {ins : List Int} {r : Nat} {κC κD : Kp} {X : St} {Y : Dt} (hck : ckR s = (0,0)) (hw : wd <= 4096) (hd : 1 <= dp /\ dp <= 64) (hin : ∀ z ∈ ins,-9223372036854775808 <= z /\ z <= 9223372036854775807) (hil : ins.length <= 16) (hv : w.heap[vb]? = some (vmB (some r))) (hR : RM s w r κC X) (hC : C0 s (wd / 2) dp ins X) (hM : DM s w pb κD Y) (hD : D0 s (wd / 2) dp ins Y) (kc : ∀ b,b < S0 -> κC b = none) (kd : ∀ b,b < S0 -> b ≠ pb -> κD b = none) (ap : ∀ b,κC b = none \/ κD b = none) :
 jaz s S0 vb pb w (wd / 2) dp 0 ins r κC κD (m0 s) [] (m0 s) [] 0 := by
 have HCK := jdA hck
 have hh : wd / 2 <= 2048 := by omega
 refine ⟨HCK,hh,by omega,hin,hil,hv,⟨X,hC.ci hh hd,?_,.inl ⟨hR,hC.err,hC.abs.symm⟩⟩,⟨Y,hM,hD.abs.symm,?_,hD.used.symm,hD.fuel,by rw [hD.out];simp,fun _ => hD.di hh hd (j7 HCK.row HCK.fun0).2.2.1⟩,sim0 HCK,kc,kd,ap⟩
 ·rw [hC.bs];rfl
 ·unfold dsD;rw [hD.ds];rfl
theorem jg2 {vb pb mb : Nat} {a b : ByteArray} {f : Bool} {v : Value} {x y : Int} (h : w.heap[mb]? = some (rnO vb pb a b f v x y)) (a' b' : ByteArray) (f' : Bool) : (((w.setCell ⟨mb,2,none⟩ (.string a')).setCell ⟨mb,3,none⟩ (.string b')).setCell ⟨mb,4,none⟩ (.bool f')).heap[mb]? = some (rnO vb pb a' b' f' v x y) := by
 have h1 : (w.setCell ⟨mb,2,none⟩ (.string a')).heap[mb]? = some (rnO vb pb a' b f v x y) := by rw [jf h 2];rfl
 have h2 : ((w.setCell ⟨mb,2,none⟩ (.string a')).setCell ⟨mb,3,none⟩ (.string b')).heap[mb]? = some (rnO vb pb a' b' f v x y) := by rw [jf h1 3];rfl
 rw [jf h2 4];rfl
theorem jg1 {vb pb mb : Nat} {a b : ByteArray} {f : Bool} {v : Value} {x y : Int} (h : w.heap[mb]? = some (rnO vb pb a b f v x y)) (v' : Value) (x' y' : Int) : (((w.setCell ⟨mb,5,none⟩ v').setCell ⟨mb,6,none⟩ (.int .i64 x')).setCell ⟨mb,7,none⟩ (.int .i64 y')).heap[mb]? = some (rnO vb pb a b f v' x' y') := by
 have h1 : (w.setCell ⟨mb,5,none⟩ v').heap[mb]? = some (rnO vb pb a b f v' x y) := by rw [jf h 5];rfl
 have h2 : ((w.setCell ⟨mb,5,none⟩ v').setCell ⟨mb,6,none⟩ (.int .i64 x')).heap[mb]? = some (rnO vb pb a b f v' x' y) := by rw [jf h1 6];rfl
 rw [jf h2 7];rfl
def StP (s : ByteArray) (vb pb mb : Nat) (w : World) (e : Ending) (w' : World) : Prop :=
 e = .returned (.bool true) /\ (∃ a b f v x y,w'.heap[mb]? = some (rnO vb pb a b f v x y)) /\ Bt s w.heap.size vb pb w' /\ Below 0 w w' /\ ∀ b,b < w.heap.size -> b ≠ vb -> b ≠ pb -> b ≠ mb -> w'.heap[b]? = w.heap[b]?
set_option maxRecDepth 100000 in
theorem jgq {s sr e0 e1 : ByteArray} {vb pb mb gm L wd dp : Nat} {fi f0 : Bool} {vi : Value} {x0 y0 x : Int} {ins : List Int} (hs : s.size <= 1073741824) (hl : Jc w.heap.size w) (hL : L <= 1073741824) (hx : (ins.length : Int) + x = (L : Nat)) (hi : ins.length <= L) (hm : w.heap[mb]? = some (rnO vb pb e0 e1 f0 vi x0 y0)) (hgm : gm < w.heap.size) (hgv : gm ≠ vb) (hgp : gm ≠ pb) (hcell : ∀ j u,(iV ins)[j]? = some u -> w.cell? ⟨gm,j,none⟩ = some u)
 (hck : ckR s = (0,0)) (hf : Fit wd dp ins.length) (hin : ∀ z ∈ ins,-9223372036854775808 <= z /\ z <= 9223372036854775807) (hv : w.heap[vb]? = some (vmB none)) (hp : w.heap[pb]? = some (.cells mz 55 (0,0))) (hvp : vb ≠ pb) (hmv : mb ≠ vb) (hmp : mb ≠ pb) :
 Calls Tryz.prog 11 #[.pointer (some ⟨mb,0,none⟩),.agg #[.string s,.string sr,.bool fi],.slice (some ⟨gm,0,none⟩) L L,.int .i64 0,.int .i64 ins.length,.int .i64 x,.int .i64 wd,.int .i64 dp] w (StP s vb pb mb w) := by
 have hA0 := jr w (.cells #[.string s,.string sr,.bool fi] 27 (0,0))
 have hc0 : (w.alloc (.cells #[.string s,.string sr,.bool fi] 27 (0,0))).heap[w.heap.size]? = _ := jg w _
 have hm0 := jc hm hA0 (jb hm)
 have hml := jb hm
 have hvl := jb hv
 have hpl := jb hp
 have f3 := hf.n0
 have HA0 := jH hA0
 have HC0 := jH hc0
 have HM0 := jH hm0
 have HV := jH hv
 have HP := jH hp
 have HF := jH hf
 have HIN := jH hin
 have HCL := jH hcell
 have HCE : Hid (∀ W,Below w.heap.size w W -> IR W (.slice (some ⟨gm,0,none⟩) ins.length L) ins) := fun W hW => ⟨_,L,rfl,hi,fun e => (by cases e),fun ad e j u hj => (by cases e;rw [add0];exact jbh (hcell j u hj) hgm hW)⟩
 have HLF : Hid (∀ W,Below w.heap.size w W -> Jc W.heap.size W) := fun W hW => (hl.on hW).less hW.size
 have k1 := jd3 gm ins.length L hi
 have k2 := jd4 gm ins.length L hi
 have wl : IntKind.i64.wrap (ins.length : Int) = (ins.length : Int) := by apply wrap64;omega
 have wx : IntKind.i64.wrap ((ins.length : Int) + x) = (L : Int) := by rw [hx];apply wrap64;omega
 have wL : IntKind.i64.wrap (L : Int) = (L : Int) := by apply wrap64;omega
 have mL : max (L : Int) 0 = (L : Int) := by omega
 have kL : (L : Int) <= (L : Int) := Int.le_refl _
 have kl : (0 : Int) <= (L : Int) := by omega
 have ki : (ins.length : Int) <= (L : Int) := by omega
 clear hm hA0 hc0 hm0 hl hcell hv hp hf hin
 go_enter Tryz.func11,Tryz.ntmps11
 go_upto_region 2 with (go_at_call 9;refine (jcA (HCE.out _ HA0.out) (by omega)).mono ?_;rintro _ w1 ⟨rfl,hb1,hB1⟩)
 have hz0 := HA0.out.size
 rw [World.size_alloc] at hb1
 have hB1' : Below w.heap.size w w1 := HA0.out.trans (hB1.mono hz0)
 have hm1 : w1.heap[mb]? = some (rnO vb pb e0 e1 f0 vi x0 y0) := jc HM0.out hB1 (by omega)
 have hc1 := jc HC0.out hB1 (by simp)
 have m0 : w1.cell? ⟨mb,0,none⟩ = some (.pointer (some ⟨vb,0,none⟩)) := ja hm1 0 rfl
 have q0 : w1.cell? ⟨w.heap.size,0,none⟩ = some (.string s) := ja hc1 0 rfl
 have hl1 := jb hm1
 have HB1 := jH hB1'
 have HM1 := jH hm1
 have HC1 := jH hc1
 have HT1 := jH hb1
 have CS : Hid (Calls Tryz.prog 16 #[.pointer (some ⟨vb,0,none⟩),.string s,.int .i64 wd,.int .i64 dp,.slice (some ⟨gm,0,none⟩) ins.length L] w1.drew (VsP s (wd / 2) dp ins w1.drew vb)) := jfR hck (HLF.out w1.drew HB1.out.drew) HF.out (jc HV.out HB1.out.drew hvl) (fun j u hj => jbh (HCL.out j u hj) hgm HB1.out.drew) (Nat.lt_of_lt_of_le hgm HB1.out.drew.size) hi
 haveI := Wd.ne
 clear hb1 hB1 hB1' hm1 hc1
 go_cut [18,19] (fun s18 s19 wx => s18 = .int .i64 0 /\ s19 = .int .i64 0 /\ ∃ r κ X,RM s wx r κ X /\ C0 s (wd / 2) dp ins X /\ (∀ k,k < w1.heap.size -> κ k = none) /\ wx.heap[vb]? = some (vmB (some r)) /\ Lone vb w1 wx)
 case first =>
  go_region_with (first
   | (go_at_call 16;refine CS.out.mono ?_;rintro _ w2 ⟨rfl,h2⟩;have H2 := jH h2;clear h2))
  all_goals (try go_wp2_with fail)
  all_goals go_meet
  all_goals
   obtain ⟨r,κ,X,h1,h2,h3,h4,h5⟩ := H2.out
   exact ⟨rfl,rfl,r,κ,X,h1,h2,h3,h4,(Lone.refl vb w1).drew.trans h5⟩
 case rest =>
 obtain ⟨rfl,rfl,r,κC,X,hRM,hC0,hkC,hv2,hL2⟩ := hcut
 obtain ⟨w2,rfl⟩ : ∃ w2,w2 = wc := ⟨_,rfl⟩
 have hs1 := HB1.out.size
 have hs2 := hL2.size
 have hm2 : w2.heap[mb]? = some (rnO vb pb e0 e1 f0 vi x0 y0) := (hL2.rest mb hl1 hmv).trans HM1.out
 have hc2 := (hL2.rest _ (jb HC1.out) (by omega)).trans HC1.out
 have hp2 := (hL2.rest pb (by omega) (by omega)).trans (jc HP.out HB1.out hpl)
 have ht2 := (hL2.rest _ (jb HT1.out) (by omega)).trans HT1.out
 have m1' : w2.cell? ⟨mb,1,none⟩ = some (.pointer (some ⟨pb,0,none⟩)) := ja hm2 1 rfl
 have q0' : w2.cell? ⟨w.heap.size,0,none⟩ = some (.string s) := ja hc2 0 rfl
 have hl2 := jb hm2
 have ht2' : w2.drew.heap[w.heap.size + 1]? = some (.cells (iV ins).toArray 3 (0,0)) := ht2
 have CD : Hid (Calls Tryz.prog 17 #[.pointer (some ⟨pb,0,none⟩),.string s,.int .i64 wd,.int .i64 dp,.slice (some ⟨w.heap.size + 1,0,none⟩) ins.length ins.length] w2.drew (DsP s (wd / 2) dp ins w2.drew pb)) := jkq hs hck HF.out hp2 (fun j u hj => ja ht2' j (by simpa using hj)) (jb ht2') (by omega) jN
 have HRM := jH hRM
 have HC0' := jH hC0
 have HKC := jH hkC
 have HV2 := jH hv2
 have HL2 := jH hL2
 have HM2 := jH hm2
 have HC2 := jH hc2
 have HT2 := jH ht2
 clear hRM hC0 hkC hv2 hL2 hm2 hc2 hp2 ht2 ht2' m0 q0
 go_wp2_with fail
 go_cut [20,21] (fun s20 s21 wx => s20 = .int .i64 0 /\ s21 = .int .i64 0 /\ ∃ κ Y,DM s wx pb κ Y /\ D0 s (wd / 2) dp ins Y /\ (∀ k,k < w2.heap.size -> k ≠ pb -> κ k = none) /\ Lone pb w2 wx)
 case first =>
  go_region_with (first
   | (go_at_call 17;refine CD.out.mono ?_;rintro _ w3 ⟨rfl,h3⟩;have H3 := jH h3;clear h3))
  all_goals (try go_wp2_with fail)
  all_goals go_meet
  all_goals
   obtain ⟨κ,Y,h1,h2,h3,h4⟩ := H3.out
   exact ⟨rfl,rfl,κ,Y,h1,h2,h3,(Lone.refl pb w2).drew.trans h4⟩
 case rest =>
 obtain ⟨rfl,rfl,κD,Y,hDM,hD0,hkD,hL3⟩ := hcut
 obtain ⟨w3,rfl⟩ : ∃ w3,w3 = wc := ⟨_,rfl⟩
 have hs3 := hL3.size
 have hm3 : w3.heap[mb]? = some (rnO vb pb e0 e1 f0 vi x0 y0) := (hL3.rest mb hl2 hmp).trans HM2.out
 have hc3 := (hL3.rest _ (jb HC2.out) (by omega)).trans HC2.out
 have ht3 := (hL3.rest _ (jb HT2.out) (by omega)).trans HT2.out
 have m2 : w3.cell? ⟨mb,2,none⟩ = some (.string e0) := ja hm3 2 rfl
 have m3 : w3.cell? ⟨mb,3,none⟩ = some (.string e1) := ja hm3 3 rfl
 have m4 : w3.cell? ⟨mb,4,none⟩ = some (.bool f0) := ja hm3 4 rfl
 have z2 := je hm3 2
 have z3 := je hm3 3
 have z4 := je hm3 4
 have p0 : w3.cell? ⟨w.heap.size,0,none⟩ = some (.string s) := ja hc3 0 rfl
 have p1 : w3.cell? ⟨w.heap.size,1,none⟩ = some (.string sr) := ja hc3 1 rfl
 have p2 : w3.cell? ⟨w.heap.size,2,none⟩ = some (.bool fi) := ja hc3 2 rfl
 have hl3 := jb hm3
 have hb3 := jb hc3
 have hd3 : mb ≠ w.heap.size := by omega
 have hd3' : w.heap.size ≠ mb := by omega
 have HDM := jH hDM
 have HD0 := jH hD0
 have HKD := jH hkD
 have HL3 := jH hL3
 have HM3 := jH hm3
 have HT3 := jH ht3
 clear hDM hD0 hkD hL3 hm3 hc3 ht3 m1' q0'
 go_upto_region 6 with fail
 have hm4 := jg2 HM3.out s sr fi
 have hL4 : Lone mb w3 (((w3.setCell ⟨mb,2,none⟩ (.string s)).setCell ⟨mb,3,none⟩ (.string sr)).setCell ⟨mb,4,none⟩ (.bool fi)) := (((Lone.refl _ _).set _ _).set _ _).set _ _
 generalize (((w3.setCell ⟨mb,2,none⟩ (.string s)).setCell ⟨mb,3,none⟩ (.string sr)).setCell ⟨mb,4,none⟩ (.bool fi)) = W4 at hm4 hL4 ⊢
 have ht4 := (hL4.rest _ (jb HT3.out) (by omega)).trans HT3.out
 have HIR : Hid (IR W4 (.slice (some ⟨w.heap.size + 1,0,none⟩) ins.length ins.length) ins) := ⟨_,ins.length,rfl,jN,fun e => (by cases e),fun ad e j u hj => (by cases e;rw [add0];exact ja ht4 j (by simpa using hj))⟩
 have HM4 := jH hm4
 have HL4 := jH hL4
 have hl4 := jb hm4
 clear hm4 hL4 ht4 m2 m3 m4 z2 z3 z4 p0 p1 p2
 go_upto_region 9 with (go_at_call 9;refine (jcA HIR.out (by omega)).mono ?_;rintro _ w5 ⟨rfl,_,hB5⟩;have hm5 := jc HM4.out hB5 hl4;have m5 : w5.cell? ⟨mb,5,none⟩ = some vi := ja hm5 5 rfl;have m6 : w5.cell? ⟨mb,6,none⟩ = some (.int .i64 x0) := ja hm5 6 rfl;have m7 : w5.cell? ⟨mb,7,none⟩ = some (.int .i64 y0) := ja hm5 7 rfl;have z5 := je hm5 5;have z6 := je hm5 6;have z7 := je hm5 7;have hl5 := jb hm5;have HM5 := jH hm5;have HB5 := jH hB5;clear hm5 hB5)
 have hm6 := jg1 HM5.out (.slice (some ⟨W4.heap.size,0,none⟩) ins.length ins.length) (wd : Nat) (dp : Nat)
 have hL6 : Lone mb w5 (((w5.setCell ⟨mb,5,none⟩ (.slice (some ⟨W4.heap.size,0,none⟩) ins.length ins.length)).setCell ⟨mb,6,none⟩ (.int .i64 wd)).setCell ⟨mb,7,none⟩ (.int .i64 dp)) := (((Lone.refl _ _).set _ _).set _ _).set _ _
 generalize (((w5.setCell ⟨mb,5,none⟩ (.slice (some ⟨W4.heap.size,0,none⟩) ins.length ins.length)).setCell ⟨mb,6,none⟩ (.int .i64 wd)).setCell ⟨mb,7,none⟩ (.int .i64 dp)) = W6 at hm6 hL6 ⊢
 have HM6 := jH hm6
 have HL6 := jH hL6
 clear hm6 hL6 m5 m6 m7 z5 z6 z7
 go_wp2
 go_ret
 have s4 := HL4.out.size
 have s5 := HB5.out.size
 have s6 := HL6.out.size
 have up3 : ∀ b,b < w3.heap.size -> b ≠ mb -> W6.heap[b]? = w3.heap[b]? := fun b hb hne => (HL6.out.rest b (by omega) hne).trans ((HB5.out.block b (by omega)).trans (HL4.out.rest b hb hne))
 have up2 : ∀ b,b < w2.heap.size -> b ≠ mb -> b ≠ pb -> W6.heap[b]? = w2.heap[b]? := fun b hb h1 h2 => (up3 b (by omega) h1).trans (HL3.out.rest b hb h2)
 have tC : ∀ b t,κC b = some t -> w1.heap.size <= b /\ b < w2.heap.size := fun b t hb => by
  constructor
  ·rcases Nat.lt_or_ge b w1.heap.size with h1 | h1
   ·rw [HKC.out b h1] at hb;cases hb
   ·exact h1
  ·rcases Nat.lt_or_ge b w2.heap.size with h1 | h1
   ·exact h1
   ·rw [HRM.out.top b h1] at hb;cases hb
 have tD : ∀ b t,κD b = some t -> (b = pb \/ w2.heap.size <= b) /\ b < w3.heap.size := fun b t hb => by
  constructor
  ·by_cases h0 : b = pb
   ·exact .inl h0
   ·rcases Nat.lt_or_ge b w2.heap.size with h1 | h1
    ·rw [HKD.out b h1 h0] at hb;cases hb
    ·exact .inr h1
  ·rcases Nat.lt_or_ge b w3.heap.size with h1 | h1
   ·exact h1
   ·rw [HDM.out.top b h1] at hb;cases hb
 have hR6 := HRM.out.same (w' := W6) (fun b t hb => by have := tC b t hb;exact up2 b (by omega) (by omega) (by omega)) (by omega)
 have hD6 := HDM.out.same (w' := W6) (fun b t hb => by have := tD b t hb;exact up3 b (by omega) (by omega)) (by omega)
 refine ⟨rfl,⟨_,_,_,_,_,_,HM6.out⟩,.inr ⟨_,_,_,_,_,_,_,_,_,_,_,_,two0 hck HF.out.w0 HF.out.d0 HIN.out f3 ((up2 vb (by omega) (by omega) hvp).trans HV2.out) hR6 HC0'.out hD6 HD0.out (fun b hb => HKC.out b (by omega)) (fun b hb h1 => HKD.out b (by omega) h1) (fun b => ?_)⟩,?_,fun b hb h1 h2 h3 => (up2 b (by omega) h3 h2).trans ((HL2.out.rest b (by omega) h1).trans (HB1.out.block b hb))⟩
 ·cases hq : κC b with
  | none => exact .inl rfl
  | some t =>
    have h1 := tC b t hq
    exact .inr (HKD.out b h1.2 (by omega))
 ·exact (HB1.out.mono (Nat.zero_le _)).trans ((HL2.out.below.mono (Nat.zero_le _)).trans ((HL3.out.below.mono (Nat.zero_le _)).trans ((HL4.out.below.mono (Nat.zero_le _)).trans ((HB5.out.mono (Nat.zero_le _)).trans (HL6.out.below.mono (Nat.zero_le _))))))
theorem Below.up {B : Nat} {w w' : World} (h : Below 0 w w') (hb : ∀ b,b < B -> w'.heap[b]? = w.heap[b]?) : Below B w w' := ⟨h.os,h.tape,h.output,h.size,hb⟩
theorem jgs {s sr e0 e1 : ByteArray} {vb pb mb gm L : Nat} {fi f0 : Bool} {vi : Value} {x0 y0 x words depth : Int} {ins : List Int} (hs : s.size <= 1073741824) (hl : Jc w.heap.size w) (hL : L <= 1073741824) (hx : (ins.length : Int) + x = (L : Nat)) (hi : ins.length <= L) (hm : w.heap[mb]? = some (rnO vb pb e0 e1 f0 vi x0 y0)) (hgm : gm < w.heap.size) (hgv : gm ≠ vb) (hgp : gm ≠ pb) (hcell : ∀ j u,(iV ins)[j]? = some u -> w.cell? ⟨gm,j,none⟩ = some u)
 (hin : ∀ z ∈ ins,-9223372036854775808 <= z /\ z <= 9223372036854775807) (hv : w.heap[vb]? = some (vmB none)) (hp : w.heap[pb]? = some (.cells mz 55 (0,0))) (hvp : vb ≠ pb) (hmv : mb ≠ vb) (hmp : mb ≠ pb) :
 Calls Tryz.prog 11 #[.pointer (some ⟨mb,0,none⟩),.agg #[.string s,.string sr,.bool fi],.slice (some ⟨gm,0,none⟩) L L,.int .i64 0,.int .i64 ins.length,.int .i64 x,.int .i64 words,.int .i64 depth] w (StP s vb pb mb w) := by
 obtain ⟨er,at',hR⟩ : ∃ er at',stR s words depth ins.length = (er,at') := ⟨_,_,rfl⟩
 by_cases hne : er = 0
 ·subst hne
  have h := jgw hR
  obtain ⟨wd,rfl⟩ : ∃ wd : Nat,words = (wd : Nat) := ⟨words.toNat,by have := h.w0;omega⟩
  obtain ⟨dp,rfl⟩ : ∃ dp : Nat,depth = (dp : Nat) := ⟨depth.toNat,by have := h.d0;omega⟩
  exact jgq hs hl hL hx hi hm hgm hgv hgp hcell h.ck ⟨by have := h.w0;omega,by have := h.d0;omega,h.n0⟩ hin hv hp hvp hmv hmp
 ·refine (jgr hs hl hL hx hi hm hgm hcell hR hne).mono fun e w' ⟨he,hb⟩ => ⟨he,⟨_,_,_,_,_,_,jc hm hb (jb hm)⟩,.inl ⟨jc hv hb (jb hv),jc hp hb (jb hp)⟩,hb.mono (Nat.zero_le _),fun b hb' _ _ _ => hb.block b hb'⟩
theorem jiL (w : World) : Calls Tryz.prog 7 #[] w fun e w' => e = .returned (.pointer (some ⟨w.heap.size,0,none⟩)) /\ w' = w.alloc (vmB none) := by
 go_enter Tryz.func7,Tryz.ntmps7
 go_wp2
 go_ret
 exact ⟨rfl,rfl⟩
theorem jge {l : List Int} {k : Nat} (hk : k <= l.length) : ∃ ins : List Int,ins.length = k /\ (∀ (j : Nat) u,(iV ins)[j]? = some u -> (iV l)[j]? = some u) /\ ∀ z ∈ ins,z ∈ l := by
 refine ⟨l.take k,by simp;omega,fun j u hj => ?_,fun z hz => List.mem_of_mem_take hz⟩
 unfold iV at hj ⊢
 rw [List.map_take,List.getElem?_take] at hj
 split at hj
 ·exact hj
 ·cases hj
theorem four (w : World) (o1 o2 o3 o4 : Obj) : ((((w.alloc o1).alloc o2).alloc o3).alloc o4).heap.size = w.heap.size + 4 /\ Below w.heap.size w ((((w.alloc o1).alloc o2).alloc o3).alloc o4) /\ ((((w.alloc o1).alloc o2).alloc o3).alloc o4).heap[w.heap.size]? = some o1 /\ ((((w.alloc o1).alloc o2).alloc o3).alloc o4).heap[w.heap.size + 1]? = some o2 /\ ((((w.alloc o1).alloc o2).alloc o3).alloc o4).heap[w.heap.size + 1 + 1]? = some o3 /\ ((((w.alloc o1).alloc o2).alloc o3).alloc o4).heap[w.heap.size + 1 + 1 + 1]? = some o4 := by
 have z1 := World.size_alloc w o1
 have z2 := World.size_alloc (w.alloc o1) o2
 have z3 := World.size_alloc ((w.alloc o1).alloc o2) o3
 have z4 := World.size_alloc (((w.alloc o1).alloc o2).alloc o3) o4
 have h1 := jr w o1
 have h2 := jr (w.alloc o1) o2
 have h3 := jr ((w.alloc o1).alloc o2) o3
 have h4 := jr (((w.alloc o1).alloc o2).alloc o3) o4
 have n1 := jg w o1
 have n2 := jg (w.alloc o1) o2
 have n3 := jg ((w.alloc o1).alloc o2) o3
 have n4 := jg (((w.alloc o1).alloc o2).alloc o3) o4
 generalize (((w.alloc o1).alloc o2).alloc o3).alloc o4 = W4 at *
 generalize ((w.alloc o1).alloc o2).alloc o3 = W3 at *
 generalize (w.alloc o1).alloc o2 = W2 at *
 generalize w.alloc o1 = W1 at *
 rw [z1] at n2
 rw [z2,z1] at n3
 rw [z3,z2,z1] at n4
 exact ⟨by omega,h1.trans ((h2.mono (by omega)).trans ((h3.mono (by omega)).trans (h4.mono (by omega)))),(h4.block _ (by omega)).trans ((h3.block _ (by omega)).trans ((h2.block _ (by omega)).trans n1)),(h4.block _ (by omega)).trans ((h3.block _ (by omega)).trans n2),(h4.block _ (by omega)).trans n3,n4⟩
structure Frs (s : ByteArray) (w w' : World) (l : List Int) (S0 vb pb mb gm : Nat) : Prop where
 bt : Bt s S0 vb pb w'
 sz : S0 <= w'.heap.size
 v0 : w.heap.size <= vb /\ vb < S0
 p0 : w.heap.size <= pb /\ pb < S0
 m0 : w.heap.size <= mb /\ mb < S0
 g0 : w.heap.size <= gm /\ gm < S0
 vp : vb ≠ pb
 mv : mb ≠ vb
 mp : mb ≠ pb
 gv : gm ≠ vb
 gp : gm ≠ pb
 mo : ∃ mo,w'.heap[mb]? = some mo /\ ∀ W : World,W.heap[mb]? = some mo -> W.cell? ⟨mb,0,none⟩ = some (.pointer (some ⟨vb,0,none⟩)) /\ W.cell? ⟨mb,1,none⟩ = some (.pointer (some ⟨pb,0,none⟩))
 gb : w'.heap[gm]? = some (.cells (iV l).toArray 3 (0,0))
 low : Below w.heap.size w w'
theorem alB {B : Nat} {w W : World} (h : Below B w W) (hB : B <= W.heap.size) (o : Obj) : Below B w (W.alloc o) := h.trans ((jr W o).mono hB)
set_option maxRecDepth 100000 in
theorem jj1 {s sr : ByteArray} {fi : Bool} {v : Value} {l : List Int} {n words depth : Int} (hs : s.size <= 1073741824) (hl : Jc w.heap.size w) (hr : IR w v l) (hL : l.length <= 1073741824) (hin : ∀ z ∈ l,-9223372036854775808 <= z /\ z <= 9223372036854775807) (hn : -9223372036854775808 <= n /\ n <= 9223372036854775807) :
 Calls Tryz.prog 4 #[.agg #[.string s,.string sr,.bool fi],v,.int .i64 n,.int .i64 words,.int .i64 depth] w fun e w' => ∃ S0 vb pb mb gm,e = .returned (.tuple #[.pointer (some ⟨mb,0,none⟩),.slice (some ⟨gm,0,none⟩) l.length l.length,.bool true]) /\ Frs s w w' l S0 vb pb mb gm := by
 obtain ⟨a,c,rfl,hc,hno,hce⟩ := id hr
 have HR := jH hr
 have HIN := jH hin
 have HLF := jH hl
 have MN := jH jiL
 have NV := jH jij
 have hA1 := jr w (.cells #[.string s,.string sr,.bool fi] 27 (0,0))
 have hc1 : (w.alloc (.cells #[.string s,.string sr,.bool fi] 27 (0,0))).heap[w.heap.size]? = _ := jg w _
 have HA1 := jH hA1
 have HC1 := jH hc1
 clear hr hin hl hno hce hA1 hc1
 go_enter Tryz.func4,Tryz.ntmps4
 go_upto_region 4 with (first
  | (go_at_call 7;refine (MN.out _).mono ?_;rintro _ w1 ⟨rfl,rfl⟩)
  | (go_at_call 8;refine (NV.out _).mono ?_;rintro _ w2 ⟨rfl,rfl⟩))
 obtain ⟨hz4,hB4,hc4,hv4,hp4,hm4⟩ := four w (.cells #[.string s,.string sr,.bool fi] 27 (0,0)) (vmB none) (.cells mz 55 (0,0)) (.cells #[.pointer (some ⟨w.heap.size + 1,0,none⟩),.pointer (some ⟨w.heap.size + 1 + 1,0,none⟩),.string ⟨#[]⟩,.string ⟨#[]⟩,.bool false,.slice none 0 0,.int .i64 0,.int .i64 0] 40 (0,0))
 generalize ((((w.alloc (.cells #[.string s,.string sr,.bool fi] 27 (0,0))).alloc (vmB none)).alloc (.cells mz 55 (0,0))).alloc (.cells #[.pointer (some ⟨w.heap.size + 1,0,none⟩),.pointer (some ⟨w.heap.size + 1 + 1,0,none⟩),.string ⟨#[]⟩,.string ⟨#[]⟩,.bool false,.slice none 0 0,.int .i64 0,.int .i64 0] 40 (0,0))) = W4 at hz4 hB4 hc4 hv4 hp4 hm4 ⊢
 have hr4 : IR W4 (.slice a l.length c) l := HR.out.on fun p u hpu => by
  have hb : p.block < w.heap.size := by
   rcases Nat.lt_or_ge p.block w.heap.size with h2 | h2
   ·exact h2
   ·unfold World.cell? at hpu
    rw [Array.getElem?_eq_none (by omega)] at hpu
    cases hpu
  exact (hB4.cell hb).trans hpu
 have CI4 := jH (jcA hr4 hL)
 have HB4 := jH hB4
 have HC4 := jH hc4
 have HV4 := jH hv4
 have HP4 := jH hp4
 have HM4 := jH hm4
 have PK : Hid (∀ W : World,Calls Tryz.prog 10 #[.int .i64 n,.int .i64 ((l.length : Int) + 1)] W fun e w' => ∃ k : Nat,k < l.length + 1 /\ e = .returned (.int .i64 k) /\ w' = W) := fun W => by
  have := jh3 hn (n := l.length + 1) (by omega) (by omega) W
  rw [show ((l.length + 1 : Nat) : Int) = (l.length : Int) + 1 by omega] at this
  exact this
 clear hB4 hc4 hv4 hp4 hm4 hr4
 go_upto_region 6 with (first
  | (go_at_call 9;refine CI4.out.mono ?_;rintro _ w5 ⟨rfl,hg5,hB5⟩;have HG5 := jH hg5;have HB5 := jH hB5;clear hg5 hB5)
  | (go_at_call 10;refine (PK.out _).mono ?_;rintro _ w6 ⟨k,hk,rfl,hw6⟩;have hw6 := hw6.symm;subst hw6))
 obtain ⟨ins,hki,hci,hmi⟩ := jge (l := l) (k := k) (by omega)
 subst hki
 have hs5 := HB5.out.size
 have hc5 := jc HC4.out HB5.out (by omega)
 have p0 : w5.cell? ⟨w.heap.size,0,none⟩ = some (.string s) := ja hc5 0 rfl
 have p1 : w5.cell? ⟨w.heap.size,1,none⟩ = some (.string sr) := ja hc5 1 rfl
 have p2 : w5.cell? ⟨w.heap.size,2,none⟩ = some (.bool fi) := ja hc5 2 rfl
 have hB05 : Below w.heap.size w w5 := HB4.out.trans (HB5.out.mono HB4.out.size)
 have hg5 := HG5.out
 rw [hz4] at hg5
 have HG5 := jH hg5
 have hgl := jb HG5.out
 clear hg5
 have CST : Hid (∀ x : Int,(ins.length : Int) + x = (l.length : Nat) -> Calls Tryz.prog 11 #[.pointer (some ⟨w.heap.size + 1 + 1 + 1,0,none⟩),.agg #[.string s,.string sr,.bool fi],.slice (some ⟨w.heap.size + 4,0,none⟩) l.length l.length,.int .i64 0,.int .i64 ins.length,.int .i64 x,.int .i64 words,.int .i64 depth] w5 (StP s (w.heap.size + 1) (w.heap.size + 1 + 1) (w.heap.size + 1 + 1 + 1) w5)) := fun x hx =>
  jgs hs ((HLF.out.on hB05).less hB05.size) hL hx (by omega) (jc HM4.out HB5.out (by omega)) hgl (by omega) (by omega) (fun j u hj => ja HG5.out j (by simpa using hci j u hj)) (fun z hz => HIN.out z (hmi z hz)) (jc HV4.out HB5.out (by omega)) (jc HP4.out HB5.out (by omega)) (by omega) (by omega) (by omega)
 have HB05 := jH hB05
 clear hc5 hB05 hci hmi
 go_wp2_with (go_at_call 11;refine (CST.out _ ?_).mono ?_;(omega);rintro _ w7 ⟨rfl,hmo,hbt,hlo,hre⟩;have HMO := jH hmo;have HBT := jH hbt;have HLO := jH hlo;have HRE := jH hre;clear hmo hbt hlo hre)
 go_returns
 have s7 := HLO.out.size
 obtain ⟨a1,a2,a3,a4,a5,a6,hmo⟩ := HMO.out
 refine ⟨w5.heap.size,w.heap.size + 1,w.heap.size + 1 + 1,w.heap.size + 1 + 1 + 1,w.heap.size + 4,rfl,⟨HBT.out,s7,by omega,by omega,by omega,by omega,by omega,by omega,by omega,by omega,by omega,⟨_,hmo,fun W hW => ⟨ja hW 0 rfl,ja hW 1 rfl⟩⟩,(HRE.out _ hgl (by omega) (by omega) (by omega)).trans HG5.out,?_⟩⟩
 have h1 := Below.up (B := w.heap.size) HLO.out fun b hb => HRE.out b (by omega) (by omega) (by omega) (by omega)
 exact HB05.out.trans h1
theorem Ou.ir {S0 vb pb B : Nat} {w w' W : World} {v : Value} {l : List Int} (h : IR w v l) (hb : ∀ b,b < w.heap.size -> W.heap[b]? = w.heap[b]?) : IR W v l := h.on fun p u hpu => by
 have hb' : p.block < w.heap.size := by
  rcases Nat.lt_or_ge p.block w.heap.size with h2 | h2
  ·exact h2
  ·unfold World.cell? at hpu
   rw [Array.getElem?_eq_none (by omega)] at hpu
   cases hpu
 unfold World.cell? at hpu ⊢
 rw [hb p.block hb']
 exact hpu
theorem jfd {w w' : World} {l : List Int} {S0 vb pb mb gm : Nat} (h : Frs s w w' l S0 vb pb mb gm) (n : Int) : Calls Tryz.prog 5 #[.pointer (some ⟨mb,0,none⟩),.int .i64 n] w' fun e w2 => ∃ rv,e = .returned (.tuple #[rv,.bool true]) /\ Frs s w w2 l S0 vb pb mb gm := by
 obtain ⟨mo,hmo,hm0⟩ := h.mo
 have v0 := h.v0
 have p0 := h.p0
 have m0 := h.m0
 have g0 := h.g0
 refine (jjZ h.bt h.sz v0.2 p0.2 h.vp m0.2 h.mv h.mp hmo hm0 n).mono fun e w2 ⟨rv,he,hb,ho⟩ => ⟨rv,he,?_⟩
 have hz := ho.low.size
 have hz0 := h.sz
 exact ⟨hb,by omega,h.v0,h.p0,h.m0,h.g0,h.vp,h.mv,h.mp,h.gv,h.gp,⟨mo,(ho.rest mb m0.2 h.mv h.mp).trans hmo,hm0⟩,(ho.rest gm g0.2 h.gv h.gp).trans h.gb,h.low.trans (Below.up ho.low fun b hb => ho.rest b (by omega) (by omega) (by omega))⟩
set_option maxRecDepth 100000 in
theorem jfw {v : Value} {l : List Int} {n words depth x y : Int} (hl : Jc w.heap.size w) (hr : IR w v l) (hin : ∀ z ∈ l,-9223372036854775808 <= z /\ z <= 9223372036854775807) (hn : -9223372036854775808 <= n /\ n <= 9223372036854775807) :
 Calls Tryz.prog 3 #[.string s,v,.int .i64 n,.int .i64 words,.int .i64 depth,.int .i64 x,.int .i64 y] w fun e w' => e = .returned (.bool true) /\ Below w.heap.size w w' := by
 obtain ⟨a,c,rfl,hc,hno,hce⟩ := id hr
 by_cases h1 : 1073741824 < s.size
 ·have g1 : decide ((1073741824 : Int) < (s.size : Int)) = true := by simp;omega
  have g1' : (1073741824 : Int) < (s.size : Int) := by omega
  clear hr hno hce
  go_enter Tryz.func3,Tryz.ntmps3
  go_wp2
  go_ret
  exact ⟨rfl,jB⟩
 ·have g1 : decide ((1073741824 : Int) < (s.size : Int)) = false := by simp;omega
  have g1' : ¬ (1073741824 : Int) < (s.size : Int) := by omega
  by_cases h2 : 1073741824 < l.length
  ·have g2 : decide ((1073741824 : Int) < (l.length : Int)) = true := by simp;omega
   have g2' : (1073741824 : Int) < (l.length : Int) := by omega
   clear hr hno hce
   go_enter Tryz.func3,Tryz.ntmps3
   go_wp2
   go_ret
   exact ⟨rfl,jB⟩
  ·have g2 : decide ((1073741824 : Int) < (l.length : Int)) = false := by simp;omega
   have g2' : ¬ (1073741824 : Int) < (l.length : Int) := by omega
   have HR := jH hr
   have HFR : Hid (∀ sr fi,Calls Tryz.prog 4 #[.agg #[.string s,.string sr,.bool fi],.slice a l.length c,.int .i64 n,.int .i64 words,.int .i64 depth] w fun e w' => ∃ S0 vb pb mb gm,e = .returned (.tuple #[.pointer (some ⟨mb,0,none⟩),.slice (some ⟨gm,0,none⟩) l.length l.length,.bool true]) /\ Frs s w w' l S0 vb pb mb gm) := fun sr fi => jj1 (by omega) hl hr (by omega) hin hn
   have HL : l.length <= 1073741824 := by omega
   clear hr hno hce hin hl h1 h2
   go_enter Tryz.func3,Tryz.ntmps3
   go_upto_region 6 with (go_at_call 4;refine (HFR.out _ _).mono ?_;rintro _ w1 ⟨S0,vb,pb,mb,gm,rfl,h1⟩;have H1 := jH h1;have G1 := jH (jfd h1 x);clear h1)
   go_upto_region 9 with (go_at_call 5;refine G1.out.mono ?_;rintro _ w2 ⟨rv,rfl,h2⟩;have G2 := jH (jfd h2 y);clear h2)
   go_upto_region 10 with (go_at_call 5;refine G2.out.mono ?_;rintro _ w3 ⟨rv2,rfl,h3⟩;have H3 := jH h3;clear h3)
   have HS := jH (jd7 (w := w3) (v := .slice (some ⟨gm,0,none⟩) l.length l.length) (v' := .slice a l.length c) (l := l) ⟨_,l.length,rfl,jN,fun e => (by cases e),fun ad e j u hj => (by cases e;rw [add0];exact ja H3.out.gb j (by simpa using hj))⟩ (Ou.ir (S0 := 0) (vb := 0) (pb := 0) (B := 0) (w' := w) HR.out fun b hb => H3.out.low.block b hb) HL)
   go_wp2_with (go_at_call 6;refine HS.out.mono ?_;rintro _ w4 ⟨rfl,_,hB4⟩)
   go_ret
   exact ⟨rfl,H3.out.low.trans (hB4.mono H3.out.low.size)⟩
end Ko
end Go.Proofs.YtjmgolahkgalbaaGreatDoor
namespace Go.Proofs.YtjmgolahkgalbaaGreatDoor
open Ko Go.ChangeShapes Go.WideShapes Go.ChangeAt Go.WideMaps Go.WideElems Go.ChangeMaps Go.RowKit Li
variable {w : World}
theorem own : ownKnob Tryz.prog.godebug = none := by kernel_rfl
theorem gN : Tryz.prog.globalNamed "slim/check.fields" = some 0 := by kernel_rfl
theorem tN : (Tryz.prog.globals[0]?).map (·.type) = some 154 := by kernel_rfl
theorem uN : Tryz.prog.underlying 154 = some (.array 34 9) := by kernel_rfl
theorem cS : Tryz.prog.cellsOf 9 = 1 := by kernel_rfl
def jdt : List (List UInt8) := (List.range 34).map fld
theorem jj8 {i : Nat} (h : i < 34) : jdt[i]? = some (fld i) := by simp [jdt,h]
theorem jju : (Rows.laid_slim_check_fields : DataW Unit) = .agg (jdt.map fun l => .lit (.string l)) := rfl
theorem jlV {H : Type} {enc : TypeId × Value -> H} {P : Program} {base : Nat} {sp : Nat -> Bool} {held : Bool} {fuel : Nat} {t e : TypeId} {n : Nat} {cs : List Value} {ls : List (List UInt8)} {p : List MemPlace}
 (ht : P.underlying t = some (.array n e)) (he : P.underlying e = some .string) (hce : P.cellsOf e = 1) (h : DataW.trod enc P w base sp held fuel t cs = some (.agg (ls.map fun l => .lit (.string l)),p)) :
 ∀ i l,i < n -> ls[i]? = some l -> cs[i]? = some (.string ⟨l.toArray⟩) := by
 intro i l hi hl
 obtain ⟨xs,m,_,hx,_,hxl,hel⟩ := DataW.trod_array ht h
 have hx1 : ls.map (fun l => (DataW.lit (.string l) : DataW H)) = xs.map (·.1) := by
  have := congrArg Prod.fst hx
  simpa using this
 have h1 := hel i hi
 rw [hce,Nat.mul_one,List.getElem?_eq_getElem (by omega)] at h1
 obtain ⟨s,hs1,hs2,_⟩ := DataW.trod_string he h1
 have h2 : cs[i]? = some (.string s) := by
  have := congrArg (·[0]?) hs1
  simpa [List.getElem?_take,List.getElem?_drop] using this
 have h3 : (ls.map (fun l => (DataW.lit (.string l) : DataW H)))[i]? = some (.lit (.string l)) := by simp [hl]
 rw [hx1,List.getElem?_map,List.getElem?_eq_getElem (by omega),hs2] at h3
 simp only [Option.map_some,Option.some.injEq,DataW.lit.injEq,Lit.string.injEq] at h3
 rw [h2,<- h3]
theorem jic {W : World} (h : laidMetH Tryz.prog Rows.codesRow.laid W) : Jc W.heap.size W := by
 rw [MakeChecks.laidMetH_plain _ _ _ (by kernel_rfl)] at h
 obtain ⟨ps,⟨g3,t3,cs3,f3,p3,q3,hg3,ht3,hv3,hd3,_,_⟩,_⟩ := h
 obtain rfl := Option.some.inj (gN.symm.trans hg3)
 obtain rfl := Option.some.inj (tN.symm.trans ht3)
 rw [jju] at hd3
 have hc : ∀ i,i < 34 -> W.cell? ⟨0,i,none⟩ = some (.string ⟨(fld i).toArray⟩) := fun i hi => by
  have h1 := World.var?_cell hg3 hv3 i
  have h2 := jlV uN Tryz.underlying9 cS hd3 i (fld i) hi (jj8 hi)
  rw [h1]
  simpa using h2
 have h0 : 0 < W.heap.size := by
  have := hc 0 (by omega)
  unfold World.cell? at this
  rcases Nat.lt_or_ge 0 W.heap.size with hz | hz
  ·exact hz
  ·rw [Array.getElem?_eq_none (by show W.heap.size <= 0;omega)] at this;cases this
 intro w' hb i hi
 exact (hb.cell (p := ⟨0,i,none⟩) h0).trans (hc i hi)
theorem jkT (os : Os) (args : Array Value) : laidMetH Tryz.prog Rows.codesRow.laid ((World.doorLaid Tryz.prog 14 os).forCall (fun _ _ => 0) ⟨#[],args,[]⟩).memory :=
 laidMetH_of_parts3 (fuel := 8) (laidMet_of_run' 8 (by kernel_rfl) (by kernel_rfl)) (by kernel_rfl) (by kernel_rfl)
theorem wf_i64 {n : Int} (h : (Lit.int .i64 n).wf = true) : -9223372036854775808 <= n /\ n <= 9223372036854775807 := by
 simp [Lit.wf,IntKind.min,IntKind.max,IntKind.signed,IntKind.bits] at h
 omega
theorem jjC {W : World} {a : Addr} {len cap : Nat} {zs : List Int} (hl : len <= cap) (hz : zs.length = cap) (hc : ∀ i,i < zs.length -> W.cell? (a.add i) = some (.int .i64 (zs.getD i 0))) : IR W (.slice (some a) len cap) (zs.take len) := by
 have hlen : (zs.take len).length = len := by simp;omega
 refine ⟨some a,cap,by rw [hlen],by omega,fun e => (by cases e),fun ad e j u hj => ?_⟩
 cases e
 unfold iV at hj
 rw [List.getElem?_map,List.getElem?_take] at hj
 split at hj
 ·rename_i hj1
  have hj2 : j < zs.length := by omega
  rw [hc j hj2]
  rw [List.getElem?_eq_getElem hj2] at hj
  simp only [Option.map_some,Option.some.injEq] at hj
  rw [<- hj,List.getD_eq_getElem?_getD,List.getElem?_eq_getElem hj2]
  rfl
 ·cases hj
theorem jfC {p : Addr} {u : Value} (h : w.cell? p = some u) : p.block < w.heap.size := by
 rcases Nat.lt_or_ge p.block w.heap.size with h2 | h2
 ·exact h2
 ·unfold World.cell? at h
  rw [Array.getElem?_eq_none (by omega)] at h
  cases h
theorem jgx {W : World} {a : Addr} {len cap : Nat} {zs : List Int} (hl : len <= cap) (hz : zs.length = cap) (hc : ∀ i,i < zs.length -> W.cell? (a.add i) = some (.int .i64 (zs.getD i 0))) : zs.length = (if decide (a.block < W.heap.size) then cap else len) := by
 rcases Nat.eq_zero_or_pos cap with h0 | h0
 ·split <;> omega
 ·have h1 : a.block < W.heap.size := jfC (hc 0 (by omega))
  rw [if_pos (by simpa using h1)]
  exact hz
set_option maxRecDepth 100000 in
theorem lifted (os : Os) (started : os.Started) (H : Type) (enc : TypeId × Value -> H) :
 ReturnsInHanded {} Tryz.checked os 3 .any (fun w args => (Rows.codesSpec.pre enc Tryz.prog Tryz.f3 [] false w args /\ laidMetH Tryz.prog Rows.codesRow.laid w) /\ sizedMet enc Tryz.prog Tryz.f3 (OpenSpec.ofChange Rows.codesSpec) false w args)
  (Rows.codesSpec.post enc Tryz.prog Tryz.f3 false true false false) := by
 refine returnsInHanded_of_change_and (C := Tryz.checked) (X := fun w _ => laidMetH Tryz.prog Rows.codesRow.laid w) (fun _ _ _ hh h => h.of_heap hh) own started (by kernel_rfl) Tryz.func3
  (ChangeSpec.witness_shaped (enc := enc) (C := Tryz.checked) (os := os) (X := fun w _ => laidMetH Tryz.prog Rows.codesRow.laid w) false (World.doorLaid Tryz.prog 14 os) #[.string ⟨#[]⟩,.slice none 0 0,.int .i64 0,.int .i64 0,.int .i64 0,.int .i64 0,.int .i64 0] 8 rfl (World.shaped_of_RefB (by kernel_rfl) (by kernel_rfl)) (by kernel_rfl) (by kernel_rfl) (by kernel_rfl) (jkT os _)) ?_
 intro W base args ds gs before hval0 hW _ _ hL _
 have hval : ∀ (j : Nat) t v,Tryz.f3.params[j]? = some t -> args[j]? = some v -> Value.okWide Tryz.prog W .any base t v := hval0
 have hW' := hW
 obtain ⟨p,q,hA0,hV,rfl,hfz,hnd⟩ := hW
 have hA : DataW.TrodAll enc Tryz.prog W 0 (fun _ => true) true Tryz.f3.params.toList args.toList ds p := hA0
 rw [Tryz.params3] at hA hval
 obtain ⟨rfl,rfl⟩ := trodVars_none hV
 obtain ⟨v0,r0,d0,e0,p0,q0,ha,rfl,rfl,h0,hA⟩ := trodAll_cons hA
 obtain ⟨v1,r1,d1,e1,p1,q1,rfl,rfl,rfl,h1,hA⟩ := trodAll_cons hA
 obtain ⟨v2,r2,d2,e2,p2,q2,rfl,rfl,rfl,h2,hA⟩ := trodAll_cons hA
 obtain ⟨v3,r3,d3,e3,p3,q3,rfl,rfl,rfl,h3,hA⟩ := trodAll_cons hA
 obtain ⟨v4,r4,d4,e4,p4,q4,rfl,rfl,rfl,h4,hA⟩ := trodAll_cons hA
 obtain ⟨v5,r5,d5,e5,p5,q5,rfl,rfl,rfl,h5,hA⟩ := trodAll_cons hA
 obtain ⟨v6,r6,d6,e6,p6,q6,rfl,rfl,rfl,h6,hA⟩ := trodAll_cons hA
 obtain ⟨rfl,rfl,rfl⟩ := trodAll_nil hA
 obtain rfl : args = #[v0,v1,v2,v3,v4,v5,v6] := Array.toList_inj.1 ha
 obtain ⟨s,rfl,rfl,rfl,ws⟩ := open_string Tryz.underlying9 (hval 0 9 v0 rfl rfl) h0
 obtain ⟨n,rfl,rfl,rfl,w2⟩ := open_int Tryz.underlying3 (hval 2 3 v2 rfl rfl) h2
 obtain ⟨words,rfl,rfl,rfl,w3⟩ := open_int Tryz.underlying3 (hval 3 3 v3 rfl rfl) h3
 obtain ⟨depth,rfl,rfl,rfl,w4⟩ := open_int Tryz.underlying3 (hval 4 3 v4 rfl rfl) h4
 obtain ⟨x,rfl,rfl,rfl,w5⟩ := open_int Tryz.underlying3 (hval 5 3 v5 rfl rfl) h5
 obtain ⟨y,rfl,rfl,rfl,w6⟩ := open_int Tryz.underlying3 (hval 6 3 v6 rfl rfl) h6
 have hl := jic hL
 clear hA0 hval0
 simp only [List.append_nil,List.nil_append] at hW'
 obtain ⟨fu,hf⟩ := h1
 have hu : Tryz.prog.underlying 22 = some (.slice 3) := by kernel_rfl
 have hce : Tryz.prog.cellsOf 3 = 1 := by kernel_rfl
 obtain ⟨a1,n1,c1,rfl⟩ := okWide_slice hu (hval 1 22 v1 rfl rfl)
 rcases open_ints hu Tryz.underlying3 hce hf with ⟨hcs,hx⟩ | ⟨a,len,cap,zs,hcs,hba,hle,hmx,hzl,hx,hcell,hwf⟩
 ·simp only [Value.cells,List.cons.injEq,Value.slice.injEq,and_true] at hcs
  obtain ⟨rfl,rfl,rfl⟩ := hcs
  obtain ⟨rfl,rfl⟩ := Prod.mk.inj hx
  refine (jfw hl (jck W) (fun z hz => by cases hz) (wf_i64 w2)).mono fun e W' ⟨he,hb⟩ => ?_
  subst he
  have e1 : Rows.codesSpec.fn H ([.lit (.string s.data.toList),.nil,.lit (.int .i64 n),.lit (.int .i64 words),.lit (.int .i64 depth),.lit (.int .i64 x),.lit (.int .i64 y)] ++ []) = { results := [.lit (.bool true)],args := [.lit (.string s.data.toList),.nil,.lit (.int .i64 n),.lit (.int .i64 words),.lit (.int .i64 depth),.lit (.int .i64 x),.lit (.int .i64 y)] } := by simp [Rows.codesSpec]
  refine ⟨_,rfl,_,_,_,[],[],[],hW',?_,?_,?_,hb.frame _,fun h => by cases h⟩
  ·rw [e1];exact trodAll_mk1 (shut_bool Tryz.underlying4 true)
  ·rw [e1]
   have h1' : DataW.Trod enc Tryz.prog W' 0 (fun b => decide (b < W.heap.size)) true 22 (.slice none 0 0) (.nil) [] := shut_slice_nil hu
   have := trodAll_cons_mk (shut_string Tryz.underlying9 ws) (trodAll_cons_mk h1' (trodAll_cons_mk (shut_int Tryz.underlying3 w2) (trodAll_cons_mk (shut_int Tryz.underlying3 w3) (trodAll_cons_mk (shut_int Tryz.underlying3 w4) (trodAll_mk2 (shut_int Tryz.underlying3 w5) (shut_int Tryz.underlying3 w6))))))
   simp only [List.nil_append,List.append_nil] at this
   exact this
  ·rw [e1];rfl
 ·simp only [Value.cells,List.cons.injEq,Value.slice.injEq,and_true] at hcs
  obtain ⟨rfl,rfl,rfl⟩ := hcs
  obtain ⟨rfl,rfl⟩ := Prod.mk.inj hx
  simp only [if_true] at hzl
  refine (jfw hl (jjC hle hzl hcell) (fun z hz => wf_i64 (hwf z (List.mem_of_mem_take hz))) (wf_i64 w2)).mono fun e W' ⟨he,hb⟩ => ?_
  subst he
  have e1 : Rows.codesSpec.fn H ([.lit (.string s.data.toList),.slice (lits .i64 (zs.take n1)) (lits .i64 (zs.drop n1)),.lit (.int .i64 n),.lit (.int .i64 words),.lit (.int .i64 depth),.lit (.int .i64 x),.lit (.int .i64 y)] ++ []) = { results := [.lit (.bool true)],args := [.lit (.string s.data.toList),.slice (lits .i64 (zs.take n1)) (lits .i64 (zs.drop n1)),.lit (.int .i64 n),.lit (.int .i64 words),.lit (.int .i64 depth),.lit (.int .i64 x),.lit (.int .i64 y)] } := by simp [Rows.codesSpec]
  refine ⟨_,rfl,_,_,_,[],(MemPlace.row a zs.length),[],hW',?_,?_,?_,hb.frame _,fun h => by cases h⟩
  ·rw [e1];exact trodAll_mk1 (shut_bool Tryz.underlying4 true)
  ·rw [e1]
   have h1' : DataW.Trod enc Tryz.prog W' 0 (fun b => decide (b < W.heap.size)) true 22 (.slice (some a) n1 c1) (.slice (lits .i64 (zs.take n1)) (lits .i64 (zs.drop n1))) (MemPlace.row a zs.length) := ⟨2,shut_ints 0 hu Tryz.underlying3 hce (Nat.zero_le _) hle hmx (jgx hle hzl hcell) (fun i hi => (hb.cell (jfC (hcell i hi))).trans (hcell i hi)) hwf⟩
   have := trodAll_cons_mk (shut_string Tryz.underlying9 ws) (trodAll_cons_mk h1' (trodAll_cons_mk (shut_int Tryz.underlying3 w2) (trodAll_cons_mk (shut_int Tryz.underlying3 w3) (trodAll_cons_mk (shut_int Tryz.underlying3 w4) (trodAll_mk2 (shut_int Tryz.underlying3 w5) (shut_int Tryz.underlying3 w6))))))
   simp only [List.nil_append,List.append_nil] at this
   exact this
  ·rw [e1];rfl
end Go.Proofs.YtjmgolahkgalbaaGreatDoor
namespace Go.Proofs.YtjmgolahkgalbaaGreatDoor
open Go
theorem codes_holds : Rows.CodesSaid :=
 OpenClaim.holds_of_wide 3 Tryz.f3 rfl rfl rfl rfl rfl rfl rfl ⟨rfl,rfl,rfl,rfl,rfl⟩ rfl rfl rfl rfl rfl (by as_aux_lemma => kernel_rfl) Tryz.func3 jlG
  (of_decide_eq_true (by as_aux_lemma => kernel_rfl)) (by unfold Func.isWrapper;first | (rw [if_pos (by decide +kernel)];kernel_rfl) | (rw [if_neg (by decide +kernel)];exact ⟨rfl,rfl⟩))
  (fun os started H enc _ => lifted os started H enc)
theorem codes_card : Rows.CodesCardSaid :=
 Claim7.holds_tied_plain_at .later [] [.data] true Rows.codesCard.stood.harness false
  codes_holds (fun _ h => by cases h) (by as_aux_lemma => kernel_rfl) (fun _ h => by cases h) codes_row_tie rfl ⟨rfl,rfl⟩ (by as_aux_lemma => kernel_rfl) rfl
  (fun f fn hf hfn => by
   obtain rfl : f = 3 := Option.some.inj ((show Tryz.prog.funcNamed "slim/slimlaw.Codes" = some 3 by as_aux_lemma => kernel_rfl).symm.trans hf) |>.symm
   obtain rfl : fn = Tryz.f3 := (Option.some.inj (Tryz.func3.symm.trans hfn)).symm
   exact ⟨by as_aux_lemma => kernel_rfl,fun j t ht => by
    rw [Tryz.params3] at ht
    have hm : t ∈ [9,22,3] := by simpa using Array.mem_of_getElem? ht
    have hall : ([9,22,3].all fun u => !Tryz.prog.wantsStandIn u) = true := by as_aux_lemma => kernel_rfl
    exact (show Tryz.prog.wantsStandIn t = false by simpa using List.all_eq_true.1 hall t hm)⟩)
  (by as_aux_lemma => kernel_rfl)
#print axioms codes_card
end Go.Proofs.YtjmgolahkgalbaaGreatDoor
