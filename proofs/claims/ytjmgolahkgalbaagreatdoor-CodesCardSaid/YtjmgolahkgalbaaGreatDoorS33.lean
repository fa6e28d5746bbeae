import Derived.Test.YtjmgolahkgalbaaGreatDoorS17
import Derived.Test.YtjmgolahkgalbaaGreatDoorS31
import Derived.Test.YtjmgolahkgalbaaGreatDoorS32
import Derived.Deep.LoopGhost
set_option linter.unusedVariables false
set_option linter.unusedSimpArgs false
set_option maxHeartbeats 20000000
namespace Go.Proofs.YtjmgolahkgalbaaGreatDoor
open Go.RowKit Li
variable {s : ByteArray} {w : World}
set_option maxRecDepth 100000 in
theorem jjz {slots pc end' F N L cF' cN' cL' : Nat} {aF aN aL : Option Addr} {op : Nat} {q1 q2 q3 q4 : Int} (hop : op < 34) (hpe : pc + 1 = end') (he : end' < 65537) (hov : jx op = false)
 (CL : Hid (∀ o : Obj,Calls Tryz.prog 50 #[.agg #[.slice aF F cF',.slice aN N cN',.slice aL L cL'],.int .i64 pc] (w.alloc o) fun e w' => e = .returned (.agg #[.int .i64 op,.int .i64 q1,.int .i64 q2,.int .i64 q3,.int .i64 q4]) /\ Below (w.alloc o).heap.size (w.alloc o) w')) :
 Calls Tryz.prog 68 #[.agg #[.slice aF F cF',.slice aN N cN',.slice aL L cL',.int .i64 slots,.int .i64 pc,.int .i64 end']] w fun e w' => e = .returned (.bool false) /\ Below w.heap.size w w' := by
 have CG : Hid (∀ W : World,Calls Tryz.prog 91 #[.int .i64 op] W fun e w' => e = .returned (.bool true) /\ w' = W) := fun W => by have := jcq (op := op) (w := W);rw [hov] at this;exact this
 have g2 : decide ((34 : Int) <= (op : Int)) = false := by simp;omega
 have g3 : decide ((op : Int) < 0) = false := by simp
 have g1 : ((pc : Int) == (end' : Int) - 1) = true := by simp;omega
 clear hov hpe
 go_enter Tryz.func68,Tryz.ntmps68
 go_wp2_with (first
  | (go_at_call 50;refine (CL.out _).mono ?_;rintro _ w1 ⟨rfl,hb1⟩;have hs1 := Nat.le_trans (by rw [World.size_alloc];omega : w.heap.size + 1 <= (w.alloc _).heap.size) hb1.size;have hbox := jc (jg w _) hb1 (by rw [World.size_alloc];omega);have k2 : ∀ o : Obj,(w1.alloc o).cell? ⟨w.heap.size,4,none⟩ = some (.int .i64 pc) := jT hbox 4 rfl;have k3 : ∀ o : Obj,(w1.alloc o).cell? ⟨w.heap.size,5,none⟩ = some (.int .i64 end') := jT hbox 5 rfl;have HB1 : Hid (∀ o : Obj,Below w.heap.size w (w1.alloc o)) := (fun o => ((jB.alloc jN _).trans (hb1.mono (by rw [World.size_alloc];omega))).alloc (by omega) _))
  | (go_at_call 91;refine (CG.out _).mono ?_;rintro _ w3 ⟨rfl,hw3⟩;have hw4 := hw3.symm;subst hw4))
 go_ret
 exact ⟨rfl,HB1.out _⟩
theorem jjB {B k pc : Nat} {aF aN aL : Option Addr} {nF cFc nN cNc nL cLc : Nat} {R : Bool} (hcd : jU s w B (.slice aF nF cFc) (.slice aN nN cNc) (.slice aL nL cLc)) (hpc : pc < hL s) (hpe : pc < en s k) (he : en s k < 65537) (hl : Jc w.heap.size w) (hR : wlL s k pc = R) :
 Calls Tryz.prog 68 #[.agg #[.slice aF nF cFc,.slice aN nN cNc,.slice aL nL cLc,.int .i64 (r3 s k),.int .i64 pc,.int .i64 (en s k)]] w fun e w' => e = .returned (.bool R) /\ Below w.heap.size w w' := by
 by_cases h1 : l0 s pc = 0 \/ 34 <= l0 s pc
 ·have hf : R = false := by
   rw [<- hR]
   unfold wlL wlB
   rcases h1 with h1 | h1
   ·rw [h1];rfl
   ·rw [decide_eq_false (show ¬ l0 s pc < 34 by omega)];simp
  rw [hf]
  exact jjy hcd hpc hpe he hl h1
 ·have h2 : 1 <= l0 s pc := by omega
  have h3 : l0 s pc < 34 := by omega
  obtain ⟨a1,c1,e1⟩ := j5 hcd.funs
  obtain ⟨a2,c2,e2⟩ := j5 hcd.nums
  injection e1 with q1 hnF q2
  injection e2 with q3 hnN q4
  have CL : Hid (∀ o : Obj,Calls Tryz.prog 50 #[.agg #[.slice aF nF cFc,.slice aN nN cNc,.slice aL nL cLc],.int .i64 pc] (w.alloc o) fun e w' => e = .returned (.agg #[.int .i64 (l0 s pc),.int .i64 (l1 s pc),.int .i64 (l2 s pc),.int .i64 (l3 s pc),.int .i64 (l4 s pc)]) /\ Below (w.alloc o).heap.size (w.alloc o) w') := fun o => jdi hcd hpc _ (jB.alloc jN _)
  obtain ⟨b0,b1,b2,b3,hfl,t0,t1,t2,t3⟩ := jj7 ⟨l0 s pc,h3⟩ h2
  have HLF : Hid (∀ w',Below w.heap.size w w' -> w'.cell? ⟨0,l0 s pc,none⟩ = some (.string ⟨#[b0,b1,b2,b3]⟩)) := fun w' h' => by
   have := hl w' h' (l0 s pc) h3
   rw [show fld (l0 s pc) = [b0,b1,b2,b3] from hfl] at this
   exact this
  subst hnF hnN
  by_cases hlast : pc + 1 = en s k /\ jx (l0 s pc) = false
  ·have hf : R = false := by
    rw [<- hR]
    unfold wlL wlB
    rw [hlast.2,decide_eq_false (show ¬ pc + 1 < en s k by omega)];simp
   rw [hf]
   exact jjz h3 hlast.1 he hlast.2 CL
  ·have hnl : pc + 1 = en s k -> jx (l0 s pc) = true := fun h => by
    cases ho : jx (l0 s pc) with
    | true => rfl
    | false => exact absurd ⟨h,ho⟩ hlast
   have hRR : R = (jo (hF s) (hN s) (l1 s pc) (ruN (l0 s pc) 0) pc (r3 s k) (en s k) && (jo (hF s) (hN s) (l2 s pc) (ruN (l0 s pc) 1) pc (r3 s k) (en s k) && (jo (hF s) (hN s) (l3 s pc) (ruN (l0 s pc) 2) pc (r3 s k) (en s k) && jo (hF s) (hN s) (l4 s pc) (ruN (l0 s pc) 3) pc (r3 s k) (en s k)))) := by
    rw [<- hR]
    unfold wlL wlB
    have hor : (jx (l0 s pc) || decide (pc + 1 < en s k)) = true := by
     by_cases h : pc + 1 = en s k
     ·rw [hnl h];rfl
     ·rw [decide_eq_true (show pc + 1 < en s k by omega)];simp
    rw [decide_eq_true h2,decide_eq_true h3,hor]
    simp [J9,lv,Bool.and_assoc]
   rw [hRR]
   exact jjA (S := ⟨#[b0,b1,b2,b3]⟩) rfl rfl rfl rfl rfl (by exact congrArg Int.ofNat t0) (by exact congrArg Int.ofNat t1) (by exact congrArg Int.ofNat t2) (by exact congrArg Int.ofNat t3) (jap _ _) (jap _ _) (jap _ _) (jap _ _) h3 hpe he CL hnl HLF rfl rfl rfl rfl
theorem jU.on {w w' : World} {B : Nat} {vF vN vL : Value} (h : jU s w B vF vN vL) (hb : Below w.heap.size w w') : jU s w' B vF vN vL := ⟨own_below h.funs hb,own_below h.nums hb,own_below h.lines hb⟩
theorem jcu {B k : Nat} {aF aN aL : Option Addr} {nF cFc nN cNc nL cLc : Nat} (hcd : jU s w B (.slice aF nF cFc) (.slice aN nN cNc) (.slice aL nL cLc)) (hk : k < hF s) (W : World) (hW : Below w.heap.size w W) :
 Calls Tryz.prog 66 #[.agg #[.slice aF nF cFc,.slice aN nN cNc,.slice aL nL cLc],.int .i64 k] W fun e w' => e = .returned (.agg #[.int .i64 (r0 s k),.int .i64 (r1 s k),.int .i64 (r2 s k),.int .i64 (r3 s k)]) /\ Below W.heap.size W w' := by
 have hFl : hF s < 65536 := ju _ _
 obtain ⟨a3,c3,h3⟩ := j5 hcd.funs
 injection h3 with q3 hnL q4
 clear q3 q4
 subst hnL
 obtain ⟨g,cap,hsl,hg1,hg2,hg3,hg4⟩ := jaf hcd.funs (by omega)
 injection hsl with e1 e2 e3
 subst e1 e3
 have hs := hW.size
 have hcell : ∀ o v,o < 4 -> (cF s k)[o]? = some v -> W.cell? ⟨g,k * 4 + o,none⟩ = some v := fun o v ho hv => by
  rw [hW.cell (p := ⟨g,k * 4 + o,none⟩) hg2,hcd.funs.cellAt (k * 4 + o) (by omega)]
  exact (Jq (jcD s) ho (hF s) hk).trans hv
 exact jdq (by omega) hk hg3 (by omega) (hcell 0 _ (by omega) rfl) (hcell 1 _ (by omega) rfl) (hcell 2 _ (by omega) rfl) (hcell 3 _ (by omega) rfl)
theorem Tryz.infoSpot : (Tryz.prog.info? 129).map (·.size) = some 6 := by kernel_rfl
theorem jj6 (a b c d : Int) (w : World) : Sem.run Tryz.prog (Instr.field 124 (.agg #[.int .i64 a,.int .i64 b,.int .i64 c,.int .i64 d]) 3) w = .ok (.int .i64 d) w := by kernel_rfl
set_option maxRecDepth 100000 in
theorem jfz {B : Nat} {aF aN aL : Option Addr} {nF cFc nN cNc nL cLc : Nat} {R : Option Nat} (hcd : jU s w B (.slice aF nF cFc) (.slice aN nN cNc) (.slice aL nL cLc)) (hrow : bad (jt s) (hF s) 0 = none) (hl : Jc w.heap.size w) (hR : jz (opK s) (hF s) 0 = R) :
 Calls Tryz.prog 43 #[.agg #[.slice aF nF cFc,.slice aN nN cNc,.slice aL nL cLc]] w fun e w' => e = .returned (.tuple #[.int .i64 (if R = none then 0 else 11 : Nat),.int .i64 (R.getD 0 : Nat)]) /\ Below w.heap.size w w' := by
 have hFl : hF s < 65536 := ju _ _
 have hLl : hL s < 65536 := ju _ _
 have hnF : nF = hF s := by
  obtain ⟨a3,c3,h3⟩ := j5 hcd.funs
  injection h3
 obtain ⟨er,her⟩ : ∃ er : Nat,(if R = none then 0 else 11) = er := ⟨_,rfl⟩
 obtain ⟨at',hat'⟩ : ∃ a : Nat,R.getD 0 = a := ⟨_,rfl⟩
 rw [her,hat']
 have HER := jH her
 have HAT := jH hat'
 clear her hat'
 have HR := jH hR
 have HCD := jH hcd
 have HRW := jH hrow
 have HLF := jH hl
 clear hR hcd hrow hl
 have HB0 : Hid (∀ o : Obj,Below w.heap.size w (w.alloc o)) := fun o => jB.alloc jN _
 subst hnF
 go_enter Tryz.func43,Tryz.ntmps43
 go_wp2
 go_loopg [4] (hF s) (fun gh i (wr : World) => ∃ k : Nat,k <= hF s /\ gh = hF s - k /\ i = .int .i64 k /\ jz (opK s) (hF s - k) k = R /\ wr.heap[w.heap.size]? = some (.cells #[.slice aF (hF s) cFc,.slice aN nN cNc,.slice aL nL cLc] 68 (0,0)) /\ Below w.heap.size w wr)
 case atStart => exact ⟨0,by omega,by omega,rfl,HR.out,jg w _,HB0.out _⟩
 case round =>
  obtain ⟨k,hk,hgk,rfl,hsc,hbox,hbw⟩ := hrel
  have c0 := ja hbox 0 rfl
  simp only [List.getElem_toArray,List.getElem_cons_zero,List.getElem_cons_succ] at c0
  have hlt0 := lt_of_block hbox
  by_cases hlt : k < hF s
  ·have HSC := jH hsc
   have HBX := jH hbox
   have HBW := jH hbw
   have u0 : ∀ x : Wd wr.heap.size wr,x.v.cell? ⟨w.heap.size,0,none⟩ = some (.slice aF (hF s) cFc) := fun x => Wd.at hbox hlt0 0 rfl x
   have u1 : ∀ x : Wd wr.heap.size wr,x.v.cell? ⟨w.heap.size,1,none⟩ = some (.slice aN nN cNc) := fun x => Wd.at hbox hlt0 1 rfl x
   have u2 : ∀ x : Wd wr.heap.size wr,x.v.cell? ⟨w.heap.size,2,none⟩ = some (.slice aL nL cLc) := fun x => Wd.at hbox hlt0 2 rfl x
   have hBX : ∀ x : Wd wr.heap.size wr,Below w.heap.size w x.v := fun x => hbw.trans (x.h.mono hbw.size)
   have CF : Hid (∀ x : Wd wr.heap.size wr,Calls Tryz.prog 66 #[.agg #[.slice aF (hF s) cFc,.slice aN nN cNc,.slice aL nL cLc],.int .i64 k] x.v fun e w' => e = .returned (.agg #[.int .i64 (r0 s k),.int .i64 (r1 s k),.int .i64 (r2 s k),.int .i64 (r3 s k)]) /\ Below x.v.heap.size x.v w') := fun x => jcu HCD.out hlt x.v (hBX x)
   have CE : Hid (∀ x : Wd wr.heap.size wr,Calls Tryz.prog 67 #[.agg #[.slice aF (hF s) cFc,.slice aN nN cNc,.slice aL nL cLc],.int .i64 k] x.v fun e w' => e = .returned (.int .i64 (en s k)) /\ Below x.v.heap.size x.v w') := fun x => end_any (HCD.out.on (hBX x)) hlt
   clear hsc hbox hbw hBX
   have ffn := jj6
   go_upto_region 4 with fail
   refine jbo 10 9 5 (.cells #[.slice none 0 0,.slice none 0 0,.slice none 0 0,.int .i64 0,.int .i64 0,.int .i64 0] 129 (0,0)) _ (by kernel_rfl) (by kernel_rfl) (by kernel_rfl) (by decide) rfl rfl rfl ?_
   simp only [TkD]
   refine jd (by decide) (by rfl) (v := ?v0) ?hv0 ?_
   case hv0 => (intro x;go_simp;all_goals with_reducible rfl)
   simp only [Act.put,SsT]
   refine jd (by decide) (by rfl) (v := ?v1) ?hv1 ?_
   case hv1 => (intro x;go_simp;all_goals with_reducible rfl)
   simp only [Act.put,SsT]
   refine jd (by decide) (by rfl) (v := ?v2) ?hv2 ?_
   case hv2 => (intro x;go_simp;all_goals with_reducible rfl)
   simp only [Act.put,SsT]
   refine jd (by decide) (by rfl) (v := ?v3) ?hv3 ?_
   case hv3 => (intro x;go_simp;exact CF.out x)
   simp only [Act.put,SsT]
   refine jd (by decide) (by rfl) (v := ?v4) ?hv4 ?_
   case hv4 => (intro x;go_simp;all_goals with_reducible rfl)
   simp only [Act.put,SsT]
   refine jd (by decide) (by rfl) (v := ?v5) ?hv5 ?_
   case hv5 => (intro x;go_simp;all_goals with_reducible rfl)
   simp only [Act.put,SsT]
   refine jd (by decide) (by rfl) (v := ?v6) ?hv6 ?_
   case hv6 => (intro x;go_simp;all_goals with_reducible rfl)
   simp only [Act.put,SsT]
   refine jd (by decide) (by rfl) (v := ?v7) ?hv7 ?_
   case hv7 => (intro x;go_simp;exact CE.out x)
   simp only [Act.put,SsT]
   refine jd (by decide) (by rfl) (v := ?v8) ?hv8 ?_
   case hv8 => (intro x;go_simp;all_goals with_reducible rfl)
   simp only [Act.put,SsT]
   refine Jh (by decide) (fun w => by kernel_rfl) ?_
   refine js ?_
   intro b x hb hbk
   refine Jv hbk rfl 129 (.tmp 5) (.tmp 21) rfl #[.slice aF (hF s) cFc,.slice aN nN cNc,.slice aL nL cLc,.int .i64 (r3 s k),.int .i64 0,.int .i64 (en s k)] rfl rfl rfl Tryz.infoSpot (all_oneCell_toArray (by intro u hu;simp at hu;rcases hu with rfl | rfl | rfl | rfl | rfl | rfl <;> rfl)) ?_
   intro w2 hbk2 hlo
   have hbw2 : Below wr.heap.size wr w2 := x.h.trans (hlo.below.mono hb)
   have hbx2 := jc HBX.out hbw2 hlt0
   have hb02 : Below w.heap.size w w2 := HBW.out.trans (hbw2.mono HBW.out.size)
   have hltb := lt_of_block hbk2
   have d0 := ja hbx2 0 rfl
   have d1 := ja hbx2 1 rfl
   have d2 := ja hbx2 2 rfl
   simp only [List.getElem_toArray,List.getElem_cons_zero,List.getElem_cons_succ] at d0 d1 d2
   have CF2 : Hid (Calls Tryz.prog 66 #[.agg #[.slice aF (hF s) cFc,.slice aN nN cNc,.slice aL nL cLc],.int .i64 k] w2 fun e w' => e = .returned (.agg #[.int .i64 (r0 s k),.int .i64 (r1 s k),.int .i64 (r2 s k),.int .i64 (r3 s k)]) /\ Below w2.heap.size w2 w') := jcu HCD.out hlt w2 hb02
   obtain ⟨hrk1,hrk2⟩ := jal HRW.out hlt
   have HBK2 := jH hbk2
   have HB02 := jH hb02
   have HBX2 := jH hbx2
   have ff0 := jfj
   clear CF CE u0 u1 u2 hbk2 hb02 hbx2 hlo hbk ffn
   go_wp2_with (go_at_call 66;refine CF2.out.mono ?_;rintro _ w3 ⟨rfl,hb3⟩;have HK3 := jH (jc HBK2.out hb3 hltb);have HX3 := jH (jc HBX2.out hb3 (by have := hbw2.size;omega));have k4 := ja HK3.out 4 rfl;have f4 := je HK3.out 4;have HB3 := jH (HB02.out.trans (hb3.mono HB02.out.size)))
   go_loopg [] (en s k - r0 s k) (fun gh (wi : World) => ∃ j : Nat,r0 s k <= j /\ j <= en s k /\ gh = en s k - j /\ bad (wlL s k) (en s k - j) j = opK s k /\ wi.heap[b]? = some (.cells #[.slice aF (hF s) cFc,.slice aN nN cNc,.slice aL nL cLc,.int .i64 (r3 s k),.int .i64 j,.int .i64 (en s k)] 129 (0,0)) /\ wi.heap[w.heap.size]? = some (.cells #[.slice aF (hF s) cFc,.slice aN nN cNc,.slice aL nL cLc] 68 (0,0)) /\ Below w.heap.size w wi)
   case atStart =>
    have hs3 := HBW.out.size
    exact ⟨r0 s k,jN,Nat.le_of_lt hrk1,rfl,rfl,jf HK3.out 4 _,(Below.heap_setCell _ _ _ _ (show w.heap.size ≠ b by omega)).trans HX3.out,HB3.out.setCell (p := ⟨b,4,none⟩) (show w.heap.size <= b by omega) _⟩
   case round =>
    obtain ⟨j,hj1,hj2,hgj,hbj,hkj,hxj,hwj⟩ := hrel
    have hsj := HBW.out.size
    have hltj := lt_of_block hkj
    have e0 := ja hkj 0 rfl
    have e1 := ja hkj 1 rfl
    have e2 := ja hkj 2 rfl
    have e3 := ja hkj 3 rfl
    have e4 := ja hkj 4 rfl
    have e5 := ja hkj 5 rfl
    simp only [List.getElem_toArray,List.getElem_cons_zero,List.getElem_cons_succ] at e0 e1 e2 e3 e4 e5
    have HKJ := jH hkj
    have HXJ := jH hxj
    have HWJ := jH hwj
    have HBJ := jH hbj
    by_cases hje : j < en s k
    ·obtain ⟨Rj,hRj⟩ : ∃ Rj,wlL s k j = Rj := ⟨_,rfl⟩
     have CW : Hid (Calls Tryz.prog 68 #[.agg #[.slice aF (hF s) cFc,.slice aN nN cNc,.slice aL nL cLc,.int .i64 (r3 s k),.int .i64 j,.int .i64 (en s k)]] wr fun e w' => e = .returned (.bool Rj) /\ Below wr.heap.size wr w') := jjB (HCD.out.on hwj) (by omega) hje (by omega) ((HLF.out.on hwj).less hwj.size) hRj
     cases Rj with
     | true =>
       have HNX : Hid (bad (wlL s k) (en s k - (j + 1)) (j + 1) = opK s k) := by
        have h := HBJ.out
        rw [show en s k - j = (en s k - (j + 1)) + 1 by omega,bad,if_pos hRj] at h
        exact h
       clear hRj hbj hkj hxj hwj
       go_wp2_with (go_at_call 68;refine CW.out.mono ?_;rintro _ w4 ⟨rfl,hb4⟩;have HK4 := jH (jc HKJ.out hb4 hltj);have k4' := ja HK4.out 4 rfl;have f4' := je HK4.out 4;simp only [List.getElem_toArray,List.getElem_cons_zero,List.getElem_cons_succ] at k4')
       go_roundg (en s k - (j + 1))
       case measure => omega
       case rel =>
        refine ⟨j + 1,by omega,by omega,rfl,HNX.out,?_,(Below.heap_setCell _ _ _ _ (show w.heap.size ≠ b by omega)).trans (jc HXJ.out hb4 (by omega)),(HWJ.out.trans (hb4.mono HWJ.out.size)).setCell (p := ⟨b,4,none⟩) (show w.heap.size <= b by omega) _⟩
        exact jf HK4.out 4 _
     | false =>
       have HNO : Hid (opK s k = some j) := by
        have h := HBJ.out
        rw [show en s k - j = (en s k - (j + 1)) + 1 by omega,bad,if_neg (by rw [hRj];decide)] at h
        exact h.symm
       have HRE : Hid (R = some j) := by
        have h := HSC.out
        rw [show hF s - k = (hF s - (k + 1)) + 1 by omega,jz,HNO.out] at h
        exact h.symm
       clear hRj hbj hkj hxj hwj
       go_wp2_with (go_at_call 68;refine CW.out.mono ?_;rintro _ w4 ⟨rfl,hb4⟩;have HK4 := jH (jc HKJ.out hb4 hltj);have k4' := ja HK4.out 4 rfl;have f4' := je HK4.out 4;simp only [List.getElem_toArray,List.getElem_cons_zero,List.getElem_cons_succ] at k4')
       go_quiet (fail)
       go_wp2_with fail
       go_ret2
       have e1 : er = 11 := by rw [<- HER.out,HRE.out];rfl
       have e2 : at' = j := by rw [<- HAT.out,HRE.out];rfl
       subst e1 e2
       exact ⟨rfl,below_drewN (HWJ.out.trans (hb4.mono HWJ.out.size)) _⟩
    ·have HNX : Hid (jz (opK s) (hF s - (k + 1)) (k + 1) = R) := by
      have h := HSC.out
      have h2 := HBJ.out
      rw [show en s k - j = 0 by omega] at h2
      rw [show hF s - k = (hF s - (k + 1)) + 1 by omega,jz,<- h2] at h
      exact h
     clear hbj hkj hxj hwj
     go_wp2_with fail
     go_roundg (hF s - (k + 1))
     case measure => omega
     case rel => exact ⟨k + 1,by omega,rfl,by go_num,HNX.out,HXJ.out,HWJ.out⟩
  ·have hke : hF s - k = 0 := by omega
   rw [hke] at hsc
   have HRN : Hid (R = none) := hsc.symm
   clear hsc hbox
   go_wp2_with fail
   go_ret2
   have e1 : er = 0 := by rw [<- HER.out,HRN.out];rfl
   have e2 : at' = 0 := by rw [<- HAT.out,HRN.out];rfl
   subst e1 e2
   exact ⟨rfl,hbw⟩
end Go.Proofs.YtjmgolahkgalbaaGreatDoor
namespace Go.Proofs.YtjmgolahkgalbaaGreatDoor
open Go.RowKit Li Ro
variable {s : ByteArray} {w : World}
def tkL (p n : Nat) : List Nat := List.range p ++ (if n = 1 then [7] else [])
theorem jgb (s : ByteArray) (k : Nat) : tkF s k = tkL (r1 s k) (r2 s k) := rfl
def mkR (l : List Nat) : Nat := jh (fun i => l.contains i) 8
theorem jbG (l : List Nat) : mkR l < 256 := JK _ 8
theorem jix {x : Nat} (hx : x < 8) : 2 ^ x = mkR [x] := by
 rw [jbI hx]
 exact JA fun i _ => by rw [Bool.eq_iff_iff];simp
theorem jiw (l m : List Nat) : mkR l ||| mkR m = mkR (l ++ m) := by
 unfold mkR
 rw [jbH]
 exact JA fun i _ => by rw [Bool.eq_iff_iff];simp
theorem jaF {l m : List Nat} (h : ∀ i,i < 8 -> (i ∈ l ↔ i ∈ m)) : mkR l = mkR m := JA fun i hi => by rw [Bool.eq_iff_iff];simp [h i hi]
theorem jbd (l m : List Nat) : bits BinOp.or IntKind.i64 ((mkR l : Nat) : Int) ((mkR m : Nat) : Int) = ((mkR (l ++ m) : Nat) : Int) := by
 have := jbG l
 have := jbG m
 rw [jcn _ _ (by omega) (by omega),jiw]
theorem Jy {x : Nat} (hx : x < 8) (z : Int) (hz : z = x) (W : World) : Calls Tryz.prog 112 #[.int .i64 z] W fun e w' => e = .returned (.int .i64 ((mkR [x] : Nat) : Int)) /\ w' = W := by
 rw [hz,<- jix hx];exact jex (by omega)
theorem jfl {n : Nat} (hn : n <= 8) (W : World) : Calls Tryz.prog 111 #[.int .i64 n] W fun e w' => e = .returned (.int .i64 ((mkR (List.range n) : Nat) : Int)) /\ w' = W := by
 have h := jkg (n := n) (w := W) hn
 rw [show jh (fun i => decide (i < n)) 8 = mkR (List.range n) from JA fun i _ => by rw [Bool.eq_iff_iff];simp] at h
 exact h
theorem jfo {a0 a3 : Int} {p n : Nat} (hp : p <= 4) : Calls Tryz.prog 94 #[.agg #[.int .i64 a0,.int .i64 p,.int .i64 n,.int .i64 a3]] w fun e w' => e = .returned (.int .i64 ((mkR (tkL p n) : Nat) : Int)) /\ Below w.heap.size w w' := by
 have HB : Hid (∀ o : Obj,Below w.heap.size w (w.alloc o)) := fun o => jB.alloc jN _
 have C1 : Hid (∀ W,Calls Tryz.prog 111 #[.int .i64 p] W fun e w' => e = .returned (.int .i64 ((mkR (List.range p) : Nat) : Int)) /\ w' = W) := fun W => jfl (by omega) W
 have C2 : Hid (∀ (z : Int) W,z = 7 -> Calls Tryz.prog 112 #[.int .i64 z] W fun e w' => e = .returned (.int .i64 ((mkR [7] : Nat) : Int)) /\ w' = W) := fun z W hz => Jy (x := 7) (by omega) z hz W
 by_cases hn : n = 1
 ·subst hn
  have hor := jbd (List.range p) [7]
  have HE : Hid (mkR (List.range p ++ [7]) = mkR (tkL p 1)) := rfl
  generalize mkR (tkL p 1) = M at *
  generalize mkR (List.range p ++ [7]) = M1 at *
  generalize mkR (List.range p) = M2 at *
  generalize mkR [7] = M3 at *
  go_enter Tryz.func94,Tryz.ntmps94
  go_wp2_with (first
   | (go_at_call 111;refine (C1.out _).mono ?_;rintro _ w1 ⟨rfl,hw1⟩;have hw2 := hw1.symm;subst hw2)
   | (go_at_call 112;refine (C2.out _ _ rfl).mono ?_;rintro _ w1 ⟨rfl,hw1⟩;have hw2 := hw1.symm;subst hw2))
  go_ret
  exact ⟨jR (by rw [HE.out]),HB.out _⟩
 ·have HE : Hid (mkR (List.range p) = mkR (tkL p n)) := by show _ = _;unfold tkL;rw [if_neg hn,List.append_nil]
  have hb : ((n : Int) == 1) = false := by simp;omega
  clear hn
  generalize mkR (tkL p n) = M at *
  generalize mkR (List.range p) = M2 at *
  go_enter Tryz.func94,Tryz.ntmps94
  go_wp2_with (go_at_call 111;refine (C1.out _).mono ?_;rintro _ w1 ⟨rfl,hw1⟩;have hw2 := hw1.symm;subst hw2)
  go_ret
  exact ⟨jR (by rw [HE.out]),HB.out _⟩
set_option maxRecDepth 100000 in
theorem jhC {f op r x y p : Nat} (hop : op = 1 \/ op = 3 \/ op = 4 \/ op = 6 \/ op = 17 \/ op = 19 \/ op = 20 \/ op = 28) :
 Calls Tryz.prog 114 #[.pointer (some ⟨f,0,none⟩),.agg #[.int .i64 op,.int .i64 r,.int .i64 x,.int .i64 y,.int .i64 p]] w fun e w' => e = .returned (.int .i64 ((mkR (rdO s op r x y) : Nat) : Int)) /\ Below w.heap.size w w' := by
 have HB : Hid (∀ o : Obj,Below w.heap.size w (w.alloc o)) := fun o => jB.alloc jN _
 have HE : Hid (0 = mkR (rdO s op r x y)) := by
  show _ = _
  rw [show (0 : Nat) = mkR [] by rfl]
  apply jaF
  intro i hi
  rcases hop with rfl | rfl | rfl | rfl | rfl | rfl | rfl | rfl <;> simp [rdO] <;> omega
 generalize mkR (rdO s op r x y) = M at *
 rcases hop with rfl | rfl | rfl | rfl | rfl | rfl | rfl | rfl
 all_goals
  go_enter Tryz.func114,Tryz.ntmps114
  go_wp2_with fail
  go_ret
  exact ⟨jR (by rw [<- HE.out];rfl),HB.out _⟩
set_option maxRecDepth 100000 in
theorem jhx {f op r x y p : Nat} (hop : op = 2 \/ op = 15 \/ op = 16 \/ op = 22 \/ op = 26) (hx : x < 8) :
 Calls Tryz.prog 114 #[.pointer (some ⟨f,0,none⟩),.agg #[.int .i64 op,.int .i64 r,.int .i64 x,.int .i64 y,.int .i64 p]] w fun e w' => e = .returned (.int .i64 ((mkR (rdO s op r x y) : Nat) : Int)) /\ Below w.heap.size w w' := by
 have HB : Hid (∀ o : Obj,Below w.heap.size w (w.alloc o)) := fun o => jB.alloc jN _
 have HE : Hid (mkR [x] = mkR (rdO s op r x y)) := by
  show _ = _
  apply jaF
  intro i hi
  rcases hop with rfl | rfl | rfl | rfl | rfl <;> simp [rdO] <;> omega
 have C1 : Hid (∀ W,Calls Tryz.prog 112 #[.int .i64 x] W fun e w' => e = .returned (.int .i64 ((mkR [x] : Nat) : Int)) /\ w' = W) := fun W => Jy hx _ rfl W
 generalize mkR (rdO s op r x y) = M at *
 generalize mkR [x] = MX at *
 rcases hop with rfl | rfl | rfl | rfl | rfl
 all_goals
  go_enter Tryz.func114,Tryz.ntmps114
  go_wp2_with (go_at_call_of 112 x;refine (C1.out _).mono ?_;rintro _ w1 ⟨rfl,hw1⟩;have hw2 := hw1.symm;subst hw2)
  go_ret
  exact ⟨jR (by rw [HE.out]),HB.out _⟩
set_option maxRecDepth 100000 in
theorem jhB {f op r x y p : Nat} (hop : op = 5 \/ op = 18 \/ op = 27) (hr : r < 8) :
 Calls Tryz.prog 114 #[.pointer (some ⟨f,0,none⟩),.agg #[.int .i64 op,.int .i64 r,.int .i64 x,.int .i64 y,.int .i64 p]] w fun e w' => e = .returned (.int .i64 ((mkR (rdO s op r x y) : Nat) : Int)) /\ Below w.heap.size w w' := by
 have HB : Hid (∀ o : Obj,Below w.heap.size w (w.alloc o)) := fun o => jB.alloc jN _
 have HE : Hid (mkR [r] = mkR (rdO s op r x y)) := by
  show _ = _
  apply jaF
  intro i hi
  rcases hop with rfl | rfl | rfl <;> simp [rdO] <;> omega
 have C1 : Hid (∀ W,Calls Tryz.prog 112 #[.int .i64 r] W fun e w' => e = .returned (.int .i64 ((mkR [r] : Nat) : Int)) /\ w' = W) := fun W => Jy hr _ rfl W
 generalize mkR (rdO s op r x y) = M at *
 generalize mkR [r] = MX at *
 rcases hop with rfl | rfl | rfl
 all_goals
  go_enter Tryz.func114,Tryz.ntmps114
  go_wp2_with (go_at_call_of 112 r;refine (C1.out _).mono ?_;rintro _ w1 ⟨rfl,hw1⟩;have hw2 := hw1.symm;subst hw2)
  go_ret
  exact ⟨jR (by rw [HE.out]),HB.out _⟩
set_option maxRecDepth 100000 in
theorem jhw {f op r x y p : Nat} (hop : op = 7 \/ op = 8 \/ op = 9 \/ op = 10 \/ op = 11 \/ op = 12 \/ op = 13 \/ op = 14 \/ op = 23 \/ op = 24) (hx : x < 8) (hy : y < 8) :
 Calls Tryz.prog 114 #[.pointer (some ⟨f,0,none⟩),.agg #[.int .i64 op,.int .i64 r,.int .i64 x,.int .i64 y,.int .i64 p]] w fun e w' => e = .returned (.int .i64 ((mkR (rdO s op r x y) : Nat) : Int)) /\ Below w.heap.size w w' := by
 have HB : Hid (∀ o : Obj,Below w.heap.size w (w.alloc o)) := fun o => jB.alloc jN _
 have HE : Hid (mkR ([x] ++ [y]) = mkR (rdO s op r x y)) := by
  show _ = _
  apply jaF
  intro i hi
  rcases hop with rfl | rfl | rfl | rfl | rfl | rfl | rfl | rfl | rfl | rfl <;> simp [rdO] <;> omega
 have C1 : Hid (∀ W,Calls Tryz.prog 112 #[.int .i64 x] W fun e w' => e = .returned (.int .i64 ((mkR [x] : Nat) : Int)) /\ w' = W) := fun W => Jy hx _ rfl W
 have C2 : Hid (∀ W,Calls Tryz.prog 112 #[.int .i64 y] W fun e w' => e = .returned (.int .i64 ((mkR [y] : Nat) : Int)) /\ w' = W) := fun W => Jy hy _ rfl W
 have hor := jbd [x] [y]
 generalize mkR (rdO s op r x y) = M at *
 generalize mkR ([x] ++ [y]) = M1 at *
 generalize mkR [x] = MX at *
 generalize mkR [y] = MY at *
 rcases hop with rfl | rfl | rfl | rfl | rfl | rfl | rfl | rfl | rfl | rfl
 all_goals
  go_enter Tryz.func114,Tryz.ntmps114
  go_wp2_with fail
  go_quiet ((first | (go_at_call_of 112 x;exact Calls.quiet_of_same (C1.out _)) | (go_at_call_of 112 y;exact Calls.quiet_of_same (C2.out _))))
  go_wp2_with fail
  go_ret
  exact ⟨jR (by rw [HE.out]),below_drewN (HB.out _) _⟩
set_option maxRecDepth 100000 in
theorem jhy {f op r x y p : Nat} (hop : op = 21) (hr : r < 8) (hy : y < 8) :
 Calls Tryz.prog 114 #[.pointer (some ⟨f,0,none⟩),.agg #[.int .i64 op,.int .i64 r,.int .i64 x,.int .i64 y,.int .i64 p]] w fun e w' => e = .returned (.int .i64 ((mkR (rdO s op r x y) : Nat) : Int)) /\ Below w.heap.size w w' := by
 have HB : Hid (∀ o : Obj,Below w.heap.size w (w.alloc o)) := fun o => jB.alloc jN _
 have HE : Hid (mkR ([r] ++ [y]) = mkR (rdO s op r x y)) := by
  show _ = _
  apply jaF
  intro i hi
  rcases hop with rfl <;> simp [rdO] <;> omega
 have C1 : Hid (∀ W,Calls Tryz.prog 112 #[.int .i64 r] W fun e w' => e = .returned (.int .i64 ((mkR [r] : Nat) : Int)) /\ w' = W) := fun W => Jy hr _ rfl W
 have C2 : Hid (∀ W,Calls Tryz.prog 112 #[.int .i64 y] W fun e w' => e = .returned (.int .i64 ((mkR [y] : Nat) : Int)) /\ w' = W) := fun W => Jy hy _ rfl W
 have hor := jbd [r] [y]
 generalize mkR (rdO s op r x y) = M at *
 generalize mkR ([r] ++ [y]) = M1 at *
 generalize mkR [r] = MX at *
 generalize mkR [y] = MY at *
 rcases hop with rfl
 all_goals
  go_enter Tryz.func114,Tryz.ntmps114
  go_wp2_with fail
  go_quiet ((first | (go_at_call_of 112 r;exact Calls.quiet_of_same (C1.out _)) | (go_at_call_of 112 y;exact Calls.quiet_of_same (C2.out _))))
  go_wp2_with fail
  go_ret
  exact ⟨jR (by rw [HE.out]),below_drewN (HB.out _) _⟩
set_option maxRecDepth 100000 in
theorem jhz {f op r x y p : Nat} (hop : op = 25) (hr : r < 8) (hx : x < 8) (hy : y < 8) :
 Calls Tryz.prog 114 #[.pointer (some ⟨f,0,none⟩),.agg #[.int .i64 op,.int .i64 r,.int .i64 x,.int .i64 y,.int .i64 p]] w fun e w' => e = .returned (.int .i64 ((mkR (rdO s op r x y) : Nat) : Int)) /\ Below w.heap.size w w' := by
 have HB : Hid (∀ o : Obj,Below w.heap.size w (w.alloc o)) := fun o => jB.alloc jN _
 have HE : Hid (mkR ([r] ++ [x] ++ [y]) = mkR (rdO s op r x y)) := by
  show _ = _
  apply jaF
  intro i hi
  rcases hop with rfl <;> simp [rdO] <;> omega
 have C1 : Hid (∀ W,Calls Tryz.prog 112 #[.int .i64 r] W fun e w' => e = .returned (.int .i64 ((mkR [r] : Nat) : Int)) /\ w' = W) := fun W => Jy hr _ rfl W
 have C2 : Hid (∀ W,Calls Tryz.prog 112 #[.int .i64 x] W fun e w' => e = .returned (.int .i64 ((mkR [x] : Nat) : Int)) /\ w' = W) := fun W => Jy hx _ rfl W
 have C3 : Hid (∀ W,Calls Tryz.prog 112 #[.int .i64 y] W fun e w' => e = .returned (.int .i64 ((mkR [y] : Nat) : Int)) /\ w' = W) := fun W => Jy hy _ rfl W
 have hor := jbd [r] [x]
 have hor2 := jbd ([r] ++ [x]) [y]
 generalize mkR (rdO s op r x y) = M at *
 generalize mkR ([r] ++ [x] ++ [y]) = M2 at *
 generalize mkR ([r] ++ [x]) = M1 at *
 generalize mkR [r] = MR at *
 generalize mkR [x] = MX at *
 generalize mkR [y] = MY at *
 rcases hop with rfl
 all_goals
  go_enter Tryz.func114,Tryz.ntmps114
  go_wp2_with fail
  go_quiet ((first | (go_at_call_of 112 r;exact Calls.quiet_of_same (C1.out _)) | (go_at_call_of 112 x;exact Calls.quiet_of_same (C2.out _)) | (go_at_call_of 112 y;exact Calls.quiet_of_same (C3.out _))))
  go_wp2_with fail
  go_ret
  exact ⟨jR (by rw [HE.out]),below_drewN (HB.out _) _⟩
set_option maxRecDepth 100000 in
theorem jhE {f op r x y p : Nat} (hop : op = 30 \/ op = 32) (hx : x <= 4) :
 Calls Tryz.prog 114 #[.pointer (some ⟨f,0,none⟩),.agg #[.int .i64 op,.int .i64 r,.int .i64 x,.int .i64 y,.int .i64 p]] w fun e w' => e = .returned (.int .i64 ((mkR (rdO s op r x y) : Nat) : Int)) /\ Below w.heap.size w w' := by
 have HB : Hid (∀ o : Obj,Below w.heap.size w (w.alloc o)) := fun o => jB.alloc jN _
 have HE : Hid (mkR (List.range x ++ [7]) = mkR (rdO s op r x y)) := by
  show _ = _
  apply jaF
  intro i hi
  rcases hop with rfl | rfl <;> simp [rdO] <;> omega
 have C1 : Hid (∀ W,Calls Tryz.prog 111 #[.int .i64 x] W fun e w' => e = .returned (.int .i64 ((mkR (List.range x) : Nat) : Int)) /\ w' = W) := fun W => jfl (by omega) W
 have C2 : Hid (∀ (z : Int) W,z = 7 -> Calls Tryz.prog 112 #[.int .i64 z] W fun e w' => e = .returned (.int .i64 ((mkR [7] : Nat) : Int)) /\ w' = W) := fun z W hz => Jy (x := 7) (by omega) z hz W
 have hor := jbd (List.range x) [7]
 generalize mkR (rdO s op r x y) = M at *
 generalize mkR (List.range x ++ [7]) = M1 at *
 generalize mkR (List.range x) = MX at *
 generalize mkR [7] = MY at *
 rcases hop with rfl | rfl
 all_goals
  go_enter Tryz.func114,Tryz.ntmps114
  go_wp2_with (first
   | (go_at_call 111;refine (C1.out _).mono ?_;rintro _ w1 ⟨rfl,hw1⟩;have hw2 := hw1.symm;subst hw2)
   | (go_at_call 112;refine (C2.out _ _ rfl).mono ?_;rintro _ w1 ⟨rfl,hw1⟩;have hw2 := hw1.symm;subst hw2))
  go_ret
  exact ⟨jR (by rw [HE.out]),HB.out _⟩
set_option maxRecDepth 100000 in
theorem jhA {f op r x y p : Nat} (hop : op = 33) :
 Calls Tryz.prog 114 #[.pointer (some ⟨f,0,none⟩),.agg #[.int .i64 op,.int .i64 r,.int .i64 x,.int .i64 y,.int .i64 p]] w fun e w' => e = .returned (.int .i64 ((mkR (rdO s op r x y) : Nat) : Int)) /\ Below w.heap.size w w' := by
 have HB : Hid (∀ o : Obj,Below w.heap.size w (w.alloc o)) := fun o => jB.alloc jN _
 have HE : Hid (mkR [0] = mkR (rdO s op r x y)) := by
  show _ = _
  apply jaF
  intro i hi
  rw [hop];simp [rdO]
 have C2 : Hid (∀ (z : Int) W,z = 0 -> Calls Tryz.prog 112 #[.int .i64 z] W fun e w' => e = .returned (.int .i64 ((mkR [0] : Nat) : Int)) /\ w' = W) := fun z W hz => Jy (x := 0) (by omega) z hz W
 generalize mkR (rdO s op r x y) = M at *
 generalize mkR [0] = MY at *
 subst hop
 go_enter Tryz.func114,Tryz.ntmps114
 go_wp2_with (go_at_call 112;refine (C2.out _ _ rfl).mono ?_;rintro _ w1 ⟨rfl,hw1⟩;have hw2 := hw1.symm;subst hw2)
 go_ret
 exact ⟨jR (by rw [HE.out]),HB.out _⟩
def JL (vF vN vL : Value) (first : Nat) (vR : Value) : Obj := .cells #[vF,vN,vL,.int .i64 first,vR] 158 (0,0)
set_option maxRecDepth 100000 in
theorem jhF {B f first op r x y p : Nat} {aF aN aL : Option Addr} {nF cFc nN cNc nL cLc : Nat} {vR : Value} (hcd : jU s w B (.slice aF nF cFc) (.slice aN nN cNc) (.slice aL nL cLc)) (hrow : bad (jt s) (hF s) 0 = none) (hf : w.heap[f]? = some (JL (.slice aF nF cFc) (.slice aN nN cNc) (.slice aL nL cLc) first vR)) (hop : op = 29 \/ op = 31) (hx : x < hF s) :
 Calls Tryz.prog 114 #[.pointer (some ⟨f,0,none⟩),.agg #[.int .i64 op,.int .i64 r,.int .i64 x,.int .i64 y,.int .i64 p]] w fun e w' => e = .returned (.int .i64 ((mkR (rdO s op r x y) : Nat) : Int)) /\ Below w.heap.size w w' := by
 have HB : Hid (∀ o : Obj,Below w.heap.size w (w.alloc o)) := fun o => jB.alloc jN _
 have HE : Hid (mkR (tkL (r1 s x) (r2 s x)) = mkR (rdO s op r x y)) := by
  show _ = _
  rw [<- jgb]
  rcases hop with rfl | rfl <;> simp [rdO]
 obtain ⟨hr1,hr2,hr3,hr4⟩ := j7 hrow hx
 have hlt := lt_of_block hf
 have HBZ : Hid (∀ (o : Obj) (x : Wd (w.alloc o).heap.size (w.alloc o)),Below w.heap.size w x.v) := fun o x => (HB.out o).trans (x.h.mono (by rw [World.size_alloc];omega))
 have CF : Hid (∀ W,Below w.heap.size w W -> Calls Tryz.prog 66 #[.agg #[.slice aF nF cFc,.slice aN nN cNc,.slice aL nL cLc],.int .i64 x] W fun e w' => e = .returned (.agg #[.int .i64 (r0 s x),.int .i64 (r1 s x),.int .i64 (r2 s x),.int .i64 (r3 s x)]) /\ Below W.heap.size W w') := fun W hW => jcu hcd hx W hW
 have CE : Hid (∀ W,Calls Tryz.prog 94 #[.agg #[.int .i64 (r0 s x),.int .i64 (r1 s x),.int .i64 (r2 s x),.int .i64 (r3 s x)]] W fun e w' => e = .returned (.int .i64 ((mkR (tkL (r1 s x) (r2 s x)) : Nat) : Int)) /\ Below W.heap.size W w') := fun W => jfo hr1
 have hfa : ∀ o : Obj,(w.alloc o).heap[f]? = some (JL (.slice aF nF cFc) (.slice aN nN cNc) (.slice aL nL cLc) first vR) := fun o => (Below.heap_alloc w o _ hlt).trans hf
 have hlt0 : ∀ o : Obj,f < (w.alloc o).heap.size := fun o => by rw [World.size_alloc];omega
 have hlt1 : ∀ o : Obj,w.heap.size < (w.alloc o).heap.size := fun o => by rw [World.size_alloc];omega
 have u0 : ∀ (o : Obj) (x : Wd (w.alloc o).heap.size (w.alloc o)),x.v.cell? ⟨f,0,none⟩ = some (.slice aF nF cFc) := fun o x => Wd.at (hfa o) (hlt0 o) 0 rfl x
 have u1 : ∀ (o : Obj) (x : Wd (w.alloc o).heap.size (w.alloc o)),x.v.cell? ⟨f,1,none⟩ = some (.slice aN nN cNc) := fun o x => Wd.at (hfa o) (hlt0 o) 1 rfl x
 have u2 : ∀ (o : Obj) (x : Wd (w.alloc o).heap.size (w.alloc o)),x.v.cell? ⟨f,2,none⟩ = some (.slice aL nL cLc) := fun o x => Wd.at (hfa o) (hlt0 o) 2 rfl x
 have u3 : ∀ z : Wd (w.alloc (.cells #[.int .i64 op,.int .i64 r,.int .i64 x,.int .i64 y,.int .i64 p] 116 (0,0))).heap.size (w.alloc (.cells #[.int .i64 op,.int .i64 r,.int .i64 x,.int .i64 y,.int .i64 p] 116 (0,0))),z.v.cell? ⟨w.heap.size,2,none⟩ = some (.int .i64 x) := fun z => Wd.at (jg w _) (hlt1 _) 2 rfl z
 generalize mkR (rdO s op r x y) = M at *
 generalize mkR (tkL (r1 s x) (r2 s x)) = M1 at *
 clear hfa hlt0 hlt1 hr1 hr2 hr3 hr4 hf hcd hrow
 generalize (r0 s x : Int) = q0 at *
 generalize (r1 s x : Int) = q1 at *
 generalize (r2 s x : Int) = q2 at *
 generalize (r3 s x : Int) = q3 at *
 haveI := Wd.ne
 rcases hop with rfl | rfl
 all_goals
  go_enter Tryz.func114,Tryz.ntmps114
  go_wp2_with fail
  refine jY (by kernel_rfl) (by kernel_rfl) ?_
  repeat (go_big_quiet_step ((first | (go_at_call 66;exact jI jN (CF.out _ (HBZ.out _ _))) | (go_at_call 94;exact jI jN (CE.out _)))))
  refine wpQuiet_nil ?_
  intro z
  go_wp2_with fail
  go_ret
  exact ⟨jR (by rw [HE.out]),HBZ.out _ z⟩
theorem jhH {B f first k pc : Nat} {aF aN aL : Option Addr} {nF cFc nN cNc nL cLc : Nat} {vR : Value} (hcd : jU s w B (.slice aF nF cFc) (.slice aN nN cNc) (.slice aL nL cLc)) (hrow : bad (jt s) (hF s) 0 = none) (hf : w.heap[f]? = some (JL (.slice aF nF cFc) (.slice aN nN cNc) (.slice aL nL cLc) first vR)) (hw : Wl s k pc) :
 Calls Tryz.prog 114 #[.pointer (some ⟨f,0,none⟩),.agg #[.int .i64 (l0 s pc),.int .i64 (l1 s pc),.int .i64 (l2 s pc),.int .i64 (l3 s pc),.int .i64 (l4 s pc)]] w fun e w' => e = .returned (.int .i64 ((mkR (rdL s pc) : Nat) : Int)) /\ Below w.heap.size w w' := by
 have h0 := hw.f0
 have h1 := hw.f1
 have h2 := hw.f2
 have h3 := hw.op1
 have h4 := hw.op2
 unfold rdL
 generalize hop : l0 s pc = op at *
 generalize l1 s pc = r at *
 generalize l2 s pc = x at *
 generalize l3 s pc = y at *
 generalize l4 s pc = p at *
 clear hop
 have hc : op = 1 \/ op = 2 \/ op = 3 \/ op = 4 \/ op = 5 \/ op = 6 \/ op = 7 \/ op = 8 \/ op = 9 \/ op = 10 \/ op = 11 \/ op = 12 \/ op = 13 \/ op = 14 \/ op = 15 \/ op = 16 \/ op = 17 \/ op = 18 \/ op = 19 \/ op = 20 \/ op = 21 \/ op = 22 \/ op = 23 \/ op = 24 \/ op = 25 \/ op = 26 \/ op = 27 \/ op = 28 \/ op = 29 \/ op = 30 \/ op = 31 \/ op = 32 \/ op = 33 := by omega
 by_cases g0 : op = 1 \/ op = 3 \/ op = 4 \/ op = 6 \/ op = 17 \/ op = 19 \/ op = 20 \/ op = 28
 ·exact jhC g0
 by_cases g1 : op = 2 \/ op = 15 \/ op = 16 \/ op = 22 \/ op = 26
 ·exact jhx g1 (by rcases g1 with rfl | rfl | rfl | rfl | rfl <;> simpa [jo,ruN,rul] using h1)
 by_cases g2 : op = 5 \/ op = 18 \/ op = 27
 ·exact jhB g2 (by rcases g2 with rfl | rfl | rfl <;> simpa [jo,ruN,rul] using h0)
 by_cases g3 : op = 7 \/ op = 8 \/ op = 9 \/ op = 10 \/ op = 11 \/ op = 12 \/ op = 13 \/ op = 14 \/ op = 23 \/ op = 24
 ·exact jhw g3 (by rcases g3 with rfl | rfl | rfl | rfl | rfl | rfl | rfl | rfl | rfl | rfl <;> simpa [jo,ruN,rul] using h1) (by rcases g3 with rfl | rfl | rfl | rfl | rfl | rfl | rfl | rfl | rfl | rfl <;> simpa [jo,ruN,rul] using h2)
 by_cases g4 : op = 21
 ·exact jhy g4 (by subst g4;simpa [jo,ruN,rul] using h0) (by subst g4;simpa [jo,ruN,rul] using h2)
 by_cases g5 : op = 25
 ·exact jhz g5 (by subst g5;simpa [jo,ruN,rul] using h0) (by subst g5;simpa [jo,ruN,rul] using h1) (by subst g5;simpa [jo,ruN,rul] using h2)
 by_cases g6 : op = 29 \/ op = 31
 ·exact jhF hcd hrow hf g6 (by rcases g6 with rfl | rfl <;> simpa [jo,ruN,rul] using h1)
 by_cases g7 : op = 30 \/ op = 32
 ·exact jhE g7 (by rcases g7 with rfl | rfl <;> simpa [jo,ruN,rul] using h1)
 ·exact jhA (by omega)
theorem jk.on {w w' : World} {b o : Nat} {c : Option Pl} (h : jk w b o c) (hb : Below w.heap.size w w') (hlt : b < w.heap.size) : jk w' b o c := fun i hi => (hb.cell (p := ⟨b,o + i,none⟩) hlt).trans (h i hi)
theorem jk.reg {b o : Nat} {A A' : Pl} {arr : Array Value} {t : TypeId} (hb : w.heap[b]? = some (.cells arr t (0,0))) (h : jk w b o (some A)) (he : ∀ i,8 <= i -> A' i = A i) : jk (w.setCell ⟨b,o + 1,none⟩ (.int .i64 ((jh A' 8 : Nat) : Int))) b o (some A') := fun q hq => by
 rw [jbK hb (h 1 (by omega)),h q hq]
 by_cases e : q = 1
 ·subst e;rw [if_pos rfl];rfl
 ·rw [if_neg (by omega)]
  by_cases e0 : q = 0
  ·subst e0;rfl
  ·simp only [cv,if_neg e0,if_neg e]
   rw [JA (p := fun j => A (8 + 64 * (q - 2) + j)) (q := fun j => A' (8 + 64 * (q - 2) + j)) (fun j _ => (he _ (by omega)).symm)]
theorem jk.word {b o : Nat} {A : Pl} (h : jk w b o (some A)) {x : Nat} (hx : x < 1024) : w.cell? ⟨b,o + 2 + x / 64,none⟩ = some (.int .u64 ((jh (fun j => A (8 + 64 * (x / 64) + j)) 64 : Nat) : Int)) := by
 rw [show o + 2 + x / 64 = o + (2 + x / 64) by omega,h (2 + x / 64) (by omega)]
 simp only [cv,if_neg (show ¬ 2 + x / 64 = 0 by omega),if_neg (show ¬ 2 + x / 64 = 1 by omega),Nat.add_sub_cancel_left]
theorem jk.slot {b o x : Nat} {A A' : Pl} {arr : Array Value} {t : TypeId} (hb : w.heap[b]? = some (.cells arr t (0,0))) (h : jk w b o (some A)) (hx : x < 1024) (he : ∀ i,i ≠ 8 + x -> A' i = A i) : jk (w.setCell ⟨b,o + 2 + x / 64,none⟩ (.int .u64 ((jh (fun j => A' (8 + 64 * (x / 64) + j)) 64 : Nat) : Int))) b o (some A') := fun q hq => by
 rw [jbK hb (h.word hx),h q hq]
 by_cases e : q = 2 + x / 64
 ·subst e
  rw [if_pos (by omega)]
  simp only [cv,if_neg (show ¬ 2 + x / 64 = 0 by omega),if_neg (show ¬ 2 + x / 64 = 1 by omega),Nat.add_sub_cancel_left]
 ·rw [if_neg (by omega)]
  by_cases e0 : q = 0
  ·subst e0;rfl
  ·by_cases e1 : q = 1
   ·subst e1
    simp only [cv,if_neg (show ¬ 1 = 0 by omega),if_true]
    rw [JA (p := A) (q := A') (fun j _ => (he _ (by omega)).symm)]
   ·simp only [cv,if_neg e0,if_neg e1]
    rw [JA (p := fun j => A (8 + 64 * (q - 2) + j)) (q := fun j => A' (8 + 64 * (q - 2) + j)) (fun j _ => (he _ (by omega)).symm)]
theorem jmn {l : List Nat} {A : Pl} (h : ∀ x ∈ l,x < 8) : (bits BinOp.andNot IntKind.i64 ((mkR l : Nat) : Int) ((jh A 8 : Nat) : Int) == 0) = l.all A := by
 have h1 := jbG l
 have h2 := JK A 8
 rw [jjI _ _ (by omega) (by omega),Bool.eq_iff_iff]
 have h3 := jiC (fun i => l.contains i) A 8 64 (by omega)
 simp only [beq_iff_eq]
 rw [show ((mkR l &&& (2 ^ 64 - 1 - jh A 8) : Nat) : Int) = 0 ↔ (mkR l &&& (2 ^ 64 - 1 - jh A 8)) = 0 by omega]
 refine h3.trans ?_
 rw [List.all_eq_true]
 exact ⟨fun h' x hx => h' x (h x hx) (by simpa using hx),fun h' i _ hi => h' i (by simpa using hi)⟩
theorem jhN (hr : bad (jt s) (hF s) 0 = none) {k pc : Nat} (h : Wl s k pc) (h34 : l0 s pc ≠ 3 /\ l0 s pc ≠ 4) : ∀ x ∈ rdL s pc,x < 8 := by
 unfold rdL
 have h0 := h.f0
 have h1 := h.f1
 have h2 := h.f2
 have h3 := h.op1
 have h4 := h.op2
 generalize l0 s pc = op at *
 generalize l1 s pc = r at *
 generalize l2 s pc = x at *
 generalize l3 s pc = y at *
 intro z hz
 unfold rdO at hz
 have hc : op = 1 \/ op = 2 \/ op = 5 \/ op = 6 \/ op = 7 \/ op = 8 \/ op = 9 \/ op = 10 \/ op = 11 \/ op = 12 \/ op = 13 \/ op = 14 \/ op = 15 \/ op = 16 \/ op = 17 \/ op = 18 \/ op = 19 \/ op = 20 \/ op = 21 \/ op = 22 \/ op = 23 \/ op = 24 \/ op = 25 \/ op = 26 \/ op = 27 \/ op = 28 \/ op = 29 \/ op = 30 \/ op = 31 \/ op = 32 \/ op = 33 := by omega
 rcases hc with rfl | rfl | rfl | rfl | rfl | rfl | rfl | rfl | rfl | rfl | rfl | rfl | rfl | rfl | rfl | rfl | rfl | rfl | rfl | rfl | rfl | rfl | rfl | rfl | rfl | rfl | rfl | rfl | rfl | rfl | rfl
 all_goals simp [jo,ruN,rul] at h0 h1 h2 hz
 all_goals first
  | omega
  | exact jb5 hr h1 z hz
set_option maxRecDepth 100000 in
theorem jiB {B f first k pc b o : Nat} {A : Pl} {aF aN aL : Option Addr} {nF cFc nN cNc nL cLc : Nat} {vR : Value} {R : Bool} (hcd : jU s w B (.slice aF nF cFc) (.slice aN nN cNc) (.slice aL nL cLc)) (hrow : bad (jt s) (hF s) 0 = none) (hk : k < hF s) (hf : w.heap[f]? = some (JL (.slice aF nF cFc) (.slice aN nN cNc) (.slice aL nL cLc) first vR)) (hw : Wl s k pc) (hA : jk w b o (some A)) (hb : b < w.heap.size) (hR : (rdL s pc).all A = R) :
 Calls Tryz.prog 95 #[.pointer (some ⟨f,0,none⟩),.agg #[.int .i64 (l0 s pc),.int .i64 (l1 s pc),.int .i64 (l2 s pc),.int .i64 (l3 s pc),.int .i64 (l4 s pc)],.pointer (some ⟨b,o,none⟩)] w fun e w' => e = .returned (.bool R) /\ Below w.heap.size w w' := by
 have HB : Hid (∀ o : Obj,Below w.heap.size w (w.alloc o)) := fun o => jB.alloc jN _
 have hlt := lt_of_block hf
 by_cases h34 : l0 s pc = 3 \/ l0 s pc = 4
 ·have hx : l2 s pc < 1024 := by
   have h1 := hw.f1
   have h2 := (j7 hrow hk).2.2.1
   have : l2 s pc < r3 s k := by rcases h34 with e | e <;> rw [e] at h1 <;> simpa [jo,ruN,rul] using h1
   omega
  have hRx : decide (jh (fun j => A (8 + 64 * (l2 s pc / 64) + j)) 64 / 2 ^ (l2 s pc % 64) % 2 = 1) = R := by
   rw [jiD _ (by omega),<- hR]
   have e : rdL s pc = [8 + l2 s pc] := by unfold rdL rdO;rw [if_pos h34]
   rw [e,show 8 + 64 * (l2 s pc / 64) + l2 s pc % 64 = 8 + l2 s pc by omega]
   cases hAx : A (8 + l2 s pc) <;> simp [hAx]
  have C : Hid (∀ ob : Obj,Calls Tryz.prog 113 #[.pointer (some ⟨b,o,none⟩),.int .i64 (l2 s pc)] (w.alloc ob) fun e w' => e = .returned (.bool R) /\ w' = w.alloc ob) := fun ob => jjS hx (JK _ 64) ((hA.on (HB.out ob) hb).word hx) hRx
  clear hRx hR hcd hrow hf hw hA
  generalize (l1 s pc : Int) = q1 at *
  generalize (l2 s pc : Int) = q2 at *
  generalize (l3 s pc : Int) = q3 at *
  generalize (l4 s pc : Int) = q4 at *
  rcases h34 with h34 | h34
  all_goals
   rw [h34]
   go_enter Tryz.func95,Tryz.ntmps95
   go_wp2_with (go_at_call 113;refine (C.out _).mono ?_;rintro _ w1 ⟨rfl,hw1⟩;have hw2 := hw1.symm;subst hw2)
   go_ret
   exact ⟨rfl,HB.out _⟩
 ·have h3 : ((l0 s pc : Int) == 3) = false := by simp;omega
  have h4 : ((l0 s pc : Int) == 4) = false := by simp;omega
  have hbits : (bits BinOp.andNot IntKind.i64 ((mkR (rdL s pc) : Nat) : Int) ((jh A 8 : Nat) : Int) == 0) = R := by
   rw [jmn (jhN hrow hw (by omega))];exact hR
  have HBZ : Hid (∀ (ob : Obj) (x : Wd (w.alloc ob).heap.size (w.alloc ob)),Below w.heap.size w x.v) := fun ob x => (HB.out ob).trans (x.h.mono (by rw [World.size_alloc];omega))
  have C : Hid (∀ (ob : Obj) (x : Wd (w.alloc ob).heap.size (w.alloc ob)),Calls Tryz.prog 114 #[.pointer (some ⟨f,0,none⟩),.agg #[.int .i64 (l0 s pc),.int .i64 (l1 s pc),.int .i64 (l2 s pc),.int .i64 (l3 s pc),.int .i64 (l4 s pc)]] x.v fun e w' => e = .returned (.int .i64 ((mkR (rdL s pc) : Nat) : Int)) /\ Below x.v.heap.size x.v w') := fun ob x => jhH (hcd.on (HBZ.out ob x)) hrow (jc hf (HBZ.out ob x) hlt) hw
  have u1 : ∀ (ob : Obj) (x : Wd (w.alloc ob).heap.size (w.alloc ob)),x.v.cell? ⟨b,o + 1,none⟩ = some (.int .i64 ((jh A 8 : Nat) : Int)) := fun ob x => hA.on (HBZ.out ob x) hb 1 (by omega)
  clear hR hcd hrow hf hw hA h34
  generalize mkR (rdL s pc) = M at *
  generalize jh A 8 = MA at *
  generalize (l0 s pc : Int) = q0 at *
  generalize (l1 s pc : Int) = q1 at *
  generalize (l2 s pc : Int) = q2 at *
  generalize (l3 s pc : Int) = q3 at *
  generalize (l4 s pc : Int) = q4 at *
  have hl1 : w.heap.size < (w.alloc (.cells #[.int .i64 q0,.int .i64 q1,.int .i64 q2,.int .i64 q3,.int .i64 q4] 116 (0,0))).heap.size := by rw [World.size_alloc];omega
  have v0 : ∀ z : Wd (w.alloc (.cells #[.int .i64 q0,.int .i64 q1,.int .i64 q2,.int .i64 q3,.int .i64 q4] 116 (0,0))).heap.size (w.alloc (.cells #[.int .i64 q0,.int .i64 q1,.int .i64 q2,.int .i64 q3,.int .i64 q4] 116 (0,0))),z.v.cell? ⟨w.heap.size,0,none⟩ = some (.int .i64 q0) := fun z => Wd.at (jg w _) hl1 0 rfl z
  have v1 : ∀ z : Wd (w.alloc (.cells #[.int .i64 q0,.int .i64 q1,.int .i64 q2,.int .i64 q3,.int .i64 q4] 116 (0,0))).heap.size (w.alloc (.cells #[.int .i64 q0,.int .i64 q1,.int .i64 q2,.int .i64 q3,.int .i64 q4] 116 (0,0))),z.v.cell? ⟨w.heap.size,1,none⟩ = some (.int .i64 q1) := fun z => Wd.at (jg w _) hl1 1 rfl z
  have v2 : ∀ z : Wd (w.alloc (.cells #[.int .i64 q0,.int .i64 q1,.int .i64 q2,.int .i64 q3,.int .i64 q4] 116 (0,0))).heap.size (w.alloc (.cells #[.int .i64 q0,.int .i64 q1,.int .i64 q2,.int .i64 q3,.int .i64 q4] 116 (0,0))),z.v.cell? ⟨w.heap.size,2,none⟩ = some (.int .i64 q2) := fun z => Wd.at (jg w _) hl1 2 rfl z
  have v3 : ∀ z : Wd (w.alloc (.cells #[.int .i64 q0,.int .i64 q1,.int .i64 q2,.int .i64 q3,.int .i64 q4] 116 (0,0))).heap.size (w.alloc (.cells #[.int .i64 q0,.int .i64 q1,.int .i64 q2,.int .i64 q3,.int .i64 q4] 116 (0,0))),z.v.cell? ⟨w.heap.size,3,none⟩ = some (.int .i64 q3) := fun z => Wd.at (jg w _) hl1 3 rfl z
  have v4 : ∀ z : Wd (w.alloc (.cells #[.int .i64 q0,.int .i64 q1,.int .i64 q2,.int .i64 q3,.int .i64 q4] 116 (0,0))).heap.size (w.alloc (.cells #[.int .i64 q0,.int .i64 q1,.int .i64 q2,.int .i64 q3,.int .i64 q4] 116 (0,0))),z.v.cell? ⟨w.heap.size,4,none⟩ = some (.int .i64 q4) := fun z => Wd.at (jg w _) hl1 4 rfl z
  clear hl1
  haveI := Wd.ne
  go_enter Tryz.func95,Tryz.ntmps95
  go_wp2_with fail
  refine jY (by kernel_rfl) (by kernel_rfl) ?_
  repeat (go_big_quiet_step ((go_at_call 114;exact jI jN (C.out _ _))))
  refine wpQuiet_nil ?_
  intro z
  go_wp2_with fail
  go_ret
  exact ⟨rfl,HBZ.out _ z⟩
def afO (op r x : Nat) (A : Pl) : Pl := fun i => lyO op r x i || (A i && !loO op x i)
theorem jmO (s : ByteArray) (k i : Nat) (A : Pl) : (fnS s k).aft i A = afO (l0 s (r0 s k + i)) (l1 s (r0 s k + i)) (l2 s (r0 s k + i)) A := rfl
theorem jk.congr {b o : Nat} {A A' : Pl} (h : jk w b o (some A)) (he : A = A') : jk w b o (some A') := he ▸ h
theorem Ch.size {b o : Nat} {w w1 : World} (h : Ch b o w w1) : w.heap.size <= w1.heap.size := h.lone.size
set_option maxRecDepth 100000 in
theorem jgK {op r x y p b o : Nat} {A : Pl} {arr : Array Value} {t : TypeId} (hb : w.heap[b]? = some (.cells arr t (0,0))) (hA : jk w b o (some A)) (hop : op = 17 \/ op = 18 \/ op = 21 \/ op = 25 \/ op = 27 \/ op = 31 \/ op = 32 \/ op = 33) :
 Calls Tryz.prog 96 #[.pointer (some ⟨b,o,none⟩),.agg #[.int .i64 op,.int .i64 r,.int .i64 x,.int .i64 y,.int .i64 p]] w fun e w' => e = .returned (.tuple #[]) /\ jk w' b o (some (afO op r x A)) /\ Ch b o w w' := by
 have HB : Hid (∀ ob : Obj,Below w.heap.size w (w.alloc ob)) := fun ob => jB.alloc jN _
 have hlt := lt_of_block hb
 have HBK : Hid (∀ ob : Obj,(w.alloc ob).heap[b]? = some (.cells arr t (0,0))) := fun ob => (Below.heap_alloc w ob _ hlt).trans hb
 have HAK : Hid (∀ ob : Obj,jk (w.alloc ob) b o (some A)) := fun ob => hA.on (HB.out ob) hlt
 have HCK : Hid (∀ ob : Obj,Ch b o w (w.alloc ob)) := fun ob => Ch.of (HB.out ob) hlt
 have HE : Hid (A = afO op r x A) := by
  show _ = _
  funext i
  rcases hop with rfl | rfl | rfl | rfl | rfl | rfl | rfl | rfl <;> simp [afO,lyO,loO]
 generalize afO op r x A = A' at *
 clear hb hA
 rcases hop with rfl | rfl | rfl | rfl | rfl | rfl | rfl | rfl
 all_goals
  go_enter Tryz.func96,Tryz.ntmps96
  go_wp2_with fail
  go_returns
  exact ⟨rfl,(HAK.out _).congr HE.out,HCK.out _⟩
set_option maxRecDepth 100000 in
theorem jgI {op r x y p b o : Nat} {A : Pl} {arr : Array Value} {t : TypeId} (hb : w.heap[b]? = some (.cells arr t (0,0))) (hA : jk w b o (some A)) (hop : op = 5) (hx : x < 1024) :
 Calls Tryz.prog 96 #[.pointer (some ⟨b,o,none⟩),.agg #[.int .i64 op,.int .i64 r,.int .i64 x,.int .i64 y,.int .i64 p]] w fun e w' => e = .returned (.tuple #[]) /\ jk w' b o (some (afO op r x A)) /\ Ch b o w w' := by
 have HB : Hid (∀ ob : Obj,Below w.heap.size w (w.alloc ob)) := fun ob => jB.alloc jN _
 have hlt := lt_of_block hb
 have HBK : Hid (∀ ob : Obj,(w.alloc ob).heap[b]? = some (.cells arr t (0,0))) := fun ob => (Below.heap_alloc w ob _ hlt).trans hb
 have HAK : Hid (∀ ob : Obj,jk (w.alloc ob) b o (some A)) := fun ob => hA.on (HB.out ob) hlt
 have HCK : Hid (∀ ob : Obj,Ch b o w (w.alloc ob)) := fun ob => Ch.of (HB.out ob) hlt
 have HV : Hid ((jh (fun j => A (8 + 64 * (x / 64) + j)) 64 ||| 2 ^ (x % 64)) = jh (fun j => afO op r x A (8 + 64 * (x / 64) + j)) 64) := by
  show _ = _
  rw [jbI (show x % 64 < 64 by omega),jbH]
  apply JA
  intro j hj
  rw [hop]
  by_cases e : j = x % 64
  ·have e2 : 8 + 64 * (x / 64) + j = 8 + x := by omega
   simp [afO,lyO,loO,e,show 8 + 64 * (x / 64) + x % 64 = 8 + x by omega]
  ·have e2 : ¬ 8 + 64 * (x / 64) + j = 8 + x := by omega
   have e3 : (j == x % 64) = false := by rw [beq_eq_false_iff_ne];exact e
   have e4 : (8 + 64 * (x / 64) + j == 8 + x) = false := by rw [beq_eq_false_iff_ne];exact e2
   simp [afO,lyO,loO,e3,e4]
 have HN : Hid (∀ i,i ≠ 8 + x -> afO op r x A i = A i) := fun i hi => by
  rw [hop];simp [afO,lyO,loO,hi]
 have C : Hid (∀ ob : Obj,Calls Tryz.prog 116 #[.pointer (some ⟨b,o,none⟩),.int .i64 x] (w.alloc ob) fun e w' => e = .returned (.tuple #[]) /\ jk w' b o (some (afO op r x A)) /\ Ch b o w w') := fun ob => by
  refine (jjt hx (JK _ 64) ((HAK.out ob).word hx) (je (HBK.out ob) _)).mono ?_
  rintro e w' ⟨rfl,rfl⟩
  refine ⟨rfl,?_,((HCK.out ob).set _ _ (by omega) (by omega)).drew⟩
  rw [HV.out]
  exact jk.slot (HBK.out ob) (HAK.out ob) hx HN.out
 generalize afO op r x A = A' at *
 clear hb hA
 subst hop
 go_enter Tryz.func96,Tryz.ntmps96
 go_wp2_with (go_at_call 116;refine (C.out _).mono ?_;rintro _ w1 ⟨rfl,hA1,hC1⟩)
 go_returns
 exact ⟨rfl,hA1,hC1⟩
set_option maxRecDepth 100000 in
theorem jgM {op r x y p b o : Nat} {A : Pl} {arr : Array Value} {t : TypeId} (hb : w.heap[b]? = some (.cells arr t (0,0))) (hA : jk w b o (some A)) (hop : op = 6) (hx : x < 1024) :
 Calls Tryz.prog 96 #[.pointer (some ⟨b,o,none⟩),.agg #[.int .i64 op,.int .i64 r,.int .i64 x,.int .i64 y,.int .i64 p]] w fun e w' => e = .returned (.tuple #[]) /\ jk w' b o (some (afO op r x A)) /\ Ch b o w w' := by
 have HB : Hid (∀ ob : Obj,Below w.heap.size w (w.alloc ob)) := fun ob => jB.alloc jN _
 have hlt := lt_of_block hb
 have HBK : Hid (∀ ob : Obj,(w.alloc ob).heap[b]? = some (.cells arr t (0,0))) := fun ob => (Below.heap_alloc w ob _ hlt).trans hb
 have HAK : Hid (∀ ob : Obj,jk (w.alloc ob) b o (some A)) := fun ob => hA.on (HB.out ob) hlt
 have HCK : Hid (∀ ob : Obj,Ch b o w (w.alloc ob)) := fun ob => Ch.of (HB.out ob) hlt
 have HV : Hid ((jh (fun j => A (8 + 64 * (x / 64) + j)) 64 &&& (18446744073709551615 - 2 ^ (x % 64))) = jh (fun j => afO op r x A (8 + 64 * (x / 64) + j)) 64) := by
  show _ = _
  rw [jbI (show x % 64 < 64 by omega),show 18446744073709551615 = 2 ^ 64 - 1 from rfl,jeK]
  apply JA
  intro j hj
  rw [hop]
  by_cases e : j = x % 64
  ·simp [afO,lyO,loO,e,show 8 + 64 * (x / 64) + x % 64 = 8 + x by omega]
  ·have e2 : ¬ 8 + 64 * (x / 64) + j = 8 + x := by omega
   have e3 : (j == x % 64) = false := by rw [beq_eq_false_iff_ne];exact e
   have e4 : (8 + 64 * (x / 64) + j == 8 + x) = false := by rw [beq_eq_false_iff_ne];exact e2
   simp [afO,lyO,loO,e3,e4]
 have HN : Hid (∀ i,i ≠ 8 + x -> afO op r x A i = A i) := fun i hi => by
  rw [hop];simp [afO,lyO,loO,hi]
 have C : Hid (∀ ob : Obj,Calls Tryz.prog 115 #[.pointer (some ⟨b,o,none⟩),.int .i64 x] (w.alloc ob) fun e w' => e = .returned (.tuple #[]) /\ jk w' b o (some (afO op r x A)) /\ Ch b o w w') := fun ob => by
  refine (jdP hx (JK _ 64) ((HAK.out ob).word hx) (je (HBK.out ob) _)).mono ?_
  rintro e w' ⟨rfl,rfl⟩
  refine ⟨rfl,?_,((HCK.out ob).set _ _ (by omega) (by omega)).drew⟩
  rw [HV.out]
  exact jk.slot (HBK.out ob) (HAK.out ob) hx HN.out
 generalize afO op r x A = A' at *
 clear hb hA
 subst hop
 go_enter Tryz.func96,Tryz.ntmps96
 go_wp2_with (go_at_call 115;refine (C.out _).mono ?_;rintro _ w1 ⟨rfl,hA1,hC1⟩)
 go_returns
 exact ⟨rfl,hA1,hC1⟩
set_option maxRecDepth 100000 in
theorem jgR {op r x y p b o : Nat} {A : Pl} {arr : Array Value} {t : TypeId} (hb : w.heap[b]? = some (.cells arr t (0,0))) (hA : jk w b o (some A)) (hop : op = 19 \/ op = 20 \/ op = 23) (hr : r < 8) :
 Calls Tryz.prog 96 #[.pointer (some ⟨b,o,none⟩),.agg #[.int .i64 op,.int .i64 r,.int .i64 x,.int .i64 y,.int .i64 p]] w fun e w' => e = .returned (.tuple #[]) /\ jk w' b o (some (afO op r x A)) /\ Ch b o w w' := by
 have HB : Hid (∀ ob : Obj,Below w.heap.size w (w.alloc ob)) := fun ob => jB.alloc jN _
 have hlt := lt_of_block hb
 have HBK : Hid (∀ ob : Obj,(w.alloc ob).heap[b]? = some (.cells arr t (0,0))) := fun ob => (Below.heap_alloc w ob _ hlt).trans hb
 have HAK : Hid (∀ ob : Obj,jk (w.alloc ob) b o (some A)) := fun ob => hA.on (HB.out ob) hlt
 have HCK : Hid (∀ ob : Obj,Ch b o w (w.alloc ob)) := fun ob => Ch.of (HB.out ob) hlt
 have HV : Hid (mkR [r] = jh (afO op r x A) 8) := by
  show _ = _
  apply JA
  intro i hi
  rw [Bool.eq_iff_iff]
  rcases hop with rfl | rfl | rfl <;> simp [afO,lyO,loO,hi]
 have HN : Hid (∀ i,8 <= i -> afO op r x A i = A i) := fun i hi => by
  have : ¬ i = r := by omega
  have h8 : ¬ i < 8 := by omega
  rcases hop with rfl | rfl | rfl <;> simp [afO,lyO,loO,this,h8]
 have C : Hid (∀ W,Calls Tryz.prog 112 #[.int .i64 r] W fun e w' => e = .returned (.int .i64 ((mkR [r] : Nat) : Int)) /\ w' = W) := fun W => Jy hr _ rfl W
 have k0 : w.cell? ⟨b,o + 1,none⟩ = some (.int .i64 ((jh A 8 : Nat) : Int)) := hA 1 (by omega)
 have k1 : ∀ ob : Obj,(w.alloc ob).cell? ⟨b,o + 1,none⟩ = some (.int .i64 ((jh A 8 : Nat) : Int)) := fun ob => HAK.out ob 1 (by omega)
 have f1 : ∀ ob : Obj,(w.alloc ob).frozen? ⟨b,o + 1,none⟩ = false := fun ob => je (HBK.out ob) _
 have HF : Hid (∀ ob : Obj,jk ((w.setCell ⟨b,o + 1,none⟩ (.int .i64 ((mkR [r] : Nat) : Int))).alloc ob) b o (some (afO op r x A)) /\ Ch b o w ((w.setCell ⟨b,o + 1,none⟩ (.int .i64 ((mkR [r] : Nat) : Int))).alloc ob)) := fun ob => by
  rw [HV.out]
  have hl' : b < (w.setCell ⟨b,o + 1,none⟩ (.int .i64 ((jh (afO op r x A) 8 : Nat) : Int))).heap.size := by rw [jy];exact hlt
  have hB' : Below (w.setCell ⟨b,o + 1,none⟩ (.int .i64 ((jh (afO op r x A) 8 : Nat) : Int))).heap.size (w.setCell ⟨b,o + 1,none⟩ (.int .i64 ((jh (afO op r x A) 8 : Nat) : Int))) ((w.setCell ⟨b,o + 1,none⟩ (.int .i64 ((jh (afO op r x A) 8 : Nat) : Int))).alloc ob) := jB.alloc jN _
  exact ⟨(jk.reg hb hA HN.out).on hB' hl',((Ch.refl b o w).set _ _ (by omega) (by omega)).trans (Ch.of hB' hl')⟩
 generalize afO op r x A = A' at *
 generalize mkR [r] = M at *
 generalize jh A 8 = MA at *
 clear hb hA
 rcases hop with rfl | rfl | rfl
 all_goals
  go_enter Tryz.func96,Tryz.ntmps96
  go_wp2_with (go_at_call 112;refine (C.out _).mono ?_;rintro _ w1 ⟨rfl,hw1⟩;have hw2 := hw1.symm;subst hw2)
  go_returns
  exact ⟨rfl,HF.out _⟩
set_option maxRecDepth 100000 in
theorem jgN {op r x y p b o : Nat} {A : Pl} {arr : Array Value} {t : TypeId} (hb : w.heap[b]? = some (.cells arr t (0,0))) (hA : jk w b o (some A)) (hop : op = 29 \/ op = 30) :
 Calls Tryz.prog 96 #[.pointer (some ⟨b,o,none⟩),.agg #[.int .i64 op,.int .i64 r,.int .i64 x,.int .i64 y,.int .i64 p]] w fun e w' => e = .returned (.tuple #[]) /\ jk w' b o (some (afO op r x A)) /\ Ch b o w w' := by
 have HB : Hid (∀ ob : Obj,Below w.heap.size w (w.alloc ob)) := fun ob => jB.alloc jN _
 have hlt := lt_of_block hb
 have HBK : Hid (∀ ob : Obj,(w.alloc ob).heap[b]? = some (.cells arr t (0,0))) := fun ob => (Below.heap_alloc w ob _ hlt).trans hb
 have HAK : Hid (∀ ob : Obj,jk (w.alloc ob) b o (some A)) := fun ob => hA.on (HB.out ob) hlt
 have HCK : Hid (∀ ob : Obj,Ch b o w (w.alloc ob)) := fun ob => Ch.of (HB.out ob) hlt
 have HV : Hid (mkR [0] = jh (afO op r x A) 8) := by
  show _ = _
  apply JA
  intro i hi
  rw [Bool.eq_iff_iff]
  rcases hop with rfl | rfl <;> simp [afO,lyO,loO,hi]
 have HN : Hid (∀ i,8 <= i -> afO op r x A i = A i) := fun i hi => by
  have : ¬ i = 0 := by omega
  have h8 : ¬ i < 8 := by omega
  rcases hop with rfl | rfl <;> simp [afO,lyO,loO,this,h8]
 have C : Hid (∀ (z : Int) W,z = 0 -> Calls Tryz.prog 112 #[.int .i64 z] W fun e w' => e = .returned (.int .i64 ((mkR [0] : Nat) : Int)) /\ w' = W) := fun z W hz => Jy (x := 0) (by omega) z hz W
 have k0 : w.cell? ⟨b,o + 1,none⟩ = some (.int .i64 ((jh A 8 : Nat) : Int)) := hA 1 (by omega)
 have k1 : ∀ ob : Obj,(w.alloc ob).cell? ⟨b,o + 1,none⟩ = some (.int .i64 ((jh A 8 : Nat) : Int)) := fun ob => HAK.out ob 1 (by omega)
 have f1 : ∀ ob : Obj,(w.alloc ob).frozen? ⟨b,o + 1,none⟩ = false := fun ob => je (HBK.out ob) _
 have HF : Hid (∀ ob : Obj,jk ((w.setCell ⟨b,o + 1,none⟩ (.int .i64 ((mkR [0] : Nat) : Int))).alloc ob) b o (some (afO op r x A)) /\ Ch b o w ((w.setCell ⟨b,o + 1,none⟩ (.int .i64 ((mkR [0] : Nat) : Int))).alloc ob)) := fun ob => by
  rw [HV.out]
  have hl' : b < (w.setCell ⟨b,o + 1,none⟩ (.int .i64 ((jh (afO op r x A) 8 : Nat) : Int))).heap.size := by rw [jy];exact hlt
  have hB' : Below (w.setCell ⟨b,o + 1,none⟩ (.int .i64 ((jh (afO op r x A) 8 : Nat) : Int))).heap.size (w.setCell ⟨b,o + 1,none⟩ (.int .i64 ((jh (afO op r x A) 8 : Nat) : Int))) ((w.setCell ⟨b,o + 1,none⟩ (.int .i64 ((jh (afO op r x A) 8 : Nat) : Int))).alloc ob) := jB.alloc jN _
  exact ⟨(jk.reg hb hA HN.out).on hB' hl',((Ch.refl b o w).set _ _ (by omega) (by omega)).trans (Ch.of hB' hl')⟩
 generalize afO op r x A = A' at *
 generalize mkR [0] = M at *
 generalize jh A 8 = MA at *
 clear hb hA
 rcases hop with rfl | rfl
 all_goals
  go_enter Tryz.func96,Tryz.ntmps96
  go_wp2_with (go_at_call 112;refine (C.out _ _ rfl).mono ?_;rintro _ w1 ⟨rfl,hw1⟩;have hw2 := hw1.symm;subst hw2)
  go_returns
  exact ⟨rfl,HF.out _⟩
end Go.Proofs.YtjmgolahkgalbaaGreatDoor
