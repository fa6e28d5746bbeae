import Derived.Test.YtjmgolahkgalbaaGreatDoorS15
import Derived.Test.YtjmgolahkgalbaaGreatDoorS20
set_option linter.unusedVariables false
set_option linter.unusedSimpArgs false
set_option maxHeartbeats 20000000
namespace Go.Proofs.YtjmgolahkgalbaaGreatDoor
open Go.RowKit Li
set_option maxRecDepth 100000 in
theorem jjA {w : World} {slots pc end' F N L cF' cN' cL' : Nat} {aF aN aL : Option Addr} {op q1 q2 q3 q4 : Nat} {S : ByteArray} {z0 z1 z2 z3 : Int} {e0 e1 e2 e3 : Nat}
 (hS : S.size = 4) (t0 : (S[0].toNat : Int) = z0) (t1 : (S[1].toNat : Int) = z1) (t2 : (S[2].toNat : Int) = z2) (t3 : (S[3].toNat : Int) = z3) (hb0 : z0 = ltr e0) (hb1 : z1 = ltr e1) (hb2 : z2 = ltr e2) (hb3 : z3 = ltr e3) (he0 : e0 < 8) (he1 : e1 < 8) (he2 : e2 < 8) (he3 : e3 < 8)
 (hop : op < 34) (hpe : pc < end') (he : end' < 65537)
 (CL : Hid (∀ o : Obj,Calls Tryz.prog 50 #[.agg #[.slice aF F cF',.slice aN N cN',.slice aL L cL'],.int .i64 pc] (w.alloc o) fun e w' => e = .returned (.agg #[.int .i64 op,.int .i64 q1,.int .i64 q2,.int .i64 q3,.int .i64 q4]) /\ Below (w.alloc o).heap.size (w.alloc o) w'))
 (hnl : (pc + 1 = end' -> jx op = true)) (HLF : Hid (∀ w',Below w.heap.size w w' -> w'.cell? ⟨0,op,none⟩ = some (.string S)))
 {Q0 Q1 Q2 Q3 : Bool} (h0 : jo F N q1 e0 pc slots end' = Q0) (h1 : jo F N q2 e1 pc slots end' = Q1) (h2 : jo F N q3 e2 pc slots end' = Q2) (h3 : jo F N q4 e3 pc slots end' = Q3) :
 Calls Tryz.prog 68 #[.agg #[.slice aF F cF',.slice aN N cN',.slice aL L cL',.int .i64 slots,.int .i64 pc,.int .i64 end']] w fun e w' => e = .returned (.bool (Q0 && (Q1 && (Q2 && Q3)))) /\ Below w.heap.size w w' := by
 have CF : ∀ (v r : Nat) (R : Bool) (z : Int) (W : World),r < 8 -> jo F N v r pc slots end' = R -> z = (ltr r : Nat) -> Calls Tryz.prog 92 #[.agg #[.slice aF F cF',.slice aN N cN',.slice aL L cL',.int .i64 slots,.int .i64 pc,.int .i64 end'],.int .u8 z,.int .i64 v] W fun e w' => e = .returned (.bool R) /\ Below W.heap.size W w' := fun v r R z W hr hR hz => by rw [hz];exact jlU hr hR
 have C0 := jH (fun W => CF q1 e0 Q0 z0 W he0 h0 hb0)
 have C1 := jH (fun W => CF q2 e1 Q1 z1 W he1 h1 hb1)
 have C2 := jH (fun W => CF q3 e2 Q2 z2 W he2 h2 hb2)
 have C3 := jH (fun W => CF q4 e3 Q3 z3 W he3 h3 hb3)
 have CG : Hid (∀ W : World,Calls Tryz.prog 91 #[.int .i64 op] W fun e w' => e = .returned (.bool (!jx op)) /\ w' = W) := fun W => jcq
 have g2 : decide ((34 : Int) <= (op : Int)) = false := by simp;omega
 have g3 : decide ((op : Int) < 0) = false := by simp
 clear CF hb0 hb1 hb2 hb3 he0 he1 he2 he3 h0 h1 h2 h3
 have hQ : Q0 = false \/ (Q0 = true /\ Q1 = false) \/ (Q0 = true /\ Q1 = true /\ Q2 = false) \/ (Q0 = true /\ Q1 = true /\ Q2 = true) := by
  cases Q0 <;> cases Q1 <;> cases Q2 <;> simp
 by_cases hlast : pc + 1 = end'
 ·have hov := hnl hlast
  rw [hov] at CG
  have g1 : ((pc : Int) == (end' : Int) - 1) = true := by simp;omega
  clear hnl hov
  rcases hQ with rfl | ⟨rfl,rfl⟩ | ⟨rfl,rfl,rfl⟩ | ⟨rfl,rfl,rfl⟩
  all_goals
   go_enter Tryz.func68,Tryz.ntmps68
   go_wp2_with (first
    | (go_at_call 50;refine (CL.out _).mono ?_;rintro _ w1 ⟨rfl,hb1⟩;have hs1 := Nat.le_trans (by rw [World.size_alloc];omega : w.heap.size + 1 <= (w.alloc _).heap.size) hb1.size;have hbox := jc (jg w _) hb1 (by rw [World.size_alloc];omega);have k2 : ∀ o : Obj,(w1.alloc o).cell? ⟨w.heap.size,4,none⟩ = some (.int .i64 pc) := jT hbox 4 rfl;have k3 : ∀ o : Obj,(w1.alloc o).cell? ⟨w.heap.size,5,none⟩ = some (.int .i64 end') := jT hbox 5 rfl;have HB1 : Hid (∀ o : Obj,Below w.heap.size w (w1.alloc o)) := (fun o => ((jB.alloc jN _).trans (hb1.mono (by rw [World.size_alloc];omega))).alloc (by omega) _);have kf : ∀ o : Obj,(w1.alloc o).cell? ⟨0,op,none⟩ = some (.string S) := (fun o => HLF.out _ (HB1.out o));have HBX := jH hbox)
    | (go_at_call 91;refine (CG.out _).mono ?_;rintro _ w3 ⟨rfl,hw3⟩;have hw4 := hw3.symm;subst hw4))
   have hW0 : ∀ o : Obj,(w1.alloc o).heap[w.heap.size]? = some (.cells #[.slice aF F cF',.slice aN N cN',.slice aL L cL',.int .i64 slots,.int .i64 pc,.int .i64 end'] 129 (0,0)) := fun o => (Below.heap_alloc w1 o _ (by omega)).trans HBX.out
   have hlt0 : ∀ o : Obj,w.heap.size < (w1.alloc o).heap.size := fun o => by rw [World.size_alloc];omega
   have hlt1 : ∀ o : Obj,w1.heap.size < (w1.alloc o).heap.size := fun o => by rw [World.size_alloc];omega
   have u0 : ∀ (o : Obj) (x : Wd (w1.alloc o).heap.size (w1.alloc o)),x.v.cell? ⟨w.heap.size,0,none⟩ = some (.slice aF F cF') := fun o x => Wd.at (hW0 o) (hlt0 o) 0 rfl x
   have u1 : ∀ (o : Obj) (x : Wd (w1.alloc o).heap.size (w1.alloc o)),x.v.cell? ⟨w.heap.size,1,none⟩ = some (.slice aN N cN') := fun o x => Wd.at (hW0 o) (hlt0 o) 1 rfl x
   have u2 : ∀ (o : Obj) (x : Wd (w1.alloc o).heap.size (w1.alloc o)),x.v.cell? ⟨w.heap.size,2,none⟩ = some (.slice aL L cL') := fun o x => Wd.at (hW0 o) (hlt0 o) 2 rfl x
   have u3 : ∀ (o : Obj) (x : Wd (w1.alloc o).heap.size (w1.alloc o)),x.v.cell? ⟨w.heap.size,3,none⟩ = some (.int .i64 slots) := fun o x => Wd.at (hW0 o) (hlt0 o) 3 rfl x
   have u4 : ∀ (o : Obj) (x : Wd (w1.alloc o).heap.size (w1.alloc o)),x.v.cell? ⟨w.heap.size,4,none⟩ = some (.int .i64 pc) := fun o x => Wd.at (hW0 o) (hlt0 o) 4 rfl x
   have u5 : ∀ (o : Obj) (x : Wd (w1.alloc o).heap.size (w1.alloc o)),x.v.cell? ⟨w.heap.size,5,none⟩ = some (.int .i64 end') := fun o x => Wd.at (hW0 o) (hlt0 o) 5 rfl x
   have v0 : ∀ x : Wd (w1.alloc (Obj.cells #[.int .i64 op,.int .i64 q1,.int .i64 q2,.int .i64 q3,.int .i64 q4] 116 (0,0))).heap.size (w1.alloc (Obj.cells #[.int .i64 op,.int .i64 q1,.int .i64 q2,.int .i64 q3,.int .i64 q4] 116 (0,0))),x.v.cell? ⟨w1.heap.size,0,none⟩ = some (.int .i64 op) := fun x => Wd.at (jg w1 _) (hlt1 _) 0 rfl x
   have v1 : ∀ x : Wd (w1.alloc (Obj.cells #[.int .i64 op,.int .i64 q1,.int .i64 q2,.int .i64 q3,.int .i64 q4] 116 (0,0))).heap.size (w1.alloc (Obj.cells #[.int .i64 op,.int .i64 q1,.int .i64 q2,.int .i64 q3,.int .i64 q4] 116 (0,0))),x.v.cell? ⟨w1.heap.size,1,none⟩ = some (.int .i64 q1) := fun x => Wd.at (jg w1 _) (hlt1 _) 1 rfl x
   have v2 : ∀ x : Wd (w1.alloc (Obj.cells #[.int .i64 op,.int .i64 q1,.int .i64 q2,.int .i64 q3,.int .i64 q4] 116 (0,0))).heap.size (w1.alloc (Obj.cells #[.int .i64 op,.int .i64 q1,.int .i64 q2,.int .i64 q3,.int .i64 q4] 116 (0,0))),x.v.cell? ⟨w1.heap.size,2,none⟩ = some (.int .i64 q2) := fun x => Wd.at (jg w1 _) (hlt1 _) 2 rfl x
   have v3 : ∀ x : Wd (w1.alloc (Obj.cells #[.int .i64 op,.int .i64 q1,.int .i64 q2,.int .i64 q3,.int .i64 q4] 116 (0,0))).heap.size (w1.alloc (Obj.cells #[.int .i64 op,.int .i64 q1,.int .i64 q2,.int .i64 q3,.int .i64 q4] 116 (0,0))),x.v.cell? ⟨w1.heap.size,3,none⟩ = some (.int .i64 q3) := fun x => Wd.at (jg w1 _) (hlt1 _) 3 rfl x
   have v4 : ∀ x : Wd (w1.alloc (Obj.cells #[.int .i64 op,.int .i64 q1,.int .i64 q2,.int .i64 q3,.int .i64 q4] 116 (0,0))).heap.size (w1.alloc (Obj.cells #[.int .i64 op,.int .i64 q1,.int .i64 q2,.int .i64 q3,.int .i64 q4] 116 (0,0))),x.v.cell? ⟨w1.heap.size,4,none⟩ = some (.int .i64 q4) := fun x => Wd.at (jg w1 _) (hlt1 _) 4 rfl x
   have HBZ : Hid (∀ x : Wd (w1.alloc (Obj.cells #[.int .i64 op,.int .i64 q1,.int .i64 q2,.int .i64 q3,.int .i64 q4] 116 (0,0))).heap.size (w1.alloc (Obj.cells #[.int .i64 op,.int .i64 q1,.int .i64 q2,.int .i64 q3,.int .i64 q4] 116 (0,0))),Below w.heap.size w x.v) := fun x => (HB1.out _).trans (x.h.mono (Nat.le_of_lt (hlt0 _)))
   clear hW0 hlt0 hlt1 k2 k3 kf hbox hb1
   haveI := Wd.ne
   refine jY (by kernel_rfl) (by kernel_rfl) ?_
   repeat (go_big_quiet_step ((first | (go_at_call_of 92 z0;exact jI jN (C0.out _)) | (go_at_call_of 92 z1;exact jI jN (C1.out _)) | (go_at_call_of 92 z2;exact jI jN (C2.out _)) | (go_at_call_of 92 z3;exact jI jN (C3.out _)))))
   refine wpQuiet_nil ?_
   intro x
   go_wp2_with fail
   go_ret
   exact ⟨rfl,HBZ.out x⟩
 ·have g1 : ((pc : Int) == (end' : Int) - 1) = false := by simp;omega
  clear hnl
  rcases hQ with rfl | ⟨rfl,rfl⟩ | ⟨rfl,rfl,rfl⟩ | ⟨rfl,rfl,rfl⟩
  all_goals
   go_enter Tryz.func68,Tryz.ntmps68
   go_wp2_with (first
    | (go_at_call 50;refine (CL.out _).mono ?_;rintro _ w1 ⟨rfl,hb1⟩;have hs1 := Nat.le_trans (by rw [World.size_alloc];omega : w.heap.size + 1 <= (w.alloc _).heap.size) hb1.size;have hbox := jc (jg w _) hb1 (by rw [World.size_alloc];omega);have k2 : ∀ o : Obj,(w1.alloc o).cell? ⟨w.heap.size,4,none⟩ = some (.int .i64 pc) := jT hbox 4 rfl;have k3 : ∀ o : Obj,(w1.alloc o).cell? ⟨w.heap.size,5,none⟩ = some (.int .i64 end') := jT hbox 5 rfl;have HB1 : Hid (∀ o : Obj,Below w.heap.size w (w1.alloc o)) := (fun o => ((jB.alloc jN _).trans (hb1.mono (by rw [World.size_alloc];omega))).alloc (by omega) _);have kf : ∀ o : Obj,(w1.alloc o).cell? ⟨0,op,none⟩ = some (.string S) := (fun o => HLF.out _ (HB1.out o));have HBX := jH hbox)
    | (go_at_call 91;refine (CG.out _).mono ?_;rintro _ w3 ⟨rfl,hw3⟩;have hw4 := hw3.symm;subst hw4))
   have hW0 : ∀ o : Obj,(w1.alloc o).heap[w.heap.size]? = some (.cells #[.slice aF F cF',.slice aN N cN',.slice aL L cL',.int .i64 slots,.int .i64 pc,.int .i64 end'] 129 (0,0)) := fun o => (Below.heap_alloc w1 o _ (by omega)).trans HBX.out
   have hlt0 : ∀ o : Obj,w.heap.size < (w1.alloc o).heap.size := fun o => by rw [World.size_alloc];omega
   have hlt1 : ∀ o : Obj,w1.heap.size < (w1.alloc o).heap.size := fun o => by rw [World.size_alloc];omega
   have u0 : ∀ (o : Obj) (x : Wd (w1.alloc o).heap.size (w1.alloc o)),x.v.cell? ⟨w.heap.size,0,none⟩ = some (.slice aF F cF') := fun o x => Wd.at (hW0 o) (hlt0 o) 0 rfl x
   have u1 : ∀ (o : Obj) (x : Wd (w1.alloc o).heap.size (w1.alloc o)),x.v.cell? ⟨w.heap.size,1,none⟩ = some (.slice aN N cN') := fun o x => Wd.at (hW0 o) (hlt0 o) 1 rfl x
   have u2 : ∀ (o : Obj) (x : Wd (w1.alloc o).heap.size (w1.alloc o)),x.v.cell? ⟨w.heap.size,2,none⟩ = some (.slice aL L cL') := fun o x => Wd.at (hW0 o) (hlt0 o) 2 rfl x
   have u3 : ∀ (o : Obj) (x : Wd (w1.alloc o).heap.size (w1.alloc o)),x.v.cell? ⟨w.heap.size,3,none⟩ = some (.int .i64 slots) := fun o x => Wd.at (hW0 o) (hlt0 o) 3 rfl x
   have u4 : ∀ (o : Obj) (x : Wd (w1.alloc o).heap.size (w1.alloc o)),x.v.cell? ⟨w.heap.size,4,none⟩ = some (.int .i64 pc) := fun o x => Wd.at (hW0 o) (hlt0 o) 4 rfl x
   have u5 : ∀ (o : Obj) (x : Wd (w1.alloc o).heap.size (w1.alloc o)),x.v.cell? ⟨w.heap.size,5,none⟩ = some (.int .i64 end') := fun o x => Wd.at (hW0 o) (hlt0 o) 5 rfl x
   have v0 : ∀ x : Wd (w1.alloc (Obj.cells #[.int .i64 op,.int .i64 q1,.int .i64 q2,.int .i64 q3,.int .i64 q4] 116 (0,0))).heap.size (w1.alloc (Obj.cells #[.int .i64 op,.int .i64 q1,.int .i64 q2,.int .i64 q3,.int .i64 q4] 116 (0,0))),x.v.cell? ⟨w1.heap.size,0,none⟩ = some (.int .i64 op) := fun x => Wd.at (jg w1 _) (hlt1 _) 0 rfl x
   have v1 : ∀ x : Wd (w1.alloc (Obj.cells #[.int .i64 op,.int .i64 q1,.int .i64 q2,.int .i64 q3,.int .i64 q4] 116 (0,0))).heap.size (w1.alloc (Obj.cells #[.int .i64 op,.int .i64 q1,.int .i64 q2,.int .i64 q3,.int .i64 q4] 116 (0,0))),x.v.cell? ⟨w1.heap.size,1,none⟩ = some (.int .i64 q1) := fun x => Wd.at (jg w1 _) (hlt1 _) 1 rfl x
   have v2 : ∀ x : Wd (w1.alloc (Obj.cells #[.int .i64 op,.int .i64 q1,.int .i64 q2,.int .i64 q3,.int .i64 q4] 116 (0,0))).heap.size (w1.alloc (Obj.cells #[.int .i64 op,.int .i64 q1,.int .i64 q2,.int .i64 q3,.int .i64 q4] 116 (0,0))),x.v.cell? ⟨w1.heap.size,2,none⟩ = some (.int .i64 q2) := fun x => Wd.at (jg w1 _) (hlt1 _) 2 rfl x
   have v3 : ∀ x : Wd (w1.alloc (Obj.cells #[.int .i64 op,.int .i64 q1,.int .i64 q2,.int .i64 q3,.int .i64 q4] 116 (0,0))).heap.size (w1.alloc (Obj.cells #[.int .i64 op,.int .i64 q1,.int .i64 q2,.int .i64 q3,.int .i64 q4] 116 (0,0))),x.v.cell? ⟨w1.heap.size,3,none⟩ = some (.int .i64 q3) := fun x => Wd.at (jg w1 _) (hlt1 _) 3 rfl x
   have v4 : ∀ x : Wd (w1.alloc (Obj.cells #[.int .i64 op,.int .i64 q1,.int .i64 q2,.int .i64 q3,.int .i64 q4] 116 (0,0))).heap.size (w1.alloc (Obj.cells #[.int .i64 op,.int .i64 q1,.int .i64 q2,.int .i64 q3,.int .i64 q4] 116 (0,0))),x.v.cell? ⟨w1.heap.size,4,none⟩ = some (.int .i64 q4) := fun x => Wd.at (jg w1 _) (hlt1 _) 4 rfl x
   have HBZ : Hid (∀ x : Wd (w1.alloc (Obj.cells #[.int .i64 op,.int .i64 q1,.int .i64 q2,.int .i64 q3,.int .i64 q4] 116 (0,0))).heap.size (w1.alloc (Obj.cells #[.int .i64 op,.int .i64 q1,.int .i64 q2,.int .i64 q3,.int .i64 q4] 116 (0,0))),Below w.heap.size w x.v) := fun x => (HB1.out _).trans (x.h.mono (Nat.le_of_lt (hlt0 _)))
   clear hW0 hlt0 hlt1 k2 k3 kf hbox hb1
   haveI := Wd.ne
   refine jY (by kernel_rfl) (by kernel_rfl) ?_
   repeat (go_big_quiet_step ((first | (go_at_call_of 92 z0;exact jI jN (C0.out _)) | (go_at_call_of 92 z1;exact jI jN (C1.out _)) | (go_at_call_of 92 z2;exact jI jN (C2.out _)) | (go_at_call_of 92 z3;exact jI jN (C3.out _)))))
   refine wpQuiet_nil ?_
   intro x
   go_wp2_with fail
   go_ret
   exact ⟨rfl,HBZ.out x⟩
end Go.Proofs.YtjmgolahkgalbaaGreatDoor
