import Derived.Test.YtjmgolahkgalbaaGreatDoorS12
import Derived.Test.YtjmgolahkgalbaaGreatDoorS16
import Derived.BigQuiet
set_option linter.unusedVariables false
set_option linter.unusedSimpArgs false
set_option maxHeartbeats 20000000
namespace Go.Proofs.YtjmgolahkgalbaaGreatDoor
open Go.RowKit Li
variable {s : ByteArray} {w : World}
def fld (op : Nat) : List UInt8 := (rul.getD op []).map fun r => UInt8.ofNat (ltr r)
theorem jj7 : ∀ op : Fin 34,1 <= op.val -> ∃ b0 b1 b2 b3,fld op.val = [b0,b1,b2,b3] /\ b0.toNat = ltr (ruN op.val 0) /\ b1.toNat = ltr (ruN op.val 1) /\ b2.toNat = ltr (ruN op.val 2) /\ b3.toNat = ltr (ruN op.val 3) := by
 intro op h
 have key : ∀ op : Fin 34,1 <= op.val -> fld op.val = [UInt8.ofNat (ltr (ruN op.val 0)),UInt8.ofNat (ltr (ruN op.val 1)),UInt8.ofNat (ltr (ruN op.val 2)),UInt8.ofNat (ltr (ruN op.val 3))] := by decide
 have low : ∀ r : Fin 8,(UInt8.ofNat (ltr r.val)).toNat = ltr r.val := by decide
 exact ⟨_,_,_,_,key op h,low ⟨_,jap _ _⟩,low ⟨_,jap _ _⟩,low ⟨_,jap _ _⟩,low ⟨_,jap _ _⟩⟩
def Jc (B : Nat) (w : World) : Prop := ∀ w',Below B w w' -> ∀ i,i < 34 -> w'.cell? ⟨0,i,none⟩ = some (.string ⟨(fld i).toArray⟩)
theorem Jc.on {B : Nat} {w w1 : World} (h : Jc B w) (hb : Below B w w1) : Jc B w1 := fun w' h' => h w' (hb.trans h')
theorem Jc.less {B B' : Nat} (h : Jc B w) (hb : B <= B') : Jc B' w := fun w' h' => h w' (h'.mono hb)
theorem jdi {B pc : Nat} {aF aN aL : Option Addr} {nF cFc nN cNc nL cLc : Nat} (hcd : jU s w B (.slice aF nF cFc) (.slice aN nN cNc) (.slice aL nL cLc)) (hpc : pc < hL s) (W : World) (hW : Below w.heap.size w W) :
 Calls Tryz.prog 50 #[.agg #[.slice aF nF cFc,.slice aN nN cNc,.slice aL nL cLc],.int .i64 pc] W fun e w' => e = .returned (.agg #[.int .i64 (l0 s pc),.int .i64 (l1 s pc),.int .i64 (l2 s pc),.int .i64 (l3 s pc),.int .i64 (l4 s pc)]) /\ Below W.heap.size W w' := by
 have hLl : hL s < 65536 := ju _ _
 obtain ⟨a3,c3,h3⟩ := j5 hcd.lines
 injection h3 with q3 hnL q4
 clear q3 q4
 subst hnL
 obtain ⟨g,cap,hsl,hg1,hg2,hg3,hg4⟩ := jaf hcd.lines (by omega)
 injection hsl with e1 e2 e3
 subst e1 e3
 have hs := hW.size
 have hcell : ∀ o v,o < 5 -> (cL s pc)[o]? = some v -> W.cell? ⟨g,pc * 5 + o,none⟩ = some v := fun o v ho hv => by
  rw [hW.cell (p := ⟨g,pc * 5 + o,none⟩) hg2,hcd.lines.cellAt (pc * 5 + o) (by omega)]
  exact (Jq (f := cL s) (w := 5) (fun _ => rfl) ho (hL s) hpc).trans hv
 exact jeV (by omega) hpc hg3 (by omega) (hcell 0 _ (by omega) rfl) (hcell 1 _ (by omega) rfl) (hcell 2 _ (by omega) rfl) (hcell 3 _ (by omega) rfl) (hcell 4 _ (by omega) rfl)
set_option maxRecDepth 100000 in
theorem jjy {B pc slots end' : Nat} {aF aN aL : Option Addr} {nF cFc nN cNc nL cLc : Nat} (hcd : jU s w B (.slice aF nF cFc) (.slice aN nN cNc) (.slice aL nL cLc)) (hpc : pc < hL s) (hpe : pc < end') (he : end' < 65537) (hl : Jc w.heap.size w) (hop : l0 s pc = 0 \/ 34 <= l0 s pc) :
 Calls Tryz.prog 68 #[.agg #[.slice aF nF cFc,.slice aN nN cNc,.slice aL nL cLc,.int .i64 slots,.int .i64 pc,.int .i64 end']] w fun e w' => e = .returned (.bool false) /\ Below w.heap.size w w' := by
 have CL : Hid (∀ o : Obj,Calls Tryz.prog 50 #[.agg #[.slice aF nF cFc,.slice aN nN cNc,.slice aL nL cLc],.int .i64 pc] (w.alloc o) fun e w' => e = .returned (.agg #[.int .i64 (l0 s pc),.int .i64 (l1 s pc),.int .i64 (l2 s pc),.int .i64 (l3 s pc),.int .i64 (l4 s pc)]) /\ Below (w.alloc o).heap.size (w.alloc o) w') := fun o => jdi hcd hpc _ (jB.alloc jN _)
 have CG : Hid (∀ W : World,Calls Tryz.prog 91 #[.int .i64 (l0 s pc)] W fun e w' => e = .returned (.bool (!jx (l0 s pc))) /\ w' = W) := fun W => jcq
 have HLF := jH hl
 have hLl : hL s < 65536 := ju _ _
 clear hcd hl
 rcases hop with h0 | h34
 ·have hov : (!jx (l0 s pc)) = true := by rw [h0];rfl
  rw [h0] at CL CG
  rw [h0] at hov
  generalize (l1 s pc : Int) = q1 at *
  generalize (l2 s pc : Int) = q2 at *
  generalize (l3 s pc : Int) = q3 at *
  generalize (l4 s pc : Int) = q4 at *
  have CG' : Hid (∀ (z : Int) (W : World),z = 0 -> Calls Tryz.prog 91 #[.int .i64 z] W fun e w' => e = .returned (.bool true) /\ w' = W) := fun z W hz => by
   rw [hz];have := CG.out W;rw [hov] at this;exact this
  clear CG hov h0
  by_cases hlast : pc + 1 = end'
  ·have g1 : ((pc : Int) == (end' : Int) - 1) = true := by simp;omega
   go_enter Tryz.func68,Tryz.ntmps68
   go_wp2_with (first
    | (go_at_call 50;refine (CL.out _).mono ?_;rintro _ w1 ⟨rfl,hb1⟩;have hs1 := Nat.le_trans (by rw [World.size_alloc];omega : w.heap.size + 1 <= (w.alloc _).heap.size) hb1.size;have hbox := jc (jg w _) hb1 (by rw [World.size_alloc];omega);have k2 : ∀ o : Obj,(w1.alloc o).cell? ⟨w.heap.size,4,none⟩ = some (.int .i64 pc) := jT hbox 4 rfl;have k3 : ∀ o : Obj,(w1.alloc o).cell? ⟨w.heap.size,5,none⟩ = some (.int .i64 end') := jT hbox 5 rfl;have HB1 : Hid (∀ o : Obj,Below w.heap.size w (w1.alloc o)) := (fun o => ((jB.alloc jN _).trans (hb1.mono (by rw [World.size_alloc];omega))).alloc (by omega) _))
    | (go_at_call 91;refine (CG'.out _ _ (by omega)).mono ?_;rintro _ w3 ⟨rfl,hw3⟩;have hw4 := hw3.symm;subst hw4))
   go_ret
   exact ⟨rfl,HB1.out _⟩
  ·have g1 : ((pc : Int) == (end' : Int) - 1) = false := by simp;omega
   have he0 : fld 0 = [] := rfl
   go_enter Tryz.func68,Tryz.ntmps68
   go_wp2_with (first
    | (go_at_call 50;refine (CL.out _).mono ?_;rintro _ w1 ⟨rfl,hb1⟩;have hs1 := Nat.le_trans (by rw [World.size_alloc];omega : w.heap.size + 1 <= (w.alloc _).heap.size) hb1.size;have hbox := jc (jg w _) hb1 (by rw [World.size_alloc];omega);have k2 : ∀ o : Obj,(w1.alloc o).cell? ⟨w.heap.size,4,none⟩ = some (.int .i64 pc) := jT hbox 4 rfl;have k3 : ∀ o : Obj,(w1.alloc o).cell? ⟨w.heap.size,5,none⟩ = some (.int .i64 end') := jT hbox 5 rfl;have HB1 : Hid (∀ o : Obj,Below w.heap.size w (w1.alloc o)) := (fun o => ((jB.alloc jN _).trans (hb1.mono (by rw [World.size_alloc];omega))).alloc (by omega) _);have kf : ∀ o : Obj,(w1.alloc o).cell? ⟨0,0,none⟩ = some (.string ⟨#[]⟩) := (fun o => HLF.out _ (HB1.out o) 0 (by omega)))
    | (go_at_call 91;refine (CG'.out _ _ (by omega)).mono ?_;rintro _ w3 ⟨rfl,hw3⟩;have hw4 := hw3.symm;subst hw4))
   go_region
   all_goals
    rename_i K2 hK2
    refine hK2 _ _ ?_
    clear hK2
    go_wp2_with fail
    go_ret
    exact ⟨rfl,(HB1.out _).drew⟩
 ·have g2 : decide ((34 : Int) <= (l0 s pc : Int)) = true := by simp;omega
  have g3 : decide ((l0 s pc : Int) < 0) = false := by simp
  clear CG
  generalize (l0 s pc : Int) = q0 at *
  generalize (l1 s pc : Int) = q1 at *
  generalize (l2 s pc : Int) = q2 at *
  generalize (l3 s pc : Int) = q3 at *
  generalize (l4 s pc : Int) = q4 at *
  go_enter Tryz.func68,Tryz.ntmps68
  go_wp2_with (go_at_call 50;refine (CL.out _).mono ?_;rintro _ w1 ⟨rfl,hb1⟩;have hs1 := Nat.le_trans (by rw [World.size_alloc];omega : w.heap.size + 1 <= (w.alloc _).heap.size) hb1.size;have hbox := jc (jg w _) hb1 (by rw [World.size_alloc];omega);have k2 : ∀ o : Obj,(w1.alloc o).cell? ⟨w.heap.size,4,none⟩ = some (.int .i64 pc) := jT hbox 4 rfl;have k3 : ∀ o : Obj,(w1.alloc o).cell? ⟨w.heap.size,5,none⟩ = some (.int .i64 end') := jT hbox 5 rfl;have HB1 : Hid (∀ o : Obj,Below w.heap.size w (w1.alloc o)) := (fun o => ((jB.alloc jN _).trans (hb1.mono (by rw [World.size_alloc];omega))).alloc (by omega) _))
  all_goals
   go_ret
   exact ⟨rfl,HB1.out _⟩
theorem jY {P : Program} {id : Nat} {Q : Exit -> Act -> World -> Prop} {a : Act} {l : List Oper} (hm : P.follows .mixedOrders = true) (hB : Region.lexB .any l.toArray = true)
 (h : wpQuiet P l.toArray (fun w' => ∃ x : Wd w.heap.size w,w' = x.v) (fun a' => ∀ x : Wd w.heap.size w,Q .normal a' x.v) l a) : (Code.region id l.toArray true).wp P Q a w := by
 refine wp_region_quiet (C := fun w' => ∃ x : Wd w.heap.size w,w' = x.v) hm hB ⟨⟨w.drew,jB.drew⟩,rfl⟩ ?_
 have e : (fun a' => ∀ w',(∃ x : Wd w.heap.size w,w' = x.v) -> Q .normal a' w') = (fun a' => ∀ x : Wd w.heap.size w,Q .normal a' x.v) := by
  funext a'
  apply propext
  exact ⟨fun h x => h _ ⟨x,rfl⟩,fun h w' ⟨x,hx⟩ => hx ▸ h x⟩
 rw [e]
 simpa using h
theorem jI {P : Program} {f : FuncId} {args : Array Value} {B : Nat} {x : Wd B w} {v : Value} (hB : B <= w.heap.size)
 (h : Calls P f args x.v fun e w' => e = .returned v /\ Below x.v.heap.size x.v w') : Calls P f args x.v fun e w'' => e = .returned v /\ ∃ y : Wd B w,w'' = y.v :=
 h.mono fun _ w' ⟨he,hb⟩ => ⟨he,⟨w',x.h.trans (hb.mono (Nat.le_trans hB x.h.size))⟩,rfl⟩
theorem Wd.at {B : Nat} {b : Nat} {a : Array Value} {t : TypeId} {v : Value} (h : w.heap[b]? = some (.cells a t (0,0))) (hb : b < B) (i : Nat) (hv : a[i]? = some v) (x : Wd B w) : x.v.cell? ⟨b,i,none⟩ = some v :=
 ja (jc h x.h hb) i hv
end Go.Proofs.YtjmgolahkgalbaaGreatDoor
