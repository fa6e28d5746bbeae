import Derived.Test.YtjmgolahkgalbaaGreatDoorS18
set_option linter.unusedVariables false
set_option linter.unusedSimpArgs false
set_option maxHeartbeats 20000000
namespace Go.Proofs.YtjmgolahkgalbaaGreatDoor
namespace Ko
open Go.RowKit Li
variable {s : ByteArray} {w : World} {r : Nat}
theorem boxed {w w1 : World} {o : Obj} (hb : Below (w.alloc o).heap.size (w.alloc o) w1) : w1.heap[w.heap.size]? = some o := jc (jg w o) hb (by simp)
theorem jp {w w1 : World} {o : Obj} (hb : Below (w.alloc o).heap.size (w.alloc o) w1) : Below w.heap.size w w1 := (jB.alloc jN o).trans (hb.mono (by simp))
theorem je2 {b : Nat} {a : Array Value} {t : TypeId} (h : w.heap[b]? = some (.cells a t (0,0))) {i : Nat} (hi : i < a.size) (u : Value) : (w.setCell ⟨b,i,none⟩ u).cell? ⟨b,i,none⟩ = some u :=
 ja (jf h i u) i (by simp [hi])
theorem Jk {b : Nat} {x y : Value} {t : TypeId} (h : w.heap[b]? = some (.cells #[x,y] t (0,0))) : (∀ u,(w.setCell ⟨b,0,none⟩ u).cell? ⟨b,0,none⟩ = some u) /\ (∀ u v,((w.setCell ⟨b,0,none⟩ u).setCell ⟨b,1,none⟩ v).cell? ⟨b,1,none⟩ = some v) /\ w.cell? ⟨b,0,none⟩ = some x /\ w.cell? ⟨b,1,none⟩ = some y /\ w.frozen? ⟨b,0,none⟩ = false /\ w.frozen? ⟨b,1,none⟩ = false :=
 ⟨fun u => je2 h (by simp) u,fun u v => je2 (jf h 0 u) (by simp) v,ja h 0 rfl,ja h 1 rfl,je h 0,je h 1⟩
variable {κ : Kp} {X : St}
theorem jcp (h : RM s w r κ X) (z : Int) :
 Calls Tryz.prog 109 #[.pointer (some ⟨r,23,none⟩),.agg #[.bool false,.int .i64 z]] w fun e w' => e = .returned (.bool false) /\ Below w.heap.size w w' := by
 clear h
 go_enter Tryz.func109,Tryz.ntmps109
 go_wp2
 go_region
 rename_i Q' K hK
 refine hK _ _ ?_
 go_wp2
 go_returns
 exact ⟨rfl,(jB.alloc jN _).drew⟩
theorem jbN (h : RM s w r κ X) {i : Nat} (hi : i < X.bs.length) :
 Calls Tryz.prog 109 #[.pointer (some ⟨r,23,none⟩),.agg #[.bool true,.int .i64 i]] w fun e w' => e = .returned (.bool true) /\ Below w.heap.size w w' := by
 have hlt := h.lt
 obtain ⟨a,cap,e,hc⟩ := h.rows.bks.any
 have c26 : w.cell? ⟨r,26,none⟩ = some (.slice a X.bs.length cap) := by rw [<- e];exact ja h.run 26 rfl
 have g1 : decide ((i : Int) < (X.bs.length : Int)) = true := by simp;omega
 have g2 : decide ((0 : Int) <= (i : Int)) = true := by simp
 clear h
 go_enter Tryz.func109,Tryz.ntmps109
 go_wp2
 go_region
 rename_i Q' K hK
 refine hK _ _ ?_
 go_wp2
 go_returns
 exact ⟨rfl,(jB.alloc jN _).drew⟩
end Ko
end Go.Proofs.YtjmgolahkgalbaaGreatDoor
