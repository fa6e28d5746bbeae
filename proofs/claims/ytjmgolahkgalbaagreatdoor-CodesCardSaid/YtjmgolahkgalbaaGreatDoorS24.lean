import Derived.Test.YtjmgolahkgalbaaGreatDoorS22
set_option linter.unusedVariables false
set_option linter.unusedSimpArgs false
set_option maxHeartbeats 20000000
namespace Go.Proofs.YtjmgolahkgalbaaGreatDoor
namespace Ko
open Go.RowKit Li
variable {s : ByteArray} {w : World} {r : Nat}
def jaS (arr : Array Value) : Nat -> List Value -> Array Value
 | _,[] => arr
 | o,v :: vs => jaS (arr.setIfInBounds o v) (o + 1) vs
theorem jd6 {b : Nat} {t : TypeId} : ∀ (vs : List Value) (o : Nat) (w : World) (arr : Array Value),w.heap[b]? = some (.cells arr t (0,0)) -> (w.setCells b o vs).heap[b]? = some (.cells (jaS arr o vs) t (0,0))
 | [],o,w,arr,h => h
 | v :: vs,o,w,arr,h => jd6 vs (o + 1) _ _ (jf h o v)
theorem jbp {ops : Array Oper} {rest : List Oper} {op : Oper} {a : Act} {Q : Exit -> Act -> World -> Prop} {x : RX} (hm : RB w r x) (x' : RX) (hgd : op.guard = none) (ty : TypeId) (p y : Operand) (ho : op.op = .store ty p y) (o : Nat) (cells : Array Value) (hx : a.eval p = .pointer (some ⟨r,o,none⟩)) (hy : a.eval y = .agg cells) (hsz : o + cells.size <= 35) (hi : (Tryz.prog.info? ty).map (·.size) = some cells.size) (h1 : cells.all (·.oneCell') = true) (he : jaS (Jp x) o cells.toList = Jp x')
 (h : ∀ w',RB w' r x' -> Lone r w w' -> wpList Tryz.prog ops Q rest (a.put op.dst undef) w') : wpList Tryz.prog ops Q (op :: rest) a w := by
 refine wpList_store_mid hgd ty p y ho r o cells hx hy (fun j hj => ⟨?_,je hm _⟩) hi h1 (h _ ?_ (Lone.sets _ _ _ (Lone.refl _ _)))
 ·rw [(JY hm (o + j)).1,Array.getElem?_eq_getElem (by show o + j < 35;omega)];rfl
 ·unfold RB
  rw [<- he]
  exact jd6 cells.toList o w (Jp x) hm
structure RE (w : World) (r : Nat) (κ : Kp) (X : St) (e p : Nat) : Prop where
 run : ∃ x,RB w r x /\ x.err = e /\ x.pos = p /\ x.val = X.x.val /\ x.vout = X.x.vout /\ x.steps = X.x.steps /\ x.read = X.x.read /\ x.gcs = X.x.gcs /\ x.used = X.x.used /\ x.granted = X.x.granted
 self : κ r = some (0,0)
 out : TR w κ (6,0) 3 1 X.x.vout X.out.length (iV X.out)
 top : ∀ b,w.heap.size <= b -> κ b = none
theorem Tryz.kiCode : (Tryz.prog.info? 68).map (·.size) = some 3 := by kernel_rfl
theorem Tryz.kiRegs : (Tryz.prog.info? 79).map (·.size) = some 16 := by kernel_rfl
theorem Tryz.kiHeap : (Tryz.prog.info? 83).map (·.size) = some 5 := by kernel_rfl
theorem one3 : (#[.slice none 0 0,.slice none 0 0,.slice none 0 0] : Array Value).all (·.oneCell') = true := by kernel_rfl
theorem jcb : (#[.bool false,.int .i64 0,.bool false,.int .i64 0,.bool false,.int .i64 0,.bool false,.int .i64 0,.bool false,.int .i64 0,.bool false,.int .i64 0,.bool false,.int .i64 0,.bool false,.int .i64 0] : Array Value).all (·.oneCell') = true := by kernel_rfl
theorem jhW (x : RX) : jaS (Jp x) 0 (#[.slice none 0 0,.slice none 0 0,.slice none 0 0] : Array Value).toList = Jp { x with vF := .slice none 0 0,vN := .slice none 0 0,vL := .slice none 0 0 } := rfl
theorem jca (x : RX) : jaS (Jp x) 6 (#[.bool false,.int .i64 0,.bool false,.int .i64 0,.bool false,.int .i64 0,.bool false,.int .i64 0,.bool false,.int .i64 0,.bool false,.int .i64 0,.bool false,.int .i64 0,.bool false,.int .i64 0] : Array Value).toList = Jp { x with g := fun _ => z0 } := by simp [jaS,Jp,z0,vb,vi]
theorem jmD (x : RX) : jaS (Jp x) 23 (#[.int .i64 0,.int .i64 x.used,.int .i64 x.gcs,.slice none 0 0,.slice none 0 0] : Array Value).toList = Jp { x with half := 0,vbk := .slice none 0 0,vfree := .slice none 0 0 } := rfl
variable {κ : Kp} {X : St}
set_option maxRecDepth 100000 in
theorem end_any (h : RM s w r κ X) (e p : Nat) :
 Calls Tryz.prog 81 #[.pointer (some ⟨r,0,none⟩),.int .i64 e,.int .i64 p] w fun en w' => en = .returned (.tuple #[]) /\ RE w' r κ X e p /\ Fr0 κ κ w w' := by
 have H := jH h
 have hlt := h.lt
 have c29 : w.cell? ⟨r,29,none⟩ = some (.int .i64 X.x.err) := ja h.run 29 rfl
 have z29 := je h.run 29
 have HR1 := jH (show RB (w.setCell ⟨r,29,none⟩ (.int .i64 e)) r { X.x with err := e } from jf h.run 29 _)
 have q30 : (w.setCell ⟨r,29,none⟩ (.int .i64 e)).cell? ⟨r,30,none⟩ = some (.int .i64 X.x.pos) := ja HR1.out 30 rfl
 have z30 := je HR1.out 30
 have HR2 := jH (show RB ((w.setCell ⟨r,29,none⟩ (.int .i64 e)).setCell ⟨r,30,none⟩ (.int .i64 p)) r { X.x with err := e,pos := p } from jf HR1.out 30 _)
 have hL2 : Lone r w ((w.setCell ⟨r,29,none⟩ (.int .i64 e)).setCell ⟨r,30,none⟩ (.int .i64 p)) := ((Lone.refl _ _).set _ _).set _ _
 have HL2 := jH hL2
 clear h hL2
 go_enter Tryz.func81,Tryz.ntmps81
 go_wp2_with (first
  | (show wpList _ _ _ (Oper.mk none (Op.store 68 (.tmp 17) (.tmp 15)) _ _ _ _ :: _) _ _;go_loud (refine jbp (op := ⟨none,Op.store 68 (.tmp 17) (.tmp 15),_,_,_,_⟩) HR2.out { X.x with err := e,pos := p,vF := .slice none 0 0,vN := .slice none 0 0,vL := .slice none 0 0 } rfl _ (.tmp 17) (.tmp 15) rfl 0 #[.slice none 0 0,.slice none 0 0,.slice none 0 0] rfl rfl (by decide) Tryz.kiCode one3 (jhW _) ?_;intro w3 hr3 hl3;have HR3 := jH hr3;have HL3 := jH hl3;have q4 : w3.cell? ⟨r,4,none⟩ = some X.x.vin := ja hr3 4 rfl;have z4 := je hr3 4;have hr4 := jf hr3 4 (.slice none 0 0);have q22 : (w3.setCell ⟨r,4,none⟩ (.slice none 0 0)).cell? ⟨r,22,none⟩ = some X.x.vfr := ja hr4 22 rfl;have z22 := je hr4 22;have HR5 := jH (show RB ((w3.setCell ⟨r,4,none⟩ (.slice none 0 0)).setCell ⟨r,22,none⟩ (.slice none 0 0)) r { X.x with err := e,pos := p,vF := .slice none 0 0,vN := .slice none 0 0,vL := .slice none 0 0,vin := .slice none 0 0,vfr := .slice none 0 0 } from jf hr4 22 _);clear hr3 hl3 hr4))
  | (show wpList _ _ _ (Oper.mk none (Op.store 79 (.tmp 27) (.tmp 25)) _ _ _ _ :: _) _ _;go_loud (refine jbp (op := ⟨none,Op.store 79 (.tmp 27) (.tmp 25),_,_,_,_⟩) HR5.out { X.x with err := e,pos := p,vF := .slice none 0 0,vN := .slice none 0 0,vL := .slice none 0 0,vin := .slice none 0 0,vfr := .slice none 0 0,g := fun _ => z0 } rfl _ (.tmp 27) (.tmp 25) rfl 6 #[.bool false,.int .i64 0,.bool false,.int .i64 0,.bool false,.int .i64 0,.bool false,.int .i64 0,.bool false,.int .i64 0,.bool false,.int .i64 0,.bool false,.int .i64 0,.bool false,.int .i64 0] rfl rfl (by decide) Tryz.kiRegs jcb (jca _) ?_;intro w6 hr6 hl6;have HR6 := jH hr6;have HL6 := jH hl6;clear hr6 hl6)))
 have d23 : w6.cell? ⟨r,23,none⟩ = some (.int .i64 X.x.half) := ja HR6.out 23 rfl
 have d24 : w6.cell? ⟨r,24,none⟩ = some (.int .i64 X.x.used) := ja HR6.out 24 rfl
 have d25 : w6.cell? ⟨r,25,none⟩ = some (.int .i64 X.x.gcs) := ja HR6.out 25 rfl
 have d26 : w6.cell? ⟨r,26,none⟩ = some X.x.vbk := ja HR6.out 26 rfl
 have d27 : w6.cell? ⟨r,27,none⟩ = some X.x.vfree := ja HR6.out 27 rfl
 have y23 := je HR6.out 23
 have y24 := je HR6.out 24
 have y25 := je HR6.out 25
 have y26 := je HR6.out 26
 have y27 := je HR6.out 27
 clear c29 z29 q30 z30 q4 z4 q22 z22
 go_region
 first | go_returns | (rename_i Q' K hK;refine hK _ _ ?_;go_wp2;go_returns)
 have hr7 : RB (((((w6.setCell ⟨r,23,none⟩ (.int .i64 0)).setCell ⟨r,24,none⟩ (.int .i64 X.x.used)).setCell ⟨r,25,none⟩ (.int .i64 X.x.gcs)).setCell ⟨r,26,none⟩ (.slice none 0 0)).setCell ⟨r,27,none⟩ (.slice none 0 0)).drew r { X.x with err := e,pos := p,vF := .slice none 0 0,vN := .slice none 0 0,vL := .slice none 0 0,vin := .slice none 0 0,vfr := .slice none 0 0,g := fun _ => z0,half := 0,vbk := .slice none 0 0,vfree := .slice none 0 0 } := jf (jf (jf (jf (jf HR6.out 23 (.int .i64 0)) 24 (.int .i64 X.x.used)) 25 (.int .i64 X.x.gcs)) 26 (.slice none 0 0)) 27 (.slice none 0 0)
 have hL : Lone r w _ := ((((((((HL2.out.trans HL3.out).set 4 _).set 22 _).trans HL6.out).set 23 (.int .i64 0)).set 24 (.int .i64 X.x.used)).set 25 (.int .i64 X.x.gcs)).set 26 (.slice none 0 0)).set 27 (.slice none 0 0)
 refine ⟨rfl,⟨⟨_,hr7,rfl,rfl,rfl,rfl,rfl,rfl,rfl,rfl,rfl⟩,H.out.self,?_,?_⟩,?_⟩
 ·exact H.out.rows.out.keep (Fr.lone (S := (· = (0,0))) hL.drew H.out.self rfl) (by intro h;cases h)
 ·exact fun b hb => H.out.top b (Nat.le_trans hL.drew.size hb)
 ·exact H.out.low hL.drew
theorem JP (h : RM s w r κ X) :
 Calls Tryz.prog 60 #[.pointer (some ⟨r,0,none⟩)] w fun en w' => en = .returned (.tuple #[]) /\ RE w' r κ X 50 0 /\ Fr0 κ κ w w' := by
 have HC := jH (end_any h 50 0)
 clear h
 go_enter Tryz.func60,Tryz.ntmps60
 go_wp2_with (first
  | (go_at_call 81;refine HC.out.mono ?_;rintro _ w1 ⟨rfl,h1,h2⟩))
 go_returns
 exact ⟨rfl,h1,h2⟩
end Ko
end Go.Proofs.YtjmgolahkgalbaaGreatDoor
