import Derived.Test.YtjmgolahkgalbaaGreatDoorS07
import Derived.Test.YtjmgolahkgalbaaGreatDoorS16
import Derived.Deep.MidRow
set_option linter.unusedVariables false
set_option linter.unusedSimpArgs false
set_option maxHeartbeats 20000000
namespace Go.Proofs.YtjmgolahkgalbaaGreatDoor
open Go.RowKit
theorem jd5 {b : Nat} {t : TypeId} : ∀ (vs : List Value) (o : Nat) (w : World) (arr : Array Value),w.heap[b]? = some (.cells arr t (0,0)) -> o + vs.length <= arr.size ->
 ∃ arr',(w.setCells b o vs).heap[b]? = some (.cells arr' t (0,0)) /\ arr'.size = arr.size /\ (∀ i,i < vs.length -> arr'[o + i]? = vs[i]?) /\ ∀ j,(j < o \/ o + vs.length <= j) -> arr'[j]? = arr[j]?
 | [],o,w,arr,h,_ => ⟨arr,h,rfl,fun i hi => absurd hi (Nat.not_lt_zero _),fun _ _ => rfl⟩
 | v :: r,o,w,arr,h,hl => by
   simp only [List.length_cons] at hl
   obtain ⟨arr',h1,h2,h3,h4⟩ := jd5 r (o + 1) _ _ (jf h o v) (by rw [Array.size_setIfInBounds];omega)
   refine ⟨arr',h1,by rw [h2,Array.size_setIfInBounds],fun i hi => ?_,fun j hj => ?_⟩
   ·cases i with
    | zero =>
      rw [Nat.add_zero,h4 o (by omega),Array.getElem?_setIfInBounds_self_of_lt (by omega)]
      rfl
    | succ i =>
      simp only [List.length_cons] at hi
      rw [show o + (i + 1) = o + 1 + i by omega,h3 i (by omega)]
      rfl
   ·simp only [List.length_cons] at hj
    rw [h4 j (by omega),Array.getElem?_setIfInBounds_ne (by omega)]
theorem Lone.sets {r : Nat} {w : World} : ∀ (vs : List Value) (o : Nat) (w1 : World),Lone r w w1 -> Lone r w (w1.setCells r o vs)
 | [],_,_,h => h
 | v :: vs,o,w1,h => by rw [World.setCells];exact Lone.sets vs (o + 1) _ (h.set o v)
theorem Jv {P : Program} {ops : Array Oper} {rest : List Oper} {op : Oper} {a : Act} {w : World} {Q : Exit -> Act -> World -> Prop} {b : Nat} {arr : Array Value} {t : TypeId} (hb : w.heap[b]? = some (.cells arr t (0,0))) (hgd : op.guard = none) (ty : TypeId) (x y : Operand) (ho : op.op = .store ty x y)
 (cells : Array Value) (hx : a.eval x = .pointer (some ⟨b,0,none⟩)) (hy : a.eval y = .agg cells) (hsz : arr.size = cells.size)
 (hi : (P.info? ty).map (·.size) = some cells.size) (h1 : cells.all (·.oneCell') = true)
 (h : ∀ w',w'.heap[b]? = some (.cells cells t (0,0)) -> Lone b w w' -> wpList P ops Q rest (a.put op.dst undef) w') : wpList P ops Q (op :: rest) a w := by
 refine wpList_store_mid hgd ty x y ho b 0 cells hx hy (fun j hj => ?_) hi h1 (h _ ?_ (Lone.sets _ _ _ (Lone.refl _ _)))
 ·refine ⟨?_,je hb _⟩
  rw [Nat.zero_add,(JY hb j).1,Array.getElem?_eq_getElem (by omega)]
  rfl
 ·obtain ⟨arr',e1,e2,e3,e4⟩ := jd5 cells.toList 0 w arr hb (by simp;omega)
  rw [e1]
  have : arr' = cells := by
   apply Array.ext_getElem?
   intro i
   by_cases hl : i < cells.size
   ·have := e3 i (by simpa using hl)
    rw [Nat.zero_add] at this
    rw [this];simp
   ·rw [Array.getElem?_eq_none (by omega),Array.getElem?_eq_none (by omega)]
  rw [this]
end Go.Proofs.YtjmgolahkgalbaaGreatDoor
