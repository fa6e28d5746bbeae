/- AID: a region that draws its order, whose callees make memory: one walk in the order of the text. -/
import Derived.Test.YtmkdoejpgkgpbaaDoorChE
import Derived.BigQuiet
import Derived.Test.YtmkdoejpgkgpbaaDoorQa
set_option linter.unusedVariables false
set_option linter.unusedSimpArgs false
namespace Go.Proofs.YtmkdoejpgkgpbaaDoor
open Go.RowKit Li

theorem wp_region_wd {P : Program} {id : Nat} {Q : Exit → Act → World → Prop} {a : Act} {w : World} {l : List Oper} (hm : P.follows .mixedOrders = true) (hB : Region.lexB .any l.toArray = true)
    (h : wpQuiet P l.toArray (fun w' => ∃ x : Wd w.heap.size w, w' = x.v) (fun a' => ∀ x : Wd w.heap.size w, Q .normal a' x.v) l a) : (Code.region id l.toArray true).wp P Q a w := by
  refine wp_region_quiet (C := fun w' => ∃ x : Wd w.heap.size w, w' = x.v) hm hB ⟨⟨w.drew, (Below.refl _ _).drew⟩, rfl⟩ ?_
  have e : (fun a' => ∀ w', (∃ x : Wd w.heap.size w, w' = x.v) → Q .normal a' w') = (fun a' => ∀ x : Wd w.heap.size w, Q .normal a' x.v) := by
    funext a'
    apply propext
    exact ⟨fun h x => h _ ⟨x, rfl⟩, fun h w' ⟨x, hx⟩ => hx ▸ h x⟩
  rw [e]
  simpa using h
/-- a callee's contract, met in such a world -/
theorem calls_wd {P : Program} {f : FuncId} {args : Array Value} {B : Nat} {w : World} {x : Wd B w} {v : Value} (hB : B ≤ w.heap.size)
    (h : Calls P f args x.v fun e w' => e = .returned v ∧ Below x.v.heap.size x.v w') : Calls P f args x.v fun e w'' => e = .returned v ∧ ∃ y : Wd B w, w'' = y.v :=
  h.mono fun _ w' ⟨he, hb⟩ => ⟨he, ⟨w', x.h.trans (hb.mono (Nat.le_trans hB x.h.size))⟩, rfl⟩
/-- cells in such a world -/
theorem Wd.at {B : Nat} {w : World} {b : Nat} {a : Array Value} {t : TypeId} {v : Value} (h : w.heap[b]? = some (.cells a t (0, 0))) (hb : b < B) (i : Nat) (hv : a[i]? = some v) (x : Wd B w) : x.v.cell? ⟨b, i, none⟩ = some v :=
  lb_at (lb_below h x.h hb) i hv
end Go.Proofs.YtmkdoejpgkgpbaaDoor
