/- THE CLOSED FACTS of Looped's row, one by one. -/
import Derived.Test.YtjmifcnfnihhnaaGreatDoorRows
import Derived.JoinedOf
import Derived.ProofKit
set_option linter.unusedVariables false
set_option linter.unusedSimpArgs false
namespace Go.Proofs.YtjmifcnfnihhnaaGreatDoor
open Go

theorem and_t {a b : Bool} (ha : a = true) (hb : b = true) : (a && b) = true := by rw [ha, hb]; rfl
set_option maxHeartbeats 20000000 in
theorem looped_closed : joinedFacts Tryz.pinned.checked.prog 3 Tryz.f3 Rows.loopedSpec Rows.loopedRow = true := by
  unfold joinedFacts
  repeat' (with_reducible refine and_t ?_ ?_)
  all_goals as_aux_lemma => kernel_rfl
end Go.Proofs.YtjmifcnfnihhnaaGreatDoor
