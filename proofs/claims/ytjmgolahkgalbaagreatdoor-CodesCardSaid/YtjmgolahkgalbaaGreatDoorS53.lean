import Derived.Test.YtjmgolahkgalbaaGreatDoorRows
import Derived.JoinedOf
import Derived.ProofKit
set_option linter.unusedVariables false
set_option linter.unusedSimpArgs false
set_option maxHeartbeats 20000000
namespace Go.Proofs.YtjmgolahkgalbaaGreatDoor
open Go
theorem jmm {a b : Bool} (ha : a = true) (hb : b = true) : (a && b) = true := by rw [ha,hb];rfl
theorem jlG : joinedFacts Tryz.pinned.checked.prog 3 Tryz.f3 Rows.codesSpec Rows.codesRow = true := by
 unfold joinedFacts
 repeat' (with_reducible refine jmm ?_ ?_)
 all_goals as_aux_lemma => kernel_rfl
end Go.Proofs.YtjmgolahkgalbaaGreatDoor
