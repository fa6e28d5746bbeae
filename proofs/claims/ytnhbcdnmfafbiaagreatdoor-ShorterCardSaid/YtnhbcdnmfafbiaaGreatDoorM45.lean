import Derived.Test.YtnhbcdnmfafbiaaGreatDoorRows
import Derived.JoinedOf
import Derived.ProofKit
set_option linter.unusedVariables false
set_option linter.unusedSimpArgs false
set_option maxHeartbeats 20000000
namespace Go.Proofs.YtnhbcdnmfafbiaaGreatDoor
open Go
theorem jmm {a b:Bool}(ha:a=true) (B:b=true):(a && b)=true:=by rw[ha,B];rfl
theorem Jfw:joinedFacts Tryz.pinned.checked.prog 3 Tryz.f3 Rows.shorterSpec Rows.shorterRow=true:=by
 unfold joinedFacts
 repeat' (with_reducible refine jmm ?_ ?_)
 all_goals as_aux_lemma=>kernel_rfl
end Go.Proofs.YtnhbcdnmfafbiaaGreatDoor
