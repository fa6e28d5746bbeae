/- KNOWN: the texts 48 to 48, evaluated. -/
import Derived.Test.YtgfhddhkillchaaGreatDoorEvT
set_option maxRecDepth 100000
set_option maxHeartbeats 0
namespace Go.Proofs.YtgfhddhkillchaaGreatDoor
open Ev
theorem i48 : isI (fk 48) (rI 48) = true := by kernel_rfl
theorem c48 : isC (fk 48) (rC 48) = true := by kernel_rfl
theorem t48 : isT (rK 48) = true := by kernel_rfl
end Go.Proofs.YtgfhddhkillchaaGreatDoor
