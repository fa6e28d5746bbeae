/- KNOWN: the texts 49 to 49, evaluated. -/
import Derived.Test.YtgfhddhkillchaaGreatDoorEvT
set_option maxRecDepth 100000
set_option maxHeartbeats 0
namespace Go.Proofs.YtgfhddhkillchaaGreatDoor
open Ev
theorem i49 : isI (fk 49) (rI 49) = true := by kernel_rfl
theorem c49 : isC (fk 49) (rC 49) = true := by kernel_rfl
theorem t49 : isT (rK 49) = true := by kernel_rfl
end Go.Proofs.YtgfhddhkillchaaGreatDoor
