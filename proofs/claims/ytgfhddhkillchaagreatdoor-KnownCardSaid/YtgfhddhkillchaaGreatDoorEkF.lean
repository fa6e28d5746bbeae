/- KNOWN: the texts 43 to 43, evaluated. -/
import Derived.Test.YtgfhddhkillchaaGreatDoorEvT
set_option maxRecDepth 100000
set_option maxHeartbeats 0
namespace Go.Proofs.YtgfhddhkillchaaGreatDoor
open Ev
theorem i43 : isI (fk 43) (rI 43) = true := by kernel_rfl
theorem c43 : isC (fk 43) (rC 43) = true := by kernel_rfl
theorem t43 : isT (rK 43) = true := by kernel_rfl
end Go.Proofs.YtgfhddhkillchaaGreatDoor
