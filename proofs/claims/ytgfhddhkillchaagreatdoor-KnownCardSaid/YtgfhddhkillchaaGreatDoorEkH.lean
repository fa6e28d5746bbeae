/- KNOWN: the texts 46 to 47, evaluated. -/
import Derived.Test.YtgfhddhkillchaaGreatDoorEvT
set_option maxRecDepth 100000
set_option maxHeartbeats 0
namespace Go.Proofs.YtgfhddhkillchaaGreatDoor
open Ev
theorem i46 : isI (fk 46) (rI 46) = true := by kernel_rfl
theorem c46 : isC (fk 46) (rC 46) = true := by kernel_rfl
theorem t46 : isT (rK 46) = true := by kernel_rfl
theorem i47 : isI (fk 47) (rI 47) = true := by kernel_rfl
theorem c47 : isC (fk 47) (rC 47) = true := by kernel_rfl
theorem t47 : isT (rK 47) = true := by kernel_rfl
end Go.Proofs.YtgfhddhkillchaaGreatDoor
