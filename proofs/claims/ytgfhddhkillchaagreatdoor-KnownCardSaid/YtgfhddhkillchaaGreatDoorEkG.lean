/- KNOWN: the texts 44 to 45, evaluated. -/
import Derived.Test.YtgfhddhkillchaaGreatDoorEvT
set_option maxRecDepth 100000
set_option maxHeartbeats 0
namespace Go.Proofs.YtgfhddhkillchaaGreatDoor
open Ev
theorem i44 : isI (fk 44) (rI 44) = true := by kernel_rfl
theorem c44 : isC (fk 44) (rC 44) = true := by kernel_rfl
theorem t44 : isT (rK 44) = true := by kernel_rfl
theorem i45 : isI (fk 45) (rI 45) = true := by kernel_rfl
theorem c45 : isC (fk 45) (rC 45) = true := by kernel_rfl
theorem t45 : isT (rK 45) = true := by kernel_rfl
end Go.Proofs.YtgfhddhkillchaaGreatDoor
