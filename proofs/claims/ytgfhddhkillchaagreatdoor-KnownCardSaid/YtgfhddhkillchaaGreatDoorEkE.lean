/- KNOWN: the texts 40 to 42, evaluated. -/
import Derived.Test.YtgfhddhkillchaaGreatDoorEvT
set_option maxRecDepth 100000
set_option maxHeartbeats 0
namespace Go.Proofs.YtgfhddhkillchaaGreatDoor
open Ev
theorem i40 : isI (fk 40) (rI 40) = true := by kernel_rfl
theorem c40 : isC (fk 40) (rC 40) = true := by kernel_rfl
theorem t40 : isT (rK 40) = true := by kernel_rfl
theorem i41 : isI (fk 41) (rI 41) = true := by kernel_rfl
theorem c41 : isC (fk 41) (rC 41) = true := by kernel_rfl
theorem t41 : isT (rK 41) = true := by kernel_rfl
theorem i42 : isI (fk 42) (rI 42) = true := by kernel_rfl
theorem c42 : isC (fk 42) (rC 42) = true := by kernel_rfl
theorem t42 : isT (rK 42) = true := by kernel_rfl
end Go.Proofs.YtgfhddhkillchaaGreatDoor
