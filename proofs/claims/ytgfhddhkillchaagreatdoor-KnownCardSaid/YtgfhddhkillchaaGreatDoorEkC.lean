/- KNOWN: the texts 20 to 29, evaluated. -/
import Derived.Test.YtgfhddhkillchaaGreatDoorEvT
set_option maxRecDepth 100000
set_option maxHeartbeats 0
namespace Go.Proofs.YtgfhddhkillchaaGreatDoor
open Ev
theorem i20 : isI (fk 20) (rI 20) = true := by kernel_rfl
theorem c20 : isC (fk 20) (rC 20) = true := by kernel_rfl
theorem t20 : isT (rK 20) = true := by kernel_rfl
theorem i21 : isI (fk 21) (rI 21) = true := by kernel_rfl
theorem c21 : isC (fk 21) (rC 21) = true := by kernel_rfl
theorem t21 : isT (rK 21) = true := by kernel_rfl
theorem i22 : isI (fk 22) (rI 22) = true := by kernel_rfl
theorem c22 : isC (fk 22) (rC 22) = true := by kernel_rfl
theorem t22 : isT (rK 22) = true := by kernel_rfl
theorem i23 : isI (fk 23) (rI 23) = true := by kernel_rfl
theorem c23 : isC (fk 23) (rC 23) = true := by kernel_rfl
theorem t23 : isT (rK 23) = true := by kernel_rfl
theorem i24 : isI (fk 24) (rI 24) = true := by kernel_rfl
theorem c24 : isC (fk 24) (rC 24) = true := by kernel_rfl
theorem t24 : isT (rK 24) = true := by kernel_rfl
theorem i25 : isI (fk 25) (rI 25) = true := by kernel_rfl
theorem c25 : isC (fk 25) (rC 25) = true := by kernel_rfl
theorem t25 : isT (rK 25) = true := by kernel_rfl
theorem i26 : isI (fk 26) (rI 26) = true := by kernel_rfl
theorem c26 : isC (fk 26) (rC 26) = true := by kernel_rfl
theorem t26 : isT (rK 26) = true := by kernel_rfl
theorem i27 : isI (fk 27) (rI 27) = true := by kernel_rfl
theorem c27 : isC (fk 27) (rC 27) = true := by kernel_rfl
theorem t27 : isT (rK 27) = true := by kernel_rfl
theorem i28 : isI (fk 28) (rI 28) = true := by kernel_rfl
theorem c28 : isC (fk 28) (rC 28) = true := by kernel_rfl
theorem t28 : isT (rK 28) = true := by kernel_rfl
theorem i29 : isI (fk 29) (rI 29) = true := by kernel_rfl
theorem c29 : isC (fk 29) (rC 29) = true := by kernel_rfl
theorem t29 : isT (rK 29) = true := by kernel_rfl
end Go.Proofs.YtgfhddhkillchaaGreatDoor
