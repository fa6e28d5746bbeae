/- KNOWN: the texts 30 to 39, evaluated. -/
import Derived.Test.YtgfhddhkillchaaGreatDoorEvT
set_option maxRecDepth 100000
set_option maxHeartbeats 0
namespace Go.Proofs.YtgfhddhkillchaaGreatDoor
open Ev
theorem i30 : isI (fk 30) (rI 30) = true := by kernel_rfl
theorem c30 : isC (fk 30) (rC 30) = true := by kernel_rfl
theorem t30 : isT (rK 30) = true := by kernel_rfl
theorem i31 : isI (fk 31) (rI 31) = true := by kernel_rfl
theorem c31 : isC (fk 31) (rC 31) = true := by kernel_rfl
theorem t31 : isT (rK 31) = true := by kernel_rfl
theorem i32 : isI (fk 32) (rI 32) = true := by kernel_rfl
theorem c32 : isC (fk 32) (rC 32) = true := by kernel_rfl
theorem t32 : isT (rK 32) = true := by kernel_rfl
theorem i33 : isI (fk 33) (rI 33) = true := by kernel_rfl
theorem c33 : isC (fk 33) (rC 33) = true := by kernel_rfl
theorem t33 : isT (rK 33) = true := by kernel_rfl
theorem i34 : isI (fk 34) (rI 34) = true := by kernel_rfl
theorem c34 : isC (fk 34) (rC 34) = true := by kernel_rfl
theorem t34 : isT (rK 34) = true := by kernel_rfl
theorem i35 : isI (fk 35) (rI 35) = true := by kernel_rfl
theorem c35 : isC (fk 35) (rC 35) = true := by kernel_rfl
theorem t35 : isT (rK 35) = true := by kernel_rfl
theorem i36 : isI (fk 36) (rI 36) = true := by kernel_rfl
theorem c36 : isC (fk 36) (rC 36) = true := by kernel_rfl
theorem t36 : isT (rK 36) = true := by kernel_rfl
theorem i37 : isI (fk 37) (rI 37) = true := by kernel_rfl
theorem c37 : isC (fk 37) (rC 37) = true := by kernel_rfl
theorem t37 : isT (rK 37) = true := by kernel_rfl
theorem i38 : isI (fk 38) (rI 38) = true := by kernel_rfl
theorem c38 : isC (fk 38) (rC 38) = true := by kernel_rfl
theorem t38 : isT (rK 38) = true := by kernel_rfl
theorem i39 : isI (fk 39) (rI 39) = true := by kernel_rfl
theorem c39 : isC (fk 39) (rC 39) = true := by kernel_rfl
theorem t39 : isT (rK 39) = true := by kernel_rfl
end Go.Proofs.YtgfhddhkillchaaGreatDoor
