/- KNOWN: the texts 10 to 19, evaluated. -/
import Derived.Test.YtgfhddhkillchaaGreatDoorEvT
set_option maxRecDepth 100000
set_option maxHeartbeats 0
namespace Go.Proofs.YtgfhddhkillchaaGreatDoor
open Ev
theorem i10 : isI (fk 10) (rI 10) = true := by kernel_rfl
theorem c10 : isC (fk 10) (rC 10) = true := by kernel_rfl
theorem t10 : isT (rK 10) = true := by kernel_rfl
theorem i11 : isI (fk 11) (rI 11) = true := by kernel_rfl
theorem c11 : isC (fk 11) (rC 11) = true := by kernel_rfl
theorem t11 : isT (rK 11) = true := by kernel_rfl
theorem i12 : isI (fk 12) (rI 12) = true := by kernel_rfl
theorem c12 : isC (fk 12) (rC 12) = true := by kernel_rfl
theorem t12 : isT (rK 12) = true := by kernel_rfl
theorem i13 : isI (fk 13) (rI 13) = true := by kernel_rfl
theorem c13 : isC (fk 13) (rC 13) = true := by kernel_rfl
theorem t13 : isT (rK 13) = true := by kernel_rfl
theorem i14 : isI (fk 14) (rI 14) = true := by kernel_rfl
theorem c14 : isC (fk 14) (rC 14) = true := by kernel_rfl
theorem t14 : isT (rK 14) = true := by kernel_rfl
theorem i15 : isI (fk 15) (rI 15) = true := by kernel_rfl
theorem c15 : isC (fk 15) (rC 15) = true := by kernel_rfl
theorem t15 : isT (rK 15) = true := by kernel_rfl
theorem i16 : isI (fk 16) (rI 16) = true := by kernel_rfl
theorem c16 : isC (fk 16) (rC 16) = true := by kernel_rfl
theorem t16 : isT (rK 16) = true := by kernel_rfl
theorem i17 : isI (fk 17) (rI 17) = true := by kernel_rfl
theorem c17 : isC (fk 17) (rC 17) = true := by kernel_rfl
theorem t17 : isT (rK 17) = true := by kernel_rfl
theorem i18 : isI (fk 18) (rI 18) = true := by kernel_rfl
theorem c18 : isC (fk 18) (rC 18) = true := by kernel_rfl
theorem t18 : isT (rK 18) = true := by kernel_rfl
theorem i19 : isI (fk 19) (rI 19) = true := by kernel_rfl
theorem c19 : isC (fk 19) (rC 19) = true := by kernel_rfl
theorem t19 : isT (rK 19) = true := by kernel_rfl
end Go.Proofs.YtgfhddhkillchaaGreatDoor
