/- KNOWN: the texts 0 to 9, evaluated. -/
import Derived.Test.YtgfhddhkillchaaGreatDoorEvT
set_option maxRecDepth 100000
set_option maxHeartbeats 0
namespace Go.Proofs.YtgfhddhkillchaaGreatDoor
open Ev
theorem i0 : isI (fk 0) (rI 0) = true := by kernel_rfl
theorem c0 : isC (fk 0) (rC 0) = true := by kernel_rfl
theorem t0 : isT (rK 0) = true := by kernel_rfl
theorem i1 : isI (fk 1) (rI 1) = true := by kernel_rfl
theorem c1 : isC (fk 1) (rC 1) = true := by kernel_rfl
theorem t1 : isT (rK 1) = true := by kernel_rfl
theorem i2 : isI (fk 2) (rI 2) = true := by kernel_rfl
theorem c2 : isC (fk 2) (rC 2) = true := by kernel_rfl
theorem t2 : isT (rK 2) = true := by kernel_rfl
theorem i3 : isI (fk 3) (rI 3) = true := by kernel_rfl
theorem c3 : isC (fk 3) (rC 3) = true := by kernel_rfl
theorem t3 : isT (rK 3) = true := by kernel_rfl
theorem i4 : isI (fk 4) (rI 4) = true := by kernel_rfl
theorem c4 : isC (fk 4) (rC 4) = true := by kernel_rfl
theorem t4 : isT (rK 4) = true := by kernel_rfl
theorem i5 : isI (fk 5) (rI 5) = true := by kernel_rfl
theorem c5 : isC (fk 5) (rC 5) = true := by kernel_rfl
theorem t5 : isT (rK 5) = true := by kernel_rfl
theorem i6 : isI (fk 6) (rI 6) = true := by kernel_rfl
theorem c6 : isC (fk 6) (rC 6) = true := by kernel_rfl
theorem t6 : isT (rK 6) = true := by kernel_rfl
theorem i7 : isI (fk 7) (rI 7) = true := by kernel_rfl
theorem c7 : isC (fk 7) (rC 7) = true := by kernel_rfl
theorem t7 : isT (rK 7) = true := by kernel_rfl
theorem i8 : isI (fk 8) (rI 8) = true := by kernel_rfl
theorem c8 : isC (fk 8) (rC 8) = true := by kernel_rfl
theorem t8 : isT (rK 8) = true := by kernel_rfl
theorem i9 : isI (fk 9) (rI 9) = true := by kernel_rfl
theorem c9 : isC (fk 9) (rC 9) = true := by kernel_rfl
theorem t9 : isT (rK 9) = true := by kernel_rfl
end Go.Proofs.YtgfhddhkillchaaGreatDoor
