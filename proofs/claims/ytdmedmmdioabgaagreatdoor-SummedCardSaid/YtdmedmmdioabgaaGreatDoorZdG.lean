import Derived.Test.YtdmedmmdioabgaaGreatDoorZaJ
set_option maxRecDepth 100000
set_option maxHeartbeats 0
namespace Go.Proofs.YtdmedmmdioabgaaGreatDoor
namespace Sm
open Ev
theorem cd2_3_0 : chkD 2 3 0 = true := by kernel_rfl
theorem cd2_3_1 : chkD 2 3 1 = true := by kernel_rfl
theorem cd2_3_2 : chkD 2 3 2 = true := by kernel_rfl
theorem cd2_3_3 : chkD 2 3 3 = true := by kernel_rfl
theorem cd2_3_4 : chkD 2 3 4 = true := by kernel_rfl
theorem cd2_4_0 : chkD 2 4 0 = true := by kernel_rfl
theorem cd2_4_1 : chkD 2 4 1 = true := by kernel_rfl
theorem cd2_4_2 : chkD 2 4 2 = true := by kernel_rfl
theorem cd2_4_3 : chkD 2 4 3 = true := by kernel_rfl
theorem cd2_4_4 : chkD 2 4 4 = true := by kernel_rfl
end Sm
end Go.Proofs.YtdmedmmdioabgaaGreatDoor
