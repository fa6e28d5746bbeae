import Derived.Test.YtdmedmmdioabgaaGreatDoorZaJ
set_option maxRecDepth 100000
set_option maxHeartbeats 0
namespace Go.Proofs.YtdmedmmdioabgaaGreatDoor
namespace Sm
open Ev
theorem cd1_3_2 : chkD 1 3 2 = true := by kernel_rfl
theorem cd1_3_3 : chkD 1 3 3 = true := by kernel_rfl
theorem cd1_3_4 : chkD 1 3 4 = true := by kernel_rfl
theorem cd1_4_2 : chkD 1 4 2 = true := by kernel_rfl
theorem cd1_4_3 : chkD 1 4 3 = true := by kernel_rfl
theorem cd1_4_4 : chkD 1 4 4 = true := by kernel_rfl
end Sm
end Go.Proofs.YtdmedmmdioabgaaGreatDoor
