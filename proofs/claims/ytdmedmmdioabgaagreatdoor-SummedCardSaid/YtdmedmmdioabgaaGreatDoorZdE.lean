import Derived.Test.YtdmedmmdioabgaaGreatDoorZaJ
set_option maxRecDepth 100000
set_option maxHeartbeats 0
namespace Go.Proofs.YtdmedmmdioabgaaGreatDoor
namespace Sm
open Ev
theorem cd1_3_0 : chkD 1 3 0 = true := by kernel_rfl
theorem cd1_3_1 : chkD 1 3 1 = true := by kernel_rfl
theorem cd1_4_0 : chkD 1 4 0 = true := by kernel_rfl
theorem cd1_4_1 : chkD 1 4 1 = true := by kernel_rfl
end Sm
end Go.Proofs.YtdmedmmdioabgaaGreatDoor
