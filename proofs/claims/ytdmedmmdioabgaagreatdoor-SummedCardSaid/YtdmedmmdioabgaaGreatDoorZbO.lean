import Derived.Test.YtdmedmmdioabgaaGreatDoorZaI
set_option maxRecDepth 100000
set_option maxHeartbeats 0
namespace Go.Proofs.YtdmedmmdioabgaaGreatDoor
namespace Sm
open Ev
theorem c2_0_00 : chk 2 0 false false = true := by kernel_rfl
theorem c2_0_01 : chk 2 0 false true = true := by kernel_rfl
theorem c2_0_10 : chk 2 0 true false = true := by kernel_rfl
theorem c2_0_11 : chk 2 0 true true = true := by kernel_rfl
theorem c2_1_00 : chk 2 1 false false = true := by kernel_rfl
theorem c2_1_01 : chk 2 1 false true = true := by kernel_rfl
theorem c2_1_10 : chk 2 1 true false = true := by kernel_rfl
theorem c2_1_11 : chk 2 1 true true = true := by kernel_rfl
end Sm
end Go.Proofs.YtdmedmmdioabgaaGreatDoor
