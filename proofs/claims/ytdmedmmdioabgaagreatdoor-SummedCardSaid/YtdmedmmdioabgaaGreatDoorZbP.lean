import Derived.Test.YtdmedmmdioabgaaGreatDoorZaI
set_option maxRecDepth 100000
set_option maxHeartbeats 0
namespace Go.Proofs.YtdmedmmdioabgaaGreatDoor
namespace Sm
open Ev
theorem c2_2_00 : chk 2 2 false false = true := by kernel_rfl
theorem c2_2_01 : chk 2 2 false true = true := by kernel_rfl
theorem c2_2_10 : chk 2 2 true false = true := by kernel_rfl
theorem c2_2_11 : chk 2 2 true true = true := by kernel_rfl
theorem c2_3_00 : chk 2 3 false false = true := by kernel_rfl
theorem c2_3_01 : chk 2 3 false true = true := by kernel_rfl
theorem c2_3_10 : chk 2 3 true false = true := by kernel_rfl
theorem c2_3_11 : chk 2 3 true true = true := by kernel_rfl
end Sm
end Go.Proofs.YtdmedmmdioabgaaGreatDoor
