import Derived.Test.YtdmedmmdioabgaaGreatDoorZaI
set_option maxRecDepth 100000
set_option maxHeartbeats 0
namespace Go.Proofs.YtdmedmmdioabgaaGreatDoor
namespace Sm
open Ev
theorem c1_2_00 : chk 1 2 false false = true := by kernel_rfl
theorem c1_2_01 : chk 1 2 false true = true := by kernel_rfl
theorem c1_2_10 : chk 1 2 true false = true := by kernel_rfl
theorem c1_2_11 : chk 1 2 true true = true := by kernel_rfl
end Sm
end Go.Proofs.YtdmedmmdioabgaaGreatDoor
