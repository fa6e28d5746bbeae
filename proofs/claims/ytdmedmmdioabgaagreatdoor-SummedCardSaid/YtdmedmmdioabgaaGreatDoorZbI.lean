import Derived.Test.YtdmedmmdioabgaaGreatDoorZaI
set_option maxRecDepth 100000
set_option maxHeartbeats 0
namespace Go.Proofs.YtdmedmmdioabgaaGreatDoor
namespace Sm
open Ev
theorem c1_5_00 : chk 1 5 false false = true := by kernel_rfl
theorem c1_5_01 : chk 1 5 false true = true := by kernel_rfl
theorem c1_5_10 : chk 1 5 true false = true := by kernel_rfl
theorem c1_5_11 : chk 1 5 true true = true := by kernel_rfl
end Sm
end Go.Proofs.YtdmedmmdioabgaaGreatDoor
