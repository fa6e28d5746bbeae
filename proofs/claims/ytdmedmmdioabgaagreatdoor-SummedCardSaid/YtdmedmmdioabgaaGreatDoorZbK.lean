import Derived.Test.YtdmedmmdioabgaaGreatDoorZaI
set_option maxRecDepth 100000
set_option maxHeartbeats 0
namespace Go.Proofs.YtdmedmmdioabgaaGreatDoor
namespace Sm
open Ev
theorem c1_7_00 : chk 1 7 false false = true := by kernel_rfl
theorem c1_7_01 : chk 1 7 false true = true := by kernel_rfl
theorem c1_7_10 : chk 1 7 true false = true := by kernel_rfl
theorem c1_7_11 : chk 1 7 true true = true := by kernel_rfl
end Sm
end Go.Proofs.YtdmedmmdioabgaaGreatDoor
