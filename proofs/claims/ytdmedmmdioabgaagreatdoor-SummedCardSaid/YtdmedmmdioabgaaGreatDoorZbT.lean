import Derived.Test.YtdmedmmdioabgaaGreatDoorZaI
set_option maxRecDepth 100000
set_option maxHeartbeats 0
namespace Go.Proofs.YtdmedmmdioabgaaGreatDoor
namespace Sm
open Ev
theorem c2_7_00 : chk 2 7 false false = true := by kernel_rfl
theorem c2_7_01 : chk 2 7 false true = true := by kernel_rfl
theorem c2_7_10 : chk 2 7 true false = true := by kernel_rfl
theorem c2_7_11 : chk 2 7 true true = true := by kernel_rfl
end Sm
end Go.Proofs.YtdmedmmdioabgaaGreatDoor
