import Derived.Test.YtdmedmmdioabgaaGreatDoorZaI
set_option maxRecDepth 100000
set_option maxHeartbeats 0
namespace Go.Proofs.YtdmedmmdioabgaaGreatDoor
namespace Sm
open Ev
theorem c2_8_00 : chk 2 8 false false = true := by kernel_rfl
theorem c2_8_01 : chk 2 8 false true = true := by kernel_rfl
theorem c2_8_10 : chk 2 8 true false = true := by kernel_rfl
theorem c2_8_11 : chk 2 8 true true = true := by kernel_rfl
end Sm
end Go.Proofs.YtdmedmmdioabgaaGreatDoor
