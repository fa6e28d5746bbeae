import Derived.Test.YtdmedmmdioabgaaGreatDoorZaI
set_option maxRecDepth 100000
set_option maxHeartbeats 0
namespace Go.Proofs.YtdmedmmdioabgaaGreatDoor
namespace Sm
open Ev
theorem c2_4_00 : chk 2 4 false false = true := by kernel_rfl
theorem c2_4_01 : chk 2 4 false true = true := by kernel_rfl
theorem c2_4_10 : chk 2 4 true false = true := by kernel_rfl
theorem c2_4_11 : chk 2 4 true true = true := by kernel_rfl
end Sm
end Go.Proofs.YtdmedmmdioabgaaGreatDoor
