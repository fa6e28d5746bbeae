import Derived.Test.YtdmedmmdioabgaaGreatDoorZaI
set_option maxRecDepth 100000
set_option maxHeartbeats 0
namespace Go.Proofs.YtdmedmmdioabgaaGreatDoor
namespace Sm
open Ev
theorem c1_4_00 : chk 1 4 false false = true := by kernel_rfl
theorem c1_4_01 : chk 1 4 false true = true := by kernel_rfl
theorem c1_4_10 : chk 1 4 true false = true := by kernel_rfl
theorem c1_4_11 : chk 1 4 true true = true := by kernel_rfl
end Sm
end Go.Proofs.YtdmedmmdioabgaaGreatDoor
