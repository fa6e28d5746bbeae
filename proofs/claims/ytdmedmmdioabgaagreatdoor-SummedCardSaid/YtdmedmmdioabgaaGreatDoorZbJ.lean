import Derived.Test.YtdmedmmdioabgaaGreatDoorZaI
set_option maxRecDepth 100000
set_option maxHeartbeats 0
namespace Go.Proofs.YtdmedmmdioabgaaGreatDoor
namespace Sm
open Ev
theorem c1_6_00 : chk 1 6 false false = true := by kernel_rfl
theorem c1_6_01 : chk 1 6 false true = true := by kernel_rfl
theorem c1_6_10 : chk 1 6 true false = true := by kernel_rfl
theorem c1_6_11 : chk 1 6 true true = true := by kernel_rfl
end Sm
end Go.Proofs.YtdmedmmdioabgaaGreatDoor
