import Derived.Test.YtdmedmmdioabgaaGreatDoorZaI
set_option maxRecDepth 100000
set_option maxHeartbeats 0
namespace Go.Proofs.YtdmedmmdioabgaaGreatDoor
namespace Sm
open Ev
theorem c0_5_00 : chk 0 5 false false = true := by kernel_rfl
theorem c0_5_01 : chk 0 5 false true = true := by kernel_rfl
theorem c0_5_10 : chk 0 5 true false = true := by kernel_rfl
theorem c0_5_11 : chk 0 5 true true = true := by kernel_rfl
theorem c0_6_00 : chk 0 6 false false = true := by kernel_rfl
theorem c0_6_01 : chk 0 6 false true = true := by kernel_rfl
theorem c0_6_10 : chk 0 6 true false = true := by kernel_rfl
theorem c0_6_11 : chk 0 6 true true = true := by kernel_rfl
theorem c0_7_00 : chk 0 7 false false = true := by kernel_rfl
theorem c0_7_01 : chk 0 7 false true = true := by kernel_rfl
theorem c0_7_10 : chk 0 7 true false = true := by kernel_rfl
theorem c0_7_11 : chk 0 7 true true = true := by kernel_rfl
end Sm
end Go.Proofs.YtdmedmmdioabgaaGreatDoor
