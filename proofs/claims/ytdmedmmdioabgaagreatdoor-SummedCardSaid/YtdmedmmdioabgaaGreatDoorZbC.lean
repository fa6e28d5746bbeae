import Derived.Test.YtdmedmmdioabgaaGreatDoorZaI
set_option maxRecDepth 100000
set_option maxHeartbeats 0
namespace Go.Proofs.YtdmedmmdioabgaaGreatDoor
namespace Sm
open Ev
theorem c0_8_00 : chk 0 8 false false = true := by kernel_rfl
theorem c0_8_01 : chk 0 8 false true = true := by kernel_rfl
theorem c0_8_10 : chk 0 8 true false = true := by kernel_rfl
theorem c0_8_11 : chk 0 8 true true = true := by kernel_rfl
theorem c0_9_00 : chk 0 9 false false = true := by kernel_rfl
theorem c0_9_01 : chk 0 9 false true = true := by kernel_rfl
theorem c0_9_10 : chk 0 9 true false = true := by kernel_rfl
theorem c0_9_11 : chk 0 9 true true = true := by kernel_rfl
theorem c0_10_00 : chk 0 10 false false = true := by kernel_rfl
theorem c0_10_01 : chk 0 10 false true = true := by kernel_rfl
theorem c0_10_10 : chk 0 10 true false = true := by kernel_rfl
theorem c0_10_11 : chk 0 10 true true = true := by kernel_rfl
end Sm
end Go.Proofs.YtdmedmmdioabgaaGreatDoor
