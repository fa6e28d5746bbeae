import Derived.Test.YtdmedmmdioabgaaGreatDoorZaI
set_option maxRecDepth 100000
set_option maxHeartbeats 0
namespace Go.Proofs.YtdmedmmdioabgaaGreatDoor
namespace Sm
open Ev
theorem c0_0_00 : chk 0 0 false false = true := by kernel_rfl
theorem c0_0_01 : chk 0 0 false true = true := by kernel_rfl
theorem c0_0_10 : chk 0 0 true false = true := by kernel_rfl
theorem c0_0_11 : chk 0 0 true true = true := by kernel_rfl
theorem c0_1_00 : chk 0 1 false false = true := by kernel_rfl
theorem c0_1_01 : chk 0 1 false true = true := by kernel_rfl
theorem c0_1_10 : chk 0 1 true false = true := by kernel_rfl
theorem c0_1_11 : chk 0 1 true true = true := by kernel_rfl
theorem c0_2_00 : chk 0 2 false false = true := by kernel_rfl
theorem c0_2_01 : chk 0 2 false true = true := by kernel_rfl
theorem c0_2_10 : chk 0 2 true false = true := by kernel_rfl
theorem c0_2_11 : chk 0 2 true true = true := by kernel_rfl
theorem c0_3_00 : chk 0 3 false false = true := by kernel_rfl
theorem c0_3_01 : chk 0 3 false true = true := by kernel_rfl
theorem c0_3_10 : chk 0 3 true false = true := by kernel_rfl
theorem c0_3_11 : chk 0 3 true true = true := by kernel_rfl
theorem c0_4_00 : chk 0 4 false false = true := by kernel_rfl
theorem c0_4_01 : chk 0 4 false true = true := by kernel_rfl
theorem c0_4_10 : chk 0 4 true false = true := by kernel_rfl
theorem c0_4_11 : chk 0 4 true true = true := by kernel_rfl
theorem cn0 : chkN false = true := by kernel_rfl
theorem cn1 : chkN true = true := by kernel_rfl
end Sm
end Go.Proofs.YtdmedmmdioabgaaGreatDoor
