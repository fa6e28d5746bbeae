import Derived.Test.YtdmedmmdioabgaaGreatDoorZaJ
set_option maxRecDepth 100000
set_option maxHeartbeats 0
namespace Go.Proofs.YtdmedmmdioabgaaGreatDoor
namespace Sm
open Ev
theorem cr6_00 : chkR 6 false false = true := by kernel_rfl
theorem cr6_01 : chkR 6 false true = true := by kernel_rfl
theorem cr6_10 : chkR 6 true false = true := by kernel_rfl
theorem cr6_11 : chkR 6 true true = true := by kernel_rfl
theorem cr7_00 : chkR 7 false false = true := by kernel_rfl
theorem cr7_01 : chkR 7 false true = true := by kernel_rfl
theorem cr7_10 : chkR 7 true false = true := by kernel_rfl
theorem cr7_11 : chkR 7 true true = true := by kernel_rfl
theorem cr8_00 : chkR 8 false false = true := by kernel_rfl
theorem cr8_01 : chkR 8 false true = true := by kernel_rfl
theorem cr8_10 : chkR 8 true false = true := by kernel_rfl
theorem cr8_11 : chkR 8 true true = true := by kernel_rfl
theorem cr9_00 : chkR 9 false false = true := by kernel_rfl
theorem cr9_01 : chkR 9 false true = true := by kernel_rfl
theorem cr9_10 : chkR 9 true false = true := by kernel_rfl
theorem cr9_11 : chkR 9 true true = true := by kernel_rfl
theorem cr10_00 : chkR 10 false false = true := by kernel_rfl
theorem cr10_01 : chkR 10 false true = true := by kernel_rfl
theorem cr10_10 : chkR 10 true false = true := by kernel_rfl
theorem cr10_11 : chkR 10 true true = true := by kernel_rfl
end Sm
end Go.Proofs.YtdmedmmdioabgaaGreatDoor
