import Derived.Test.YtdmedmmdioabgaaGreatDoorZaJ
set_option maxRecDepth 100000
set_option maxHeartbeats 0
namespace Go.Proofs.YtdmedmmdioabgaaGreatDoor
namespace Sm
open Ev
theorem cr0_00 : chkR 0 false false = true := by kernel_rfl
theorem cr0_01 : chkR 0 false true = true := by kernel_rfl
theorem cr0_10 : chkR 0 true false = true := by kernel_rfl
theorem cr0_11 : chkR 0 true true = true := by kernel_rfl
theorem cr1_00 : chkR 1 false false = true := by kernel_rfl
theorem cr1_01 : chkR 1 false true = true := by kernel_rfl
theorem cr1_10 : chkR 1 true false = true := by kernel_rfl
theorem cr1_11 : chkR 1 true true = true := by kernel_rfl
theorem cr2_00 : chkR 2 false false = true := by kernel_rfl
theorem cr2_01 : chkR 2 false true = true := by kernel_rfl
theorem cr2_10 : chkR 2 true false = true := by kernel_rfl
theorem cr2_11 : chkR 2 true true = true := by kernel_rfl
theorem cr3_00 : chkR 3 false false = true := by kernel_rfl
theorem cr3_01 : chkR 3 false true = true := by kernel_rfl
theorem cr3_10 : chkR 3 true false = true := by kernel_rfl
theorem cr3_11 : chkR 3 true true = true := by kernel_rfl
theorem cr4_00 : chkR 4 false false = true := by kernel_rfl
theorem cr4_01 : chkR 4 false true = true := by kernel_rfl
theorem cr4_10 : chkR 4 true false = true := by kernel_rfl
theorem cr4_11 : chkR 4 true true = true := by kernel_rfl
theorem cr5_00 : chkR 5 false false = true := by kernel_rfl
theorem cr5_01 : chkR 5 false true = true := by kernel_rfl
theorem cr5_10 : chkR 5 true false = true := by kernel_rfl
theorem cr5_11 : chkR 5 true true = true := by kernel_rfl
end Sm
end Go.Proofs.YtdmedmmdioabgaaGreatDoor
