import Derived.Test.YtdmedmmdioabgaaGreatDoorZaJ
set_option maxRecDepth 100000
set_option maxHeartbeats 0
namespace Go.Proofs.YtdmedmmdioabgaaGreatDoor
namespace Sm
open Ev
theorem cp0 : chkP 0 = true := by kernel_rfl
theorem cu0 : isS (prC 0) (compC (prT 0)) = true := by kernel_rfl
theorem cp1 : chkP 1 = true := by kernel_rfl
theorem cu1 : isS (prC 1) (compC (prT 1)) = true := by kernel_rfl
theorem cp2 : chkP 2 = true := by kernel_rfl
theorem cu2 : isS (prC 2) (compC (prT 2)) = true := by kernel_rfl
theorem cp3 : chkP 3 = true := by kernel_rfl
theorem cu3 : isS (prC 3) (compC (prT 3)) = true := by kernel_rfl
end Sm
end Go.Proofs.YtdmedmmdioabgaaGreatDoor
