import Derived.Test.YtdmedmmdioabgaaGreatDoorZaJ
set_option maxRecDepth 100000
set_option maxHeartbeats 0
namespace Go.Proofs.YtdmedmmdioabgaaGreatDoor
namespace Sm
open Ev
theorem cp8 : chkP 8 = true := by kernel_rfl
theorem cu8 : isS (prC 8) (compC (prT 8)) = true := by kernel_rfl
theorem cz8 : chk0 8 = true := by kernel_rfl
theorem cp9 : chkP 9 = true := by kernel_rfl
theorem cu9 : isS (prC 9) (compC (prT 9)) = true := by kernel_rfl
theorem cz9 : chk0 9 = true := by kernel_rfl
theorem cp10 : chkP 10 = true := by kernel_rfl
theorem cu10 : isS (prC 10) (compC (prT 10)) = true := by kernel_rfl
theorem cz10 : chk0 10 = true := by kernel_rfl
end Sm
end Go.Proofs.YtdmedmmdioabgaaGreatDoor
