import Derived.Test.YtdmedmmdioabgaaGreatDoorZaJ
set_option maxRecDepth 100000
set_option maxHeartbeats 0
namespace Go.Proofs.YtdmedmmdioabgaaGreatDoor
namespace Sm
open Ev
theorem cp4 : chkP 4 = true := by kernel_rfl
theorem cu4 : isS (prC 4) (compC (prT 4)) = true := by kernel_rfl
theorem cp5 : chkP 5 = true := by kernel_rfl
theorem cu5 : isS (prC 5) (compC (prT 5)) = true := by kernel_rfl
theorem cz5 : chk0 5 = true := by kernel_rfl
theorem cp6 : chkP 6 = true := by kernel_rfl
theorem cu6 : isS (prC 6) (compC (prT 6)) = true := by kernel_rfl
theorem cz6 : chk0 6 = true := by kernel_rfl
theorem cp7 : chkP 7 = true := by kernel_rfl
theorem cu7 : isS (prC 7) (compC (prT 7)) = true := by kernel_rfl
theorem cz7 : chk0 7 = true := by kernel_rfl
end Sm
end Go.Proofs.YtdmedmmdioabgaaGreatDoor
