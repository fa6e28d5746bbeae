import Derived.Test.YtdmedmmdioabgaaGreatDoorZaJ
set_option maxRecDepth 100000
set_option maxHeartbeats 0
namespace Go.Proofs.YtdmedmmdioabgaaGreatDoor
namespace Sm
open Ev
theorem crn0 : chkRN false = true := by kernel_rfl
theorem crn1 : chkRN true = true := by kernel_rfl
theorem cqn : isS ngC (compC ngT) = true := by kernel_rfl
theorem cq0 : isS (rdC 0) (compC (rdT 0)) = true := by kernel_rfl
theorem cq1 : isS (rdC 1) (compC (rdT 1)) = true := by kernel_rfl
theorem cq2 : isS (rdC 2) (compC (rdT 2)) = true := by kernel_rfl
theorem cq3 : isS (rdC 3) (compC (rdT 3)) = true := by kernel_rfl
theorem cq4 : isS (rdC 4) (compC (rdT 4)) = true := by kernel_rfl
theorem cq5 : isS (rdC 5) (compC (rdT 5)) = true := by kernel_rfl
theorem cq6 : isS (rdC 6) (compC (rdT 6)) = true := by kernel_rfl
theorem cq7 : isS (rdC 7) (compC (rdT 7)) = true := by kernel_rfl
theorem cq8 : isS (rdC 8) (compC (rdT 8)) = true := by kernel_rfl
theorem cq9 : isS (rdC 9) (compC (rdT 9)) = true := by kernel_rfl
theorem cq10 : isS (rdC 10) (compC (rdT 10)) = true := by kernel_rfl
end Sm
end Go.Proofs.YtdmedmmdioabgaaGreatDoor
