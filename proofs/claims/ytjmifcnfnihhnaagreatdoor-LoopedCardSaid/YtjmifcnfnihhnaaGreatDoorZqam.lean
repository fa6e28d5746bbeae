/- LOOPED: evaluated. Written by wip/genloop.py. -/
import Derived.Test.YtjmifcnfnihhnaaGreatDoorZeP
import Derived.KernelRfl
set_option linter.unusedVariables false
set_option linter.unusedSimpArgs false
namespace Go.Proofs.YtjmifcnfnihhnaaGreatDoor
namespace Lo
open Ev Go.RowKit Sm Sl
theorem r5_22 : isEnd (nI 0) (nI 0) (.y 5135) [] (nI 2) (runR codY tx5_22 [.y 9, .y 8] 40 2) = true := by kernel_rfl
theorem r5_23 : isEnd (nI 0) (nI 0) (.y 5141) [] (nI 2) (runR codY tx5_23 [.y 9, .y 8] 40 2) = true := by kernel_rfl
theorem r5_24 : isEnd (nI 0) (nI 0) (.y 5147) [] (nI 2) (runR codY tx5_24 [.y 9, .y 8] 40 2) = true := by kernel_rfl
theorem r5_25 : isEnd (nI 0) (nI 0) (.y 5153) [] (nI 2) (runR codY tx5_25 [.y 9, .y 8] 40 2) = true := by kernel_rfl
theorem r5_26 : isEnd (nI 0) (nI 0) (.y 5159) [] (nI 2) (runR codY tx5_26 [.y 9, .y 8] 40 2) = true := by kernel_rfl
end Lo
end Go.Proofs.YtjmifcnfnihhnaaGreatDoor
