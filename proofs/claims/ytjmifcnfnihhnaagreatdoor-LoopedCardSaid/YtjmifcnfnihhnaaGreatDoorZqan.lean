/- LOOPED: evaluated. Written by wip/genloop.py. -/
import Derived.Test.YtjmifcnfnihhnaaGreatDoorZeP
import Derived.KernelRfl
set_option linter.unusedVariables false
set_option linter.unusedSimpArgs false
namespace Go.Proofs.YtjmifcnfnihhnaaGreatDoor
namespace Lo
open Ev Go.RowKit Sm Sl
theorem r5_27 : isEnd (nI 0) (nI 0) (.y 5165) [] (nI 2) (runR codY tx5_27 [.y 9, .y 8] 40 2) = true := by kernel_rfl
theorem r5_28 : isEnd (nI 0) (nI 0) (.y 5171) [] (nI 2) (runR codY tx5_28 [.y 9, .y 8] 40 2) = true := by kernel_rfl
theorem r5_29 : isEnd (nI 0) (nI 0) (.y 5177) [] (nI 2) (runR codY tx5_29 [.y 9, .y 8] 40 2) = true := by kernel_rfl
theorem y7 : isY (compR tc7) = true := by kernel_rfl
theorem y7_0 : isY (compR tx7_0) = true := by kernel_rfl
theorem r7_0 : isEnd (nI 0) (nI 0) (nI 123) [] (nI 0) (runR codY tx7_0 [] 2 1) = true := by kernel_rfl
end Lo
end Go.Proofs.YtjmifcnfnihhnaaGreatDoor
