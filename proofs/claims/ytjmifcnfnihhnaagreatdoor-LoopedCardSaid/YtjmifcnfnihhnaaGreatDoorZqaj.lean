/- LOOPED: evaluated. Written by wip/genloop.py. -/
import Derived.Test.YtjmifcnfnihhnaaGreatDoorZeP
import Derived.KernelRfl
set_option linter.unusedVariables false
set_option linter.unusedSimpArgs false
namespace Go.Proofs.YtjmifcnfnihhnaaGreatDoor
namespace Lo
open Ev Go.RowKit Sm Sl
theorem r3_26 : isEnd (nI 0) (nI 0) (.y 5006) [] (nI 2) (runR codY tx3_26 [.y 8, .y 9] 32 2) = true := by kernel_rfl
theorem r3_27 : isEnd (nI 0) (nI 0) (.y 5006) [] (nI 2) (runR codY tx3_27 [.y 8, .y 9] 32 2) = true := by kernel_rfl
theorem r3_28 : isEnd (nI 0) (nI 0) (.y 5006) [] (nI 2) (runR codY tx3_28 [.y 8, .y 9] 32 2) = true := by kernel_rfl
theorem r3_29 : isEnd (nI 0) (nI 0) (.y 5006) [] (nI 2) (runR codY tx3_29 [.y 8, .y 9] 32 2) = true := by kernel_rfl
theorem y5 : isY (compR tc5) = true := by kernel_rfl
theorem r5_0 : isEnd (nI 0) (nI 0) (.y 5003) [] (nI 2) (runR codY tx5_0 [.y 9, .y 8] 40 2) = true := by kernel_rfl
theorem r5_1 : isEnd (nI 0) (nI 0) (.y 5009) [] (nI 2) (runR codY tx5_1 [.y 9, .y 8] 40 2) = true := by kernel_rfl
theorem r5_2 : isEnd (nI 0) (nI 0) (.y 5015) [] (nI 2) (runR codY tx5_2 [.y 9, .y 8] 40 2) = true := by kernel_rfl
theorem r5_3 : isEnd (nI 0) (nI 0) (.y 5021) [] (nI 2) (runR codY tx5_3 [.y 9, .y 8] 40 2) = true := by kernel_rfl
theorem r5_4 : isEnd (nI 0) (nI 0) (.y 5027) [] (nI 2) (runR codY tx5_4 [.y 9, .y 8] 40 2) = true := by kernel_rfl
theorem r5_5 : isEnd (nI 0) (nI 0) (.y 5033) [] (nI 2) (runR codY tx5_5 [.y 9, .y 8] 40 2) = true := by kernel_rfl
end Lo
end Go.Proofs.YtjmifcnfnihhnaaGreatDoor
