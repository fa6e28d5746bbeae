/- LOOPED: evaluated. Written by wip/genloop.py. -/
import Derived.Test.YtjmifcnfnihhnaaGreatDoorZeP
import Derived.KernelRfl
set_option linter.unusedVariables false
set_option linter.unusedSimpArgs false
namespace Go.Proofs.YtjmifcnfnihhnaaGreatDoor
namespace Lo
open Ev Go.RowKit Sm Sl
theorem r2_25 : isEnd (nI 0) (nI 0) (nI 325) [] (nI 0) (runR codY tx2_25 [] 2 26) = true := by kernel_rfl
theorem r2_26 : isEnd (nI 0) (nI 0) (nI 351) [] (nI 0) (runR codY tx2_26 [] 2 27) = true := by kernel_rfl
theorem r2_27 : isEnd (nI 0) (nI 0) (nI 378) [] (nI 0) (runR codY tx2_27 [] 2 28) = true := by kernel_rfl
theorem r2_28 : isEnd (nI 0) (nI 0) (nI 406) [] (nI 0) (runR codY tx2_28 [] 2 29) = true := by kernel_rfl
theorem r2_29 : isEnd (nI 0) (nI 0) (nI 435) [] (nI 0) (runR codY tx2_29 [] 2 30) = true := by kernel_rfl
theorem y3 : isY (compR tc3) = true := by kernel_rfl
theorem r3_0 : isEnd (nI 0) (nI 0) (.y 5006) [] (nI 2) (runR codY tx3_0 [.y 8, .y 9] 32 2) = true := by kernel_rfl
theorem r3_1 : isEnd (nI 0) (nI 0) (.y 5006) [] (nI 2) (runR codY tx3_1 [.y 8, .y 9] 32 2) = true := by kernel_rfl
theorem r3_2 : isEnd (nI 0) (nI 0) (.y 5006) [] (nI 2) (runR codY tx3_2 [.y 8, .y 9] 32 2) = true := by kernel_rfl
theorem r3_3 : isEnd (nI 0) (nI 0) (.y 5006) [] (nI 2) (runR codY tx3_3 [.y 8, .y 9] 32 2) = true := by kernel_rfl
theorem r3_4 : isEnd (nI 0) (nI 0) (.y 5006) [] (nI 2) (runR codY tx3_4 [.y 8, .y 9] 32 2) = true := by kernel_rfl
end Lo
end Go.Proofs.YtjmifcnfnihhnaaGreatDoor
