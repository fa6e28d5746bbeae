/- LOOPED: evaluated. Written by wip/genloop.py. -/
import Derived.Test.YtjmifcnfnihhnaaGreatDoorZeP
import Derived.KernelRfl
set_option linter.unusedVariables false
set_option linter.unusedSimpArgs false
namespace Go.Proofs.YtjmifcnfnihhnaaGreatDoor
namespace Lo
open Ev Go.RowKit Sm Sl
theorem r3_18 : isEnd (nI 0) (nI 0) (.y 5006) [] (nI 2) (runR codY tx3_18 [.y 8, .y 9] 32 2) = true := by kernel_rfl
theorem r3_19 : isEnd (nI 0) (nI 0) (.y 5006) [] (nI 2) (runR codY tx3_19 [.y 8, .y 9] 32 2) = true := by kernel_rfl
theorem r3_20 : isEnd (nI 0) (nI 0) (.y 5006) [] (nI 2) (runR codY tx3_20 [.y 8, .y 9] 32 2) = true := by kernel_rfl
theorem r3_21 : isEnd (nI 0) (nI 0) (.y 5006) [] (nI 2) (runR codY tx3_21 [.y 8, .y 9] 32 2) = true := by kernel_rfl
theorem r3_22 : isEnd (nI 0) (nI 0) (.y 5006) [] (nI 2) (runR codY tx3_22 [.y 8, .y 9] 32 2) = true := by kernel_rfl
theorem r3_23 : isEnd (nI 0) (nI 0) (.y 5006) [] (nI 2) (runR codY tx3_23 [.y 8, .y 9] 32 2) = true := by kernel_rfl
theorem r3_24 : isEnd (nI 0) (nI 0) (.y 5006) [] (nI 2) (runR codY tx3_24 [.y 8, .y 9] 32 2) = true := by kernel_rfl
theorem r3_25 : isEnd (nI 0) (nI 0) (.y 5006) [] (nI 2) (runR codY tx3_25 [.y 8, .y 9] 32 2) = true := by kernel_rfl
end Lo
end Go.Proofs.YtjmifcnfnihhnaaGreatDoor
