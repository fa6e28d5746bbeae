/- LOOPED: evaluated. Written by wip/genloop.py. -/
import Derived.Test.YtjmifcnfnihhnaaGreatDoorZeP
import Derived.KernelRfl
set_option linter.unusedVariables false
set_option linter.unusedSimpArgs false
namespace Go.Proofs.YtjmifcnfnihhnaaGreatDoor
namespace Lo
open Ev Go.RowKit Sm Sl
theorem r5_6 : isEnd (nI 0) (nI 0) (.y 5039) [] (nI 2) (runR codY tx5_6 [.y 9, .y 8] 40 2) = true := by kernel_rfl
theorem r5_7 : isEnd (nI 0) (nI 0) (.y 5045) [] (nI 2) (runR codY tx5_7 [.y 9, .y 8] 40 2) = true := by kernel_rfl
theorem r5_8 : isEnd (nI 0) (nI 0) (.y 5051) [] (nI 2) (runR codY tx5_8 [.y 9, .y 8] 40 2) = true := by kernel_rfl
theorem r5_9 : isEnd (nI 0) (nI 0) (.y 5057) [] (nI 2) (runR codY tx5_9 [.y 9, .y 8] 40 2) = true := by kernel_rfl
theorem r5_10 : isEnd (nI 0) (nI 0) (.y 5063) [] (nI 2) (runR codY tx5_10 [.y 9, .y 8] 40 2) = true := by kernel_rfl
theorem r5_11 : isEnd (nI 0) (nI 0) (.y 5069) [] (nI 2) (runR codY tx5_11 [.y 9, .y 8] 40 2) = true := by kernel_rfl
theorem r5_12 : isEnd (nI 0) (nI 0) (.y 5075) [] (nI 2) (runR codY tx5_12 [.y 9, .y 8] 40 2) = true := by kernel_rfl
theorem r5_13 : isEnd (nI 0) (nI 0) (.y 5081) [] (nI 2) (runR codY tx5_13 [.y 9, .y 8] 40 2) = true := by kernel_rfl
theorem r5_14 : isEnd (nI 0) (nI 0) (.y 5087) [] (nI 2) (runR codY tx5_14 [.y 9, .y 8] 40 2) = true := by kernel_rfl
theorem r5_15 : isEnd (nI 0) (nI 0) (.y 5093) [] (nI 2) (runR codY tx5_15 [.y 9, .y 8] 40 2) = true := by kernel_rfl
end Lo
end Go.Proofs.YtjmifcnfnihhnaaGreatDoor
