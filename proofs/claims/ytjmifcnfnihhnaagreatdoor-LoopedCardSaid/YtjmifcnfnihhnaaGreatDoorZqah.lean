/- LOOPED: evaluated. Written by wip/genloop.py. -/
import Derived.Test.YtjmifcnfnihhnaaGreatDoorZeP
import Derived.KernelRfl
set_option linter.unusedVariables false
set_option linter.unusedSimpArgs false
namespace Go.Proofs.YtjmifcnfnihhnaaGreatDoor
namespace Lo
open Ev Go.RowKit Sm Sl
theorem r3_5 : isEnd (nI 0) (nI 0) (.y 5006) [] (nI 2) (runR codY tx3_5 [.y 8, .y 9] 32 2) = true := by kernel_rfl
theorem r3_6 : isEnd (nI 0) (nI 0) (.y 5006) [] (nI 2) (runR codY tx3_6 [.y 8, .y 9] 32 2) = true := by kernel_rfl
theorem r3_7 : isEnd (nI 0) (nI 0) (.y 5006) [] (nI 2) (runR codY tx3_7 [.y 8, .y 9] 32 2) = true := by kernel_rfl
theorem r3_8 : isEnd (nI 0) (nI 0) (.y 5006) [] (nI 2) (runR codY tx3_8 [.y 8, .y 9] 32 2) = true := by kernel_rfl
theorem r3_9 : isEnd (nI 0) (nI 0) (.y 5006) [] (nI 2) (runR codY tx3_9 [.y 8, .y 9] 32 2) = true := by kernel_rfl
theorem r3_10 : isEnd (nI 0) (nI 0) (.y 5006) [] (nI 2) (runR codY tx3_10 [.y 8, .y 9] 32 2) = true := by kernel_rfl
theorem r3_11 : isEnd (nI 0) (nI 0) (.y 5006) [] (nI 2) (runR codY tx3_11 [.y 8, .y 9] 32 2) = true := by kernel_rfl
theorem r3_12 : isEnd (nI 0) (nI 0) (.y 5006) [] (nI 2) (runR codY tx3_12 [.y 8, .y 9] 32 2) = true := by kernel_rfl
theorem r3_13 : isEnd (nI 0) (nI 0) (.y 5006) [] (nI 2) (runR codY tx3_13 [.y 8, .y 9] 32 2) = true := by kernel_rfl
theorem r3_14 : isEnd (nI 0) (nI 0) (.y 5006) [] (nI 2) (runR codY tx3_14 [.y 8, .y 9] 32 2) = true := by kernel_rfl
theorem r3_15 : isEnd (nI 0) (nI 0) (.y 5006) [] (nI 2) (runR codY tx3_15 [.y 8, .y 9] 32 2) = true := by kernel_rfl
theorem r3_16 : isEnd (nI 0) (nI 0) (.y 5006) [] (nI 2) (runR codY tx3_16 [.y 8, .y 9] 32 2) = true := by kernel_rfl
theorem r3_17 : isEnd (nI 0) (nI 0) (.y 5006) [] (nI 2) (runR codY tx3_17 [.y 8, .y 9] 32 2) = true := by kernel_rfl
end Lo
end Go.Proofs.YtjmifcnfnihhnaaGreatDoor
