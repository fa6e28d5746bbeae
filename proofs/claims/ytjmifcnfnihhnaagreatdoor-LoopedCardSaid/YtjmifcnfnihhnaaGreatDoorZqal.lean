/- LOOPED: evaluated. Written by wip/genloop.py. -/
import Derived.Test.YtjmifcnfnihhnaaGreatDoorZeP
import Derived.KernelRfl
set_option linter.unusedVariables false
set_option linter.unusedSimpArgs false
namespace Go.Proofs.YtjmifcnfnihhnaaGreatDoor
namespace Lo
open Ev Go.RowKit Sm Sl
theorem r5_16 : isEnd (nI 0) (nI 0) (.y 5099) [] (nI 2) (runR codY tx5_16 [.y 9, .y 8] 40 2) = true := by kernel_rfl
theorem r5_17 : isEnd (nI 0) (nI 0) (.y 5105) [] (nI 2) (runR codY tx5_17 [.y 9, .y 8] 40 2) = true := by kernel_rfl
theorem r5_18 : isEnd (nI 0) (nI 0) (.y 5111) [] (nI 2) (runR codY tx5_18 [.y 9, .y 8] 40 2) = true := by kernel_rfl
theorem r5_19 : isEnd (nI 0) (nI 0) (.y 5117) [] (nI 2) (runR codY tx5_19 [.y 9, .y 8] 40 2) = true := by kernel_rfl
theorem r5_20 : isEnd (nI 0) (nI 0) (.y 5123) [] (nI 2) (runR codY tx5_20 [.y 9, .y 8] 40 2) = true := by kernel_rfl
theorem r5_21 : isEnd (nI 0) (nI 0) (.y 5129) [] (nI 2) (runR codY tx5_21 [.y 9, .y 8] 40 2) = true := by kernel_rfl
end Lo
end Go.Proofs.YtjmifcnfnihhnaaGreatDoor
