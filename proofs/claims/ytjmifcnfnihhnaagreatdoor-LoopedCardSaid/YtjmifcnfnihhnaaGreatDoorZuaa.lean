/- LOOPED: evaluated. Written by wip/genloop.py. -/
import Derived.Test.YtjmifcnfnihhnaaGreatDoorZeP
import Derived.KernelRfl
set_option linter.unusedVariables false
set_option linter.unusedSimpArgs false
namespace Go.Proofs.YtjmifcnfnihhnaaGreatDoor
namespace Lo
open Ev Go.RowKit Sm Sl
theorem y4_00 : isY (compR tx4_00) = true := by kernel_rfl
theorem r4_00 : isEnd (nI 0) (nI 0) (.y 5013) [] (nI 1) (runR codY tx4_00 [.y 8] 40 2) = true := by kernel_rfl
theorem y4_01 : isY (compR tx4_01) = true := by kernel_rfl
theorem r4_01 : isEnd (nI 0) (nI 0) (.y 5019) [] (nI 1) (runR codY tx4_01 [.y 8] 40 2) = true := by kernel_rfl
theorem y4_10 : isY (compR tx4_10) = true := by kernel_rfl
theorem r4_10 : isEnd (nI 0) (nI 0) (.y 5019) [] (nI 1) (runR codY tx4_10 [.y 8] 40 2) = true := by kernel_rfl
theorem y4_11 : isY (compR tx4_11) = true := by kernel_rfl
theorem r4_11 : isEnd (nI 0) (nI 0) (.y 5025) [] (nI 1) (runR codY tx4_11 [.y 8] 40 2) = true := by kernel_rfl
theorem y8_00 : isY (compR tx8_00) = true := by kernel_rfl
theorem r8_00 : isEnd (nI 0) (nI 0) (.y 5002) [.y 4, .y 5] (nI 0) (runR codY tx8_00 [] 0 1) = true := by kernel_rfl
theorem y8_01 : isY (compR tx8_01) = true := by kernel_rfl
theorem r8_01 : isEnd (nI 0) (nI 0) (.y 5008) [.y 4, .y 5005] (nI 0) (runR codY tx8_01 [] 0 1) = true := by kernel_rfl
end Lo
end Go.Proofs.YtjmifcnfnihhnaaGreatDoor
