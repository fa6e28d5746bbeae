/- LOOPED: evaluated. Written by wip/genloop.py. -/
import Derived.Test.YtjmifcnfnihhnaaGreatDoorZeP
import Derived.KernelRfl
set_option linter.unusedVariables false
set_option linter.unusedSimpArgs false
namespace Go.Proofs.YtjmifcnfnihhnaaGreatDoor
namespace Lo
open Ev Go.RowKit Sm Sl
theorem y15_111_1 : isY (compR tx15_111_1) = true := by kernel_rfl
theorem r15_111_1 : isEnd (nI 30) (.y 122) (nI 0) [] (nI 0) (runR codY tx15_111_1 [] 4 1) = true := by kernel_rfl
theorem y15_111_2 : isY (compR tx15_111_2) = true := by kernel_rfl
theorem r15_111_2 : isEnd (nI 30) (.y 122) (nI 0) [] (nI 0) (runR codY tx15_111_2 [] 6 1) = true := by kernel_rfl
theorem y15_111_3 : isY (compR tx15_111_3) = true := by kernel_rfl
theorem r15_111_3 : isEnd (nI 30) (.y 122) (nI 0) [] (nI 0) (runR codY tx15_111_3 [] 8 1) = true := by kernel_rfl
theorem y15_111_4 : isY (compR tx15_111_4) = true := by kernel_rfl
theorem r15_111_4 : isEnd (nI 30) (.y 122) (nI 0) [] (nI 0) (runR codY tx15_111_4 [] 10 1) = true := by kernel_rfl
theorem y16 : isY (compR tc16) = true := by kernel_rfl
theorem r16_lo : isEnd (nI 31) (.y 102) (nI 0) [] (nI 1) (runR codY tx16_lo [.y 10] 66 1) = true := by kernel_rfl
theorem r16_hi : isEnd (nI 31) (.y 102) (nI 0) [] (nI 1) (runR codY tx16_hi [.y 10] 66 1) = true := by kernel_rfl
theorem r16_0 : isEnd (nI 0) (nI 0) (nI 0) [] (nI 1) (runR codY tx16_0 [nI 0] 66 1) = true := by kernel_rfl
theorem r16_1 : isEnd (nI 0) (nI 0) (nI 1) [] (nI 1) (runR codY tx16_1 [nI 1] 66 1) = true := by kernel_rfl
theorem r16_2 : isEnd (nI 0) (nI 0) (nI 2) [] (nI 1) (runR codY tx16_2 [nI 2] 66 1) = true := by kernel_rfl
theorem r16_3 : isEnd (nI 0) (nI 0) (nI 3) [] (nI 1) (runR codY tx16_3 [nI 3] 66 1) = true := by kernel_rfl
theorem r16_4 : isEnd (nI 0) (nI 0) (nI 4) [] (nI 1) (runR codY tx16_4 [nI 4] 66 1) = true := by kernel_rfl
theorem r16_5 : isEnd (nI 0) (nI 0) (nI 5) [] (nI 1) (runR codY tx16_5 [nI 5] 66 1) = true := by kernel_rfl
theorem r16_6 : isEnd (nI 0) (nI 0) (nI 6) [] (nI 1) (runR codY tx16_6 [nI 6] 66 1) = true := by kernel_rfl
theorem r16_7 : isEnd (nI 0) (nI 0) (nI 7) [] (nI 1) (runR codY tx16_7 [nI 7] 66 1) = true := by kernel_rfl
theorem r16_8 : isEnd (nI 0) (nI 0) (nI 8) [] (nI 1) (runR codY tx16_8 [nI 8] 66 1) = true := by kernel_rfl
theorem r16_9 : isEnd (nI 0) (nI 0) (nI 9) [] (nI 1) (runR codY tx16_9 [nI 9] 66 1) = true := by kernel_rfl
end Lo
end Go.Proofs.YtjmifcnfnihhnaaGreatDoor
