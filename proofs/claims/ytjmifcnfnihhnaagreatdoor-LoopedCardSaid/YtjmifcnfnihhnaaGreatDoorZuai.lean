/- LOOPED: evaluated. Written by wip/genloop.py. -/
import Derived.Test.YtjmifcnfnihhnaaGreatDoorZeP
import Derived.KernelRfl
set_option linter.unusedVariables false
set_option linter.unusedSimpArgs false
namespace Go.Proofs.YtjmifcnfnihhnaaGreatDoor
namespace Lo
open Ev Go.RowKit Sm Sl
theorem y15_101_1 : isY (compR tx15_101_1) = true := by kernel_rfl
theorem r15_101_1 : isEnd (nI 30) (.y 122) (nI 0) [] (nI 0) (runR codY tx15_101_1 [] 4 1) = true := by kernel_rfl
theorem y15_101_2 : isY (compR tx15_101_2) = true := by kernel_rfl
theorem r15_101_2 : isEnd (nI 30) (.y 122) (nI 0) [] (nI 0) (runR codY tx15_101_2 [] 6 1) = true := by kernel_rfl
theorem y15_101_3 : isY (compR tx15_101_3) = true := by kernel_rfl
theorem r15_101_3 : isEnd (nI 30) (.y 122) (nI 0) [] (nI 0) (runR codY tx15_101_3 [] 8 1) = true := by kernel_rfl
theorem y15_101_4 : isY (compR tx15_101_4) = true := by kernel_rfl
theorem r15_101_4 : isEnd (nI 30) (.y 122) (nI 0) [] (nI 0) (runR codY tx15_101_4 [] 10 1) = true := by kernel_rfl
theorem y15_110_0 : isY (compR tx15_110_0) = true := by kernel_rfl
theorem r15_110_0 : isEnd (nI 30) (.y 117) (nI 0) [] (nI 0) (runR codY tx15_110_0 [] 2 1) = true := by kernel_rfl
theorem y15_110_1 : isY (compR tx15_110_1) = true := by kernel_rfl
theorem r15_110_1 : isEnd (nI 30) (.y 117) (nI 0) [] (nI 0) (runR codY tx15_110_1 [] 4 1) = true := by kernel_rfl
end Lo
end Go.Proofs.YtjmifcnfnihhnaaGreatDoor
