/- LOOPED: evaluated. Written by wip/genloop.py. -/
import Derived.Test.YtjmifcnfnihhnaaGreatDoorZeP
import Derived.KernelRfl
set_option linter.unusedVariables false
set_option linter.unusedSimpArgs false
namespace Go.Proofs.YtjmifcnfnihhnaaGreatDoor
namespace Lo
open Ev Go.RowKit Sm Sl
theorem y15_100_2 : isY (compR tx15_100_2) = true := by kernel_rfl
theorem r15_100_2 : isEnd (nI 30) (.y 117) (nI 0) [] (nI 0) (runR codY tx15_100_2 [] 6 1) = true := by kernel_rfl
theorem y15_100_3 : isY (compR tx15_100_3) = true := by kernel_rfl
theorem r15_100_3 : isEnd (nI 30) (.y 117) (nI 0) [] (nI 0) (runR codY tx15_100_3 [] 8 1) = true := by kernel_rfl
theorem y15_100_4 : isY (compR tx15_100_4) = true := by kernel_rfl
theorem r15_100_4 : isEnd (nI 30) (.y 117) (nI 0) [] (nI 0) (runR codY tx15_100_4 [] 10 1) = true := by kernel_rfl
theorem y15_100_2_0 : isY (compR tx15_100_2_0) = true := by kernel_rfl
theorem r15_100_2_0 : isEnd (nI 0) (nI 0) (.y 5008) [] (nI 0) (runR codY tx15_100_2_0 [] 6 1) = true := by kernel_rfl
theorem y15_100_4_3 : isY (compR tx15_100_4_3) = true := by kernel_rfl
theorem r15_100_4_3 : isEnd (nI 0) (nI 0) (.y 5008) [] (nI 0) (runR codY tx15_100_4_3 [] 10 1) = true := by kernel_rfl
theorem y15_101_0 : isY (compR tx15_101_0) = true := by kernel_rfl
theorem r15_101_0 : isEnd (nI 30) (.y 122) (nI 0) [] (nI 0) (runR codY tx15_101_0 [] 2 1) = true := by kernel_rfl
end Lo
end Go.Proofs.YtjmifcnfnihhnaaGreatDoor
