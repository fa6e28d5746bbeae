/- LOOPED: evaluated. Written by wip/genloop.py. -/
import Derived.Test.YtjmifcnfnihhnaaGreatDoorZeP
import Derived.KernelRfl
set_option linter.unusedVariables false
set_option linter.unusedSimpArgs false
namespace Go.Proofs.YtjmifcnfnihhnaaGreatDoor
namespace Lo
open Ev Go.RowKit Sm Sl
theorem y15_010_2 : isY (compR tx15_010_2) = true := by kernel_rfl
theorem r15_010_2 : isEnd (nI 30) (.y 112) (nI 0) [] (nI 0) (runR codY tx15_010_2 [] 6 1) = true := by kernel_rfl
theorem y15_010_3 : isY (compR tx15_010_3) = true := by kernel_rfl
theorem r15_010_3 : isEnd (nI 30) (.y 112) (nI 0) [] (nI 0) (runR codY tx15_010_3 [] 8 1) = true := by kernel_rfl
theorem y15_010_4 : isY (compR tx15_010_4) = true := by kernel_rfl
theorem r15_010_4 : isEnd (nI 30) (.y 112) (nI 0) [] (nI 0) (runR codY tx15_010_4 [] 10 1) = true := by kernel_rfl
theorem y15_010_2_0 : isY (compR tx15_010_2_0) = true := by kernel_rfl
theorem r15_010_2_0 : isEnd (nI 0) (nI 0) (.y 5008) [] (nI 0) (runR codY tx15_010_2_0 [] 6 1) = true := by kernel_rfl
theorem y15_010_4_3 : isY (compR tx15_010_4_3) = true := by kernel_rfl
theorem r15_010_4_3 : isEnd (nI 0) (nI 0) (.y 5008) [] (nI 0) (runR codY tx15_010_4_3 [] 10 1) = true := by kernel_rfl
theorem y15_011_0 : isY (compR tx15_011_0) = true := by kernel_rfl
theorem r15_011_0 : isEnd (nI 30) (.y 117) (nI 0) [] (nI 0) (runR codY tx15_011_0 [] 2 1) = true := by kernel_rfl
end Lo
end Go.Proofs.YtjmifcnfnihhnaaGreatDoor
