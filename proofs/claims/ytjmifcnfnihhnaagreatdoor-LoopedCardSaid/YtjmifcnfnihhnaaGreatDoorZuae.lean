/- LOOPED: evaluated. Written by wip/genloop.py. -/
import Derived.Test.YtjmifcnfnihhnaaGreatDoorZeP
import Derived.KernelRfl
set_option linter.unusedVariables false
set_option linter.unusedSimpArgs false
namespace Go.Proofs.YtjmifcnfnihhnaaGreatDoor
namespace Lo
open Ev Go.RowKit Sm Sl
theorem y15_001_1 : isY (compR tx15_001_1) = true := by kernel_rfl
theorem r15_001_1 : isEnd (nI 30) (.y 117) (nI 0) [] (nI 0) (runR codY tx15_001_1 [] 4 1) = true := by kernel_rfl
theorem y15_001_2 : isY (compR tx15_001_2) = true := by kernel_rfl
theorem r15_001_2 : isEnd (nI 30) (.y 117) (nI 0) [] (nI 0) (runR codY tx15_001_2 [] 6 1) = true := by kernel_rfl
theorem y15_001_3 : isY (compR tx15_001_3) = true := by kernel_rfl
theorem r15_001_3 : isEnd (nI 30) (.y 117) (nI 0) [] (nI 0) (runR codY tx15_001_3 [] 8 1) = true := by kernel_rfl
theorem y15_001_4 : isY (compR tx15_001_4) = true := by kernel_rfl
theorem r15_001_4 : isEnd (nI 30) (.y 117) (nI 0) [] (nI 0) (runR codY tx15_001_4 [] 10 1) = true := by kernel_rfl
theorem y15_010_0 : isY (compR tx15_010_0) = true := by kernel_rfl
theorem r15_010_0 : isEnd (nI 30) (.y 112) (nI 0) [] (nI 0) (runR codY tx15_010_0 [] 2 1) = true := by kernel_rfl
theorem y15_010_1 : isY (compR tx15_010_1) = true := by kernel_rfl
theorem r15_010_1 : isEnd (nI 30) (.y 112) (nI 0) [] (nI 0) (runR codY tx15_010_1 [] 4 1) = true := by kernel_rfl
end Lo
end Go.Proofs.YtjmifcnfnihhnaaGreatDoor
