/- LOOPED: evaluated. Written by wip/genloop.py. -/
import Derived.Test.YtjmifcnfnihhnaaGreatDoorZeP
import Derived.KernelRfl
set_option linter.unusedVariables false
set_option linter.unusedSimpArgs false
namespace Go.Proofs.YtjmifcnfnihhnaaGreatDoor
namespace Lo
open Ev Go.RowKit Sm Sl
theorem y15_000_2 : isY (compR tx15_000_2) = true := by kernel_rfl
theorem r15_000_2 : isEnd (nI 30) (.y 112) (nI 0) [] (nI 0) (runR codY tx15_000_2 [] 6 1) = true := by kernel_rfl
theorem y15_000_3 : isY (compR tx15_000_3) = true := by kernel_rfl
theorem r15_000_3 : isEnd (nI 30) (.y 112) (nI 0) [] (nI 0) (runR codY tx15_000_3 [] 8 1) = true := by kernel_rfl
theorem y15_000_4 : isY (compR tx15_000_4) = true := by kernel_rfl
theorem r15_000_4 : isEnd (nI 30) (.y 112) (nI 0) [] (nI 0) (runR codY tx15_000_4 [] 10 1) = true := by kernel_rfl
theorem y15_000_2_0 : isY (compR tx15_000_2_0) = true := by kernel_rfl
theorem r15_000_2_0 : isEnd (nI 0) (nI 0) (.y 5002) [] (nI 0) (runR codY tx15_000_2_0 [] 6 1) = true := by kernel_rfl
theorem y15_000_4_3 : isY (compR tx15_000_4_3) = true := by kernel_rfl
theorem r15_000_4_3 : isEnd (nI 0) (nI 0) (.y 5002) [] (nI 0) (runR codY tx15_000_4_3 [] 10 1) = true := by kernel_rfl
theorem y15_001_0 : isY (compR tx15_001_0) = true := by kernel_rfl
theorem r15_001_0 : isEnd (nI 30) (.y 117) (nI 0) [] (nI 0) (runR codY tx15_001_0 [] 2 1) = true := by kernel_rfl
end Lo
end Go.Proofs.YtjmifcnfnihhnaaGreatDoor
