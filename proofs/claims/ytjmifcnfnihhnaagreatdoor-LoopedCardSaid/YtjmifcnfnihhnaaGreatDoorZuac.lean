/- LOOPED: evaluated. Written by wip/genloop.py. -/
import Derived.Test.YtjmifcnfnihhnaaGreatDoorZeP
import Derived.KernelRfl
set_option linter.unusedVariables false
set_option linter.unusedSimpArgs false
namespace Go.Proofs.YtjmifcnfnihhnaaGreatDoor
namespace Lo
open Ev Go.RowKit Sm Sl
theorem y13_01 : isY (compR tx13_01) = true := by kernel_rfl
theorem r13_01 : isEnd (nI 0) (nI 0) (.y 5008) [] (nI 0) (runR codY tx13_01 [] 0 1) = true := by kernel_rfl
theorem y13_10 : isY (compR tx13_10) = true := by kernel_rfl
theorem r13_10 : isEnd (nI 0) (nI 0) (.y 5008) [] (nI 0) (runR codY tx13_10 [] 0 1) = true := by kernel_rfl
theorem y13_11 : isY (compR tx13_11) = true := by kernel_rfl
theorem r13_11 : isEnd (nI 0) (nI 0) (.y 5014) [] (nI 0) (runR codY tx13_11 [] 0 1) = true := by kernel_rfl
theorem y14 : isY (compR tx14) = true := by kernel_rfl
theorem r14 : isEnd (nI 0) (nI 0) (.y 5027) [] (nI 2) (runR codY tx14 [.y 8, .y 9] 0 1) = true := by kernel_rfl
theorem y15_000_0 : isY (compR tx15_000_0) = true := by kernel_rfl
theorem r15_000_0 : isEnd (nI 30) (.y 112) (nI 0) [] (nI 0) (runR codY tx15_000_0 [] 2 1) = true := by kernel_rfl
theorem y15_000_1 : isY (compR tx15_000_1) = true := by kernel_rfl
theorem r15_000_1 : isEnd (nI 30) (.y 112) (nI 0) [] (nI 0) (runR codY tx15_000_1 [] 4 1) = true := by kernel_rfl
end Lo
end Go.Proofs.YtjmifcnfnihhnaaGreatDoor
