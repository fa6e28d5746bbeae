/- LOOPED: evaluated. Written by wip/genloop.py. -/
import Derived.Test.YtjmifcnfnihhnaaGreatDoorZeP
import Derived.KernelRfl
set_option linter.unusedVariables false
set_option linter.unusedSimpArgs false
namespace Go.Proofs.YtjmifcnfnihhnaaGreatDoor
namespace Lo
open Ev Go.RowKit Sm Sl
theorem y1 : isY (compR tc1) = true := by kernel_rfl
theorem y1_0 : isY (compR tx1_0) = true := by kernel_rfl
theorem r1_0 : isEnd (nI 0) (nI 0) (nI 0) [] (nI 0) (runR codY tx1_0 [] 2 1) = true := by kernel_rfl
theorem y1_1 : isY (compR tx1_1) = true := by kernel_rfl
theorem r1_1 : isEnd (nI 0) (nI 0) (nI 1) [] (nI 0) (runR codY tx1_1 [] 2 1) = true := by kernel_rfl
theorem y1_2 : isY (compR tx1_2) = true := by kernel_rfl
theorem r1_2 : isEnd (nI 0) (nI 0) (nI 3) [] (nI 0) (runR codY tx1_2 [] 2 1) = true := by kernel_rfl
theorem r1_3 : isEnd (nI 0) (nI 0) (nI 6) [] (nI 0) (runR codY tx1_3 [] 2 1) = true := by kernel_rfl
theorem r1_4 : isEnd (nI 0) (nI 0) (nI 10) [] (nI 0) (runR codY tx1_4 [] 2 1) = true := by kernel_rfl
theorem r1_5 : isEnd (nI 0) (nI 0) (nI 15) [] (nI 0) (runR codY tx1_5 [] 2 1) = true := by kernel_rfl
theorem r1_6 : isEnd (nI 0) (nI 0) (nI 21) [] (nI 0) (runR codY tx1_6 [] 2 1) = true := by kernel_rfl
theorem r1_7 : isEnd (nI 0) (nI 0) (nI 28) [] (nI 0) (runR codY tx1_7 [] 2 1) = true := by kernel_rfl
theorem r1_8 : isEnd (nI 0) (nI 0) (nI 36) [] (nI 0) (runR codY tx1_8 [] 2 1) = true := by kernel_rfl
end Lo
end Go.Proofs.YtjmifcnfnihhnaaGreatDoor
