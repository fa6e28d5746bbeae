/- LOOPED: evaluated. Written by wip/genloop.py. -/
import Derived.Test.YtjmifcnfnihhnaaGreatDoorZeP
import Derived.KernelRfl
set_option linter.unusedVariables false
set_option linter.unusedSimpArgs false
namespace Go.Proofs.YtjmifcnfnihhnaaGreatDoor
namespace Lo
open Ev Go.RowKit Sm Sl
theorem r1_28 : isEnd (nI 0) (nI 0) (nI 406) [] (nI 0) (runR codY tx1_28 [] 2 1) = true := by kernel_rfl
theorem r1_29 : isEnd (nI 0) (nI 0) (nI 435) [] (nI 0) (runR codY tx1_29 [] 2 1) = true := by kernel_rfl
theorem y2 : isY (compR tc2) = true := by kernel_rfl
theorem y2_0 : isY (compR tx2_0) = true := by kernel_rfl
theorem r2_0 : isEnd (nI 0) (nI 0) (nI 0) [] (nI 0) (runR codY tx2_0 [] 2 1) = true := by kernel_rfl
theorem y2_1 : isY (compR tx2_1) = true := by kernel_rfl
theorem r2_1 : isEnd (nI 0) (nI 0) (nI 1) [] (nI 0) (runR codY tx2_1 [] 2 2) = true := by kernel_rfl
theorem y2_2 : isY (compR tx2_2) = true := by kernel_rfl
theorem r2_2 : isEnd (nI 0) (nI 0) (nI 3) [] (nI 0) (runR codY tx2_2 [] 2 3) = true := by kernel_rfl
end Lo
end Go.Proofs.YtjmifcnfnihhnaaGreatDoor
