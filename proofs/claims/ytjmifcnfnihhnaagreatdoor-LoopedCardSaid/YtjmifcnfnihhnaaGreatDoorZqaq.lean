/- LOOPED: evaluated. Written by wip/genloop.py. -/
import Derived.Test.YtjmifcnfnihhnaaGreatDoorZeP
import Derived.KernelRfl
set_option linter.unusedVariables false
set_option linter.unusedSimpArgs false
namespace Go.Proofs.YtjmifcnfnihhnaaGreatDoor
namespace Lo
open Ev Go.RowKit Sm Sl
theorem r7_23 : isEnd (nI 0) (nI 0) (nI 231) [] (nI 0) (runR codY tx7_23 [] 2 1) = true := by kernel_rfl
theorem r7_24 : isEnd (nI 0) (nI 0) (nI 123) [] (nI 0) (runR codY tx7_24 [] 2 1) = true := by kernel_rfl
theorem r7_25 : isEnd (nI 0) (nI 0) (nI 312) [] (nI 0) (runR codY tx7_25 [] 2 1) = true := by kernel_rfl
theorem r7_26 : isEnd (nI 0) (nI 0) (nI 231) [] (nI 0) (runR codY tx7_26 [] 2 1) = true := by kernel_rfl
theorem r7_27 : isEnd (nI 0) (nI 0) (nI 123) [] (nI 0) (runR codY tx7_27 [] 2 1) = true := by kernel_rfl
theorem r7_28 : isEnd (nI 0) (nI 0) (nI 312) [] (nI 0) (runR codY tx7_28 [] 2 1) = true := by kernel_rfl
theorem r7_29 : isEnd (nI 0) (nI 0) (nI 231) [] (nI 0) (runR codY tx7_29 [] 2 1) = true := by kernel_rfl
end Lo
end Go.Proofs.YtjmifcnfnihhnaaGreatDoor
