/- LOOPED: evaluated. Written by wip/genloop.py. -/
import Derived.Test.YtjmifcnfnihhnaaGreatDoorZeP
import Derived.KernelRfl
set_option linter.unusedVariables false
set_option linter.unusedSimpArgs false
namespace Go.Proofs.YtjmifcnfnihhnaaGreatDoor
namespace Lo
open Ev Go.RowKit Sm Sl
theorem y7_1 : isY (compR tx7_1) = true := by kernel_rfl
theorem r7_1 : isEnd (nI 0) (nI 0) (nI 312) [] (nI 0) (runR codY tx7_1 [] 2 1) = true := by kernel_rfl
theorem y7_2 : isY (compR tx7_2) = true := by kernel_rfl
theorem r7_2 : isEnd (nI 0) (nI 0) (nI 231) [] (nI 0) (runR codY tx7_2 [] 2 1) = true := by kernel_rfl
theorem r7_3 : isEnd (nI 0) (nI 0) (nI 123) [] (nI 0) (runR codY tx7_3 [] 2 1) = true := by kernel_rfl
theorem r7_4 : isEnd (nI 0) (nI 0) (nI 312) [] (nI 0) (runR codY tx7_4 [] 2 1) = true := by kernel_rfl
theorem r7_5 : isEnd (nI 0) (nI 0) (nI 231) [] (nI 0) (runR codY tx7_5 [] 2 1) = true := by kernel_rfl
theorem r7_6 : isEnd (nI 0) (nI 0) (nI 123) [] (nI 0) (runR codY tx7_6 [] 2 1) = true := by kernel_rfl
theorem r7_7 : isEnd (nI 0) (nI 0) (nI 312) [] (nI 0) (runR codY tx7_7 [] 2 1) = true := by kernel_rfl
theorem r7_8 : isEnd (nI 0) (nI 0) (nI 231) [] (nI 0) (runR codY tx7_8 [] 2 1) = true := by kernel_rfl
theorem r7_9 : isEnd (nI 0) (nI 0) (nI 123) [] (nI 0) (runR codY tx7_9 [] 2 1) = true := by kernel_rfl
theorem r7_10 : isEnd (nI 0) (nI 0) (nI 312) [] (nI 0) (runR codY tx7_10 [] 2 1) = true := by kernel_rfl
theorem r7_11 : isEnd (nI 0) (nI 0) (nI 231) [] (nI 0) (runR codY tx7_11 [] 2 1) = true := by kernel_rfl
theorem r7_12 : isEnd (nI 0) (nI 0) (nI 123) [] (nI 0) (runR codY tx7_12 [] 2 1) = true := by kernel_rfl
end Lo
end Go.Proofs.YtjmifcnfnihhnaaGreatDoor
