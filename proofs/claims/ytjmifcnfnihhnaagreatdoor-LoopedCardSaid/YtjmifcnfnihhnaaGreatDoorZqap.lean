/- LOOPED: evaluated. Written by wip/genloop.py. -/
import Derived.Test.YtjmifcnfnihhnaaGreatDoorZeP
import Derived.KernelRfl
set_option linter.unusedVariables false
set_option linter.unusedSimpArgs false
namespace Go.Proofs.YtjmifcnfnihhnaaGreatDoor
namespace Lo
open Ev Go.RowKit Sm Sl
theorem r7_13 : isEnd (nI 0) (nI 0) (nI 312) [] (nI 0) (runR codY tx7_13 [] 2 1) = true := by kernel_rfl
theorem r7_14 : isEnd (nI 0) (nI 0) (nI 231) [] (nI 0) (runR codY tx7_14 [] 2 1) = true := by kernel_rfl
theorem r7_15 : isEnd (nI 0) (nI 0) (nI 123) [] (nI 0) (runR codY tx7_15 [] 2 1) = true := by kernel_rfl
theorem r7_16 : isEnd (nI 0) (nI 0) (nI 312) [] (nI 0) (runR codY tx7_16 [] 2 1) = true := by kernel_rfl
theorem r7_17 : isEnd (nI 0) (nI 0) (nI 231) [] (nI 0) (runR codY tx7_17 [] 2 1) = true := by kernel_rfl
theorem r7_18 : isEnd (nI 0) (nI 0) (nI 123) [] (nI 0) (runR codY tx7_18 [] 2 1) = true := by kernel_rfl
theorem r7_19 : isEnd (nI 0) (nI 0) (nI 312) [] (nI 0) (runR codY tx7_19 [] 2 1) = true := by kernel_rfl
theorem r7_20 : isEnd (nI 0) (nI 0) (nI 231) [] (nI 0) (runR codY tx7_20 [] 2 1) = true := by kernel_rfl
theorem r7_21 : isEnd (nI 0) (nI 0) (nI 123) [] (nI 0) (runR codY tx7_21 [] 2 1) = true := by kernel_rfl
theorem r7_22 : isEnd (nI 0) (nI 0) (nI 312) [] (nI 0) (runR codY tx7_22 [] 2 1) = true := by kernel_rfl
end Lo
end Go.Proofs.YtjmifcnfnihhnaaGreatDoor
