/- LOOPED: evaluated. Written by wip/genloop.py. -/
import Derived.Test.YtjmifcnfnihhnaaGreatDoorZeP
import Derived.KernelRfl
set_option linter.unusedVariables false
set_option linter.unusedSimpArgs false
namespace Go.Proofs.YtjmifcnfnihhnaaGreatDoor
namespace Lo
open Ev Go.RowKit Sm Sl
theorem r1_9 : isEnd (nI 0) (nI 0) (nI 45) [] (nI 0) (runR codY tx1_9 [] 2 1) = true := by kernel_rfl
theorem r1_10 : isEnd (nI 0) (nI 0) (nI 55) [] (nI 0) (runR codY tx1_10 [] 2 1) = true := by kernel_rfl
theorem r1_11 : isEnd (nI 0) (nI 0) (nI 66) [] (nI 0) (runR codY tx1_11 [] 2 1) = true := by kernel_rfl
theorem r1_12 : isEnd (nI 0) (nI 0) (nI 78) [] (nI 0) (runR codY tx1_12 [] 2 1) = true := by kernel_rfl
theorem r1_13 : isEnd (nI 0) (nI 0) (nI 91) [] (nI 0) (runR codY tx1_13 [] 2 1) = true := by kernel_rfl
theorem r1_14 : isEnd (nI 0) (nI 0) (nI 105) [] (nI 0) (runR codY tx1_14 [] 2 1) = true := by kernel_rfl
theorem r1_15 : isEnd (nI 0) (nI 0) (nI 120) [] (nI 0) (runR codY tx1_15 [] 2 1) = true := by kernel_rfl
theorem r1_16 : isEnd (nI 0) (nI 0) (nI 136) [] (nI 0) (runR codY tx1_16 [] 2 1) = true := by kernel_rfl
theorem r1_17 : isEnd (nI 0) (nI 0) (nI 153) [] (nI 0) (runR codY tx1_17 [] 2 1) = true := by kernel_rfl
theorem r1_18 : isEnd (nI 0) (nI 0) (nI 171) [] (nI 0) (runR codY tx1_18 [] 2 1) = true := by kernel_rfl
theorem r1_19 : isEnd (nI 0) (nI 0) (nI 190) [] (nI 0) (runR codY tx1_19 [] 2 1) = true := by kernel_rfl
end Lo
end Go.Proofs.YtjmifcnfnihhnaaGreatDoor
