/- LOOPED: evaluated. Written by wip/genloop.py. -/
import Derived.Test.YtjmifcnfnihhnaaGreatDoorZeP
import Derived.KernelRfl
set_option linter.unusedVariables false
set_option linter.unusedSimpArgs false
namespace Go.Proofs.YtjmifcnfnihhnaaGreatDoor
namespace Lo
open Ev Go.RowKit Sm Sl
theorem r1_20 : isEnd (nI 0) (nI 0) (nI 210) [] (nI 0) (runR codY tx1_20 [] 2 1) = true := by kernel_rfl
theorem r1_21 : isEnd (nI 0) (nI 0) (nI 231) [] (nI 0) (runR codY tx1_21 [] 2 1) = true := by kernel_rfl
theorem r1_22 : isEnd (nI 0) (nI 0) (nI 253) [] (nI 0) (runR codY tx1_22 [] 2 1) = true := by kernel_rfl
theorem r1_23 : isEnd (nI 0) (nI 0) (nI 276) [] (nI 0) (runR codY tx1_23 [] 2 1) = true := by kernel_rfl
theorem r1_24 : isEnd (nI 0) (nI 0) (nI 300) [] (nI 0) (runR codY tx1_24 [] 2 1) = true := by kernel_rfl
theorem r1_25 : isEnd (nI 0) (nI 0) (nI 325) [] (nI 0) (runR codY tx1_25 [] 2 1) = true := by kernel_rfl
theorem r1_26 : isEnd (nI 0) (nI 0) (nI 351) [] (nI 0) (runR codY tx1_26 [] 2 1) = true := by kernel_rfl
theorem r1_27 : isEnd (nI 0) (nI 0) (nI 378) [] (nI 0) (runR codY tx1_27 [] 2 1) = true := by kernel_rfl
end Lo
end Go.Proofs.YtjmifcnfnihhnaaGreatDoor
