/- LOOPED: evaluated. Written by wip/genloop.py. -/
import Derived.Test.YtjmifcnfnihhnaaGreatDoorZeP
import Derived.KernelRfl
set_option linter.unusedVariables false
set_option linter.unusedSimpArgs false
namespace Go.Proofs.YtjmifcnfnihhnaaGreatDoor
namespace Lo
open Ev Go.RowKit Sm Sl
theorem y12 : isY (compR tc12) = true := by kernel_rfl
theorem y12_0 : isY (compR tx12_0) = true := by kernel_rfl
theorem r12_0 : isEnd (nI 0) (nI 0) (nI 0) [] (nI 0) (runR codY tx12_0 [] 2 1) = true := by kernel_rfl
theorem y12_1 : isY (compR tx12_1) = true := by kernel_rfl
theorem r12_1 : isEnd (nI 0) (nI 0) (nI 0) [nI 1] (nI 0) (runR codY tx12_1 [] 2 1) = true := by kernel_rfl
theorem y12_2 : isY (compR tx12_2) = true := by kernel_rfl
theorem r12_2 : isEnd (nI 0) (nI 0) (nI 0) [nI 2, nI 1] (nI 0) (runR codY tx12_2 [] 2 1) = true := by kernel_rfl
theorem y12_3 : isY (compR tx12_3) = true := by kernel_rfl
theorem r12_3 : isEnd (nI 0) (nI 0) (nI 0) [nI 3, nI 2, nI 1] (nI 0) (runR codY tx12_3 [] 2 1) = true := by kernel_rfl
theorem r12_4 : isEnd (nI 0) (nI 0) (nI 0) [nI 4, nI 3, nI 2, nI 1] (nI 0) (runR codY tx12_4 [] 2 1) = true := by kernel_rfl
theorem r12_5 : isEnd (nI 0) (nI 0) (nI 0) [nI 5, nI 4, nI 3, nI 2, nI 1] (nI 0) (runR codY tx12_5 [] 2 1) = true := by kernel_rfl
end Lo
end Go.Proofs.YtjmifcnfnihhnaaGreatDoor
