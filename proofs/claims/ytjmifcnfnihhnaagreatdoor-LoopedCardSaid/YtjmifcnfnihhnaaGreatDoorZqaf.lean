/- LOOPED: evaluated. Written by wip/genloop.py. -/
import Derived.Test.YtjmifcnfnihhnaaGreatDoorZeP
import Derived.KernelRfl
set_option linter.unusedVariables false
set_option linter.unusedSimpArgs false
namespace Go.Proofs.YtjmifcnfnihhnaaGreatDoor
namespace Lo
open Ev Go.RowKit Sm Sl
theorem r2_15 : isEnd (nI 0) (nI 0) (nI 120) [] (nI 0) (runR codY tx2_15 [] 2 16) = true := by kernel_rfl
theorem r2_16 : isEnd (nI 0) (nI 0) (nI 136) [] (nI 0) (runR codY tx2_16 [] 2 17) = true := by kernel_rfl
theorem r2_17 : isEnd (nI 0) (nI 0) (nI 153) [] (nI 0) (runR codY tx2_17 [] 2 18) = true := by kernel_rfl
theorem r2_18 : isEnd (nI 0) (nI 0) (nI 171) [] (nI 0) (runR codY tx2_18 [] 2 19) = true := by kernel_rfl
theorem r2_19 : isEnd (nI 0) (nI 0) (nI 190) [] (nI 0) (runR codY tx2_19 [] 2 20) = true := by kernel_rfl
theorem r2_20 : isEnd (nI 0) (nI 0) (nI 210) [] (nI 0) (runR codY tx2_20 [] 2 21) = true := by kernel_rfl
theorem r2_21 : isEnd (nI 0) (nI 0) (nI 231) [] (nI 0) (runR codY tx2_21 [] 2 22) = true := by kernel_rfl
theorem r2_22 : isEnd (nI 0) (nI 0) (nI 253) [] (nI 0) (runR codY tx2_22 [] 2 23) = true := by kernel_rfl
theorem r2_23 : isEnd (nI 0) (nI 0) (nI 276) [] (nI 0) (runR codY tx2_23 [] 2 24) = true := by kernel_rfl
theorem r2_24 : isEnd (nI 0) (nI 0) (nI 300) [] (nI 0) (runR codY tx2_24 [] 2 25) = true := by kernel_rfl
end Lo
end Go.Proofs.YtjmifcnfnihhnaaGreatDoor
