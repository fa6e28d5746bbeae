/- LOOPED: evaluated. Written by wip/genloop.py. -/
import Derived.Test.YtjmifcnfnihhnaaGreatDoorZeP
import Derived.KernelRfl
set_option linter.unusedVariables false
set_option linter.unusedSimpArgs false
namespace Go.Proofs.YtjmifcnfnihhnaaGreatDoor
namespace Lo
open Ev Go.RowKit Sm Sl
theorem y2_3 : isY (compR tx2_3) = true := by kernel_rfl
theorem r2_3 : isEnd (nI 0) (nI 0) (nI 6) [] (nI 0) (runR codY tx2_3 [] 2 4) = true := by kernel_rfl
theorem y2_4 : isY (compR tx2_4) = true := by kernel_rfl
theorem r2_4 : isEnd (nI 0) (nI 0) (nI 10) [] (nI 0) (runR codY tx2_4 [] 2 5) = true := by kernel_rfl
theorem r2_5 : isEnd (nI 0) (nI 0) (nI 15) [] (nI 0) (runR codY tx2_5 [] 2 6) = true := by kernel_rfl
theorem r2_6 : isEnd (nI 0) (nI 0) (nI 21) [] (nI 0) (runR codY tx2_6 [] 2 7) = true := by kernel_rfl
theorem r2_7 : isEnd (nI 0) (nI 0) (nI 28) [] (nI 0) (runR codY tx2_7 [] 2 8) = true := by kernel_rfl
theorem r2_8 : isEnd (nI 0) (nI 0) (nI 36) [] (nI 0) (runR codY tx2_8 [] 2 9) = true := by kernel_rfl
theorem r2_9 : isEnd (nI 0) (nI 0) (nI 45) [] (nI 0) (runR codY tx2_9 [] 2 10) = true := by kernel_rfl
theorem r2_10 : isEnd (nI 0) (nI 0) (nI 55) [] (nI 0) (runR codY tx2_10 [] 2 11) = true := by kernel_rfl
theorem r2_11 : isEnd (nI 0) (nI 0) (nI 66) [] (nI 0) (runR codY tx2_11 [] 2 12) = true := by kernel_rfl
theorem r2_12 : isEnd (nI 0) (nI 0) (nI 78) [] (nI 0) (runR codY tx2_12 [] 2 13) = true := by kernel_rfl
theorem r2_13 : isEnd (nI 0) (nI 0) (nI 91) [] (nI 0) (runR codY tx2_13 [] 2 14) = true := by kernel_rfl
theorem r2_14 : isEnd (nI 0) (nI 0) (nI 105) [] (nI 0) (runR codY tx2_14 [] 2 15) = true := by kernel_rfl
end Lo
end Go.Proofs.YtjmifcnfnihhnaaGreatDoor
