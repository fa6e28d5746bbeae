/- LOOPED: evaluated. Written by wip/genloop.py. -/
import Derived.Test.YtjmifcnfnihhnaaGreatDoorZeP
import Derived.KernelRfl
set_option linter.unusedVariables false
set_option linter.unusedSimpArgs false
namespace Go.Proofs.YtjmifcnfnihhnaaGreatDoor
namespace Lo
open Ev Go.RowKit Sm Sl
theorem y8_10 : isY (compR tx8_10) = true := by kernel_rfl
theorem r8_10 : isEnd (nI 0) (nI 0) (.y 5008) [.y 5005, .y 5] (nI 0) (runR codY tx8_10 [] 0 1) = true := by kernel_rfl
theorem y8_11 : isY (compR tx8_11) = true := by kernel_rfl
theorem r8_11 : isEnd (nI 0) (nI 0) (.y 5014) [.y 5005, .y 5011] (nI 0) (runR codY tx8_11 [] 0 1) = true := by kernel_rfl
theorem y9 : isY (compR tx9) = true := by kernel_rfl
theorem r9 : isEnd (nI 0) (nI 0) (.y 5006) [nI 0, nI 1, nI 2] (nI 2) (runR codY tx9 [.y 8, .y 9] 40 2) = true := by kernel_rfl
theorem y10 : isY (compR tx10) = true := by kernel_rfl
theorem r10 : isEnd (nI 0) (nI 0) (nI 78) [nI 1, nI 2, nI 3, nI 4, nI 5, nI 6, nI 7, nI 8, nI 9] (nI 0) (runR codY tx10 [] 20 1) = true := by kernel_rfl
theorem y11 : isY (compR tx11) = true := by kernel_rfl
theorem r11 : isEnd (nI 33) (.y 102) (nI 0) [] (nI 1) (runR codY tx11 [.y 8] 0 1) = true := by kernel_rfl
theorem y13_00 : isY (compR tx13_00) = true := by kernel_rfl
theorem r13_00 : isEnd (nI 0) (nI 0) (.y 5002) [] (nI 0) (runR codY tx13_00 [] 0 1) = true := by kernel_rfl
end Lo
end Go.Proofs.YtjmifcnfnihhnaaGreatDoor
