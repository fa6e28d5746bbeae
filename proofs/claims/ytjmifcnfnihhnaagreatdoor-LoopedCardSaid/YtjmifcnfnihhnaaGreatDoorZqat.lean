/- LOOPED: evaluated. Written by wip/genloop.py. -/
import Derived.Test.YtjmifcnfnihhnaaGreatDoorZeP
import Derived.KernelRfl
set_option linter.unusedVariables false
set_option linter.unusedSimpArgs false
namespace Go.Proofs.YtjmifcnfnihhnaaGreatDoor
namespace Lo
open Ev Go.RowKit Sm Sl
theorem r12_20 : isEnd (nI 34) (.y 113) (nI 0) [nI 20, nI 19, nI 18, nI 17, nI 16, nI 15, nI 14, nI 13, nI 12, nI 11, nI 10, nI 9, nI 8, nI 7, nI 6, nI 5] (nI 0) (runR codY tx12_20 [] 2 1) = true := by kernel_rfl
theorem r12_21 : isEnd (nI 34) (.y 113) (nI 0) [nI 21, nI 20, nI 19, nI 18, nI 17, nI 16, nI 15, nI 14, nI 13, nI 12, nI 11, nI 10, nI 9, nI 8, nI 7, nI 6] (nI 0) (runR codY tx12_21 [] 2 1) = true := by kernel_rfl
theorem r12_22 : isEnd (nI 34) (.y 113) (nI 0) [nI 22, nI 21, nI 20, nI 19, nI 18, nI 17, nI 16, nI 15, nI 14, nI 13, nI 12, nI 11, nI 10, nI 9, nI 8, nI 7] (nI 0) (runR codY tx12_22 [] 2 1) = true := by kernel_rfl
theorem r12_23 : isEnd (nI 34) (.y 113) (nI 0) [nI 23, nI 22, nI 21, nI 20, nI 19, nI 18, nI 17, nI 16, nI 15, nI 14, nI 13, nI 12, nI 11, nI 10, nI 9, nI 8] (nI 0) (runR codY tx12_23 [] 2 1) = true := by kernel_rfl
theorem r12_24 : isEnd (nI 34) (.y 113) (nI 0) [nI 24, nI 23, nI 22, nI 21, nI 20, nI 19, nI 18, nI 17, nI 16, nI 15, nI 14, nI 13, nI 12, nI 11, nI 10, nI 9] (nI 0) (runR codY tx12_24 [] 2 1) = true := by kernel_rfl
theorem r12_25 : isEnd (nI 34) (.y 113) (nI 0) [nI 25, nI 24, nI 23, nI 22, nI 21, nI 20, nI 19, nI 18, nI 17, nI 16, nI 15, nI 14, nI 13, nI 12, nI 11, nI 10] (nI 0) (runR codY tx12_25 [] 2 1) = true := by kernel_rfl
theorem r12_26 : isEnd (nI 34) (.y 113) (nI 0) [nI 26, nI 25, nI 24, nI 23, nI 22, nI 21, nI 20, nI 19, nI 18, nI 17, nI 16, nI 15, nI 14, nI 13, nI 12, nI 11] (nI 0) (runR codY tx12_26 [] 2 1) = true := by kernel_rfl
theorem r12_27 : isEnd (nI 34) (.y 113) (nI 0) [nI 27, nI 26, nI 25, nI 24, nI 23, nI 22, nI 21, nI 20, nI 19, nI 18, nI 17, nI 16, nI 15, nI 14, nI 13, nI 12] (nI 0) (runR codY tx12_27 [] 2 1) = true := by kernel_rfl
theorem r12_28 : isEnd (nI 34) (.y 113) (nI 0) [nI 28, nI 27, nI 26, nI 25, nI 24, nI 23, nI 22, nI 21, nI 20, nI 19, nI 18, nI 17, nI 16, nI 15, nI 14, nI 13] (nI 0) (runR codY tx12_28 [] 2 1) = true := by kernel_rfl
theorem r12_29 : isEnd (nI 34) (.y 113) (nI 0) [nI 29, nI 28, nI 27, nI 26, nI 25, nI 24, nI 23, nI 22, nI 21, nI 20, nI 19, nI 18, nI 17, nI 16, nI 15, nI 14] (nI 0) (runR codY tx12_29 [] 2 1) = true := by kernel_rfl
end Lo
end Go.Proofs.YtjmifcnfnihhnaaGreatDoor
