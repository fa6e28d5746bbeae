/- LOOPED: evaluated. Written by wip/genloop.py. -/
import Derived.Test.YtjmifcnfnihhnaaGreatDoorZeP
import Derived.KernelRfl
set_option linter.unusedVariables false
set_option linter.unusedSimpArgs false
namespace Go.Proofs.YtjmifcnfnihhnaaGreatDoor
namespace Lo
open Ev Go.RowKit Sm Sl
theorem r12_6 : isEnd (nI 0) (nI 0) (nI 0) [nI 6, nI 5, nI 4, nI 3, nI 2, nI 1] (nI 0) (runR codY tx12_6 [] 2 1) = true := by kernel_rfl
theorem r12_7 : isEnd (nI 0) (nI 0) (nI 0) [nI 7, nI 6, nI 5, nI 4, nI 3, nI 2, nI 1] (nI 0) (runR codY tx12_7 [] 2 1) = true := by kernel_rfl
theorem r12_8 : isEnd (nI 0) (nI 0) (nI 0) [nI 8, nI 7, nI 6, nI 5, nI 4, nI 3, nI 2, nI 1] (nI 0) (runR codY tx12_8 [] 2 1) = true := by kernel_rfl
theorem r12_9 : isEnd (nI 0) (nI 0) (nI 0) [nI 9, nI 8, nI 7, nI 6, nI 5, nI 4, nI 3, nI 2, nI 1] (nI 0) (runR codY tx12_9 [] 2 1) = true := by kernel_rfl
theorem r12_10 : isEnd (nI 0) (nI 0) (nI 0) [nI 10, nI 9, nI 8, nI 7, nI 6, nI 5, nI 4, nI 3, nI 2, nI 1] (nI 0) (runR codY tx12_10 [] 2 1) = true := by kernel_rfl
theorem r12_11 : isEnd (nI 0) (nI 0) (nI 0) [nI 11, nI 10, nI 9, nI 8, nI 7, nI 6, nI 5, nI 4, nI 3, nI 2, nI 1] (nI 0) (runR codY tx12_11 [] 2 1) = true := by kernel_rfl
theorem r12_12 : isEnd (nI 0) (nI 0) (nI 0) [nI 12, nI 11, nI 10, nI 9, nI 8, nI 7, nI 6, nI 5, nI 4, nI 3, nI 2, nI 1] (nI 0) (runR codY tx12_12 [] 2 1) = true := by kernel_rfl
theorem r12_13 : isEnd (nI 0) (nI 0) (nI 0) [nI 13, nI 12, nI 11, nI 10, nI 9, nI 8, nI 7, nI 6, nI 5, nI 4, nI 3, nI 2, nI 1] (nI 0) (runR codY tx12_13 [] 2 1) = true := by kernel_rfl
theorem r12_14 : isEnd (nI 0) (nI 0) (nI 0) [nI 14, nI 13, nI 12, nI 11, nI 10, nI 9, nI 8, nI 7, nI 6, nI 5, nI 4, nI 3, nI 2, nI 1] (nI 0) (runR codY tx12_14 [] 2 1) = true := by kernel_rfl
theorem r12_15 : isEnd (nI 0) (nI 0) (nI 0) [nI 15, nI 14, nI 13, nI 12, nI 11, nI 10, nI 9, nI 8, nI 7, nI 6, nI 5, nI 4, nI 3, nI 2, nI 1] (nI 0) (runR codY tx12_15 [] 2 1) = true := by kernel_rfl
theorem r12_16 : isEnd (nI 0) (nI 0) (nI 0) [nI 16, nI 15, nI 14, nI 13, nI 12, nI 11, nI 10, nI 9, nI 8, nI 7, nI 6, nI 5, nI 4, nI 3, nI 2, nI 1] (nI 0) (runR codY tx12_16 [] 2 1) = true := by kernel_rfl
theorem r12_17 : isEnd (nI 34) (.y 113) (nI 0) [nI 17, nI 16, nI 15, nI 14, nI 13, nI 12, nI 11, nI 10, nI 9, nI 8, nI 7, nI 6, nI 5, nI 4, nI 3, nI 2] (nI 0) (runR codY tx12_17 [] 2 1) = true := by kernel_rfl
theorem r12_18 : isEnd (nI 34) (.y 113) (nI 0) [nI 18, nI 17, nI 16, nI 15, nI 14, nI 13, nI 12, nI 11, nI 10, nI 9, nI 8, nI 7, nI 6, nI 5, nI 4, nI 3] (nI 0) (runR codY tx12_18 [] 2 1) = true := by kernel_rfl
theorem r12_19 : isEnd (nI 34) (.y 113) (nI 0) [nI 19, nI 18, nI 17, nI 16, nI 15, nI 14, nI 13, nI 12, nI 11, nI 10, nI 9, nI 8, nI 7, nI 6, nI 5, nI 4] (nI 0) (runR codY tx12_19 [] 2 1) = true := by kernel_rfl
end Lo
end Go.Proofs.YtjmifcnfnihhnaaGreatDoor
