/- LOOPED: evaluated. Written by wip/genloop.py. -/
import Derived.Test.YtjmifcnfnihhnaaGreatDoorZeP
import Derived.KernelRfl
set_option linter.unusedVariables false
set_option linter.unusedSimpArgs false
namespace Go.Proofs.YtjmifcnfnihhnaaGreatDoor
namespace Lo
open Ev Go.RowKit Sm Sl
theorem r16_10 : isEnd (nI 0) (nI 0) (nI 10) [] (nI 1) (runR codY tx16_10 [nI 10] 66 1) = true := by kernel_rfl
theorem r16_11 : isEnd (nI 0) (nI 0) (nI 11) [] (nI 1) (runR codY tx16_11 [nI 11] 66 1) = true := by kernel_rfl
theorem r16_12 : isEnd (nI 0) (nI 0) (nI 12) [] (nI 1) (runR codY tx16_12 [nI 12] 66 1) = true := by kernel_rfl
theorem r16_13 : isEnd (nI 0) (nI 0) (nI 13) [] (nI 1) (runR codY tx16_13 [nI 13] 66 1) = true := by kernel_rfl
theorem r16_14 : isEnd (nI 0) (nI 0) (nI 14) [] (nI 1) (runR codY tx16_14 [nI 14] 66 1) = true := by kernel_rfl
theorem r16_15 : isEnd (nI 0) (nI 0) (nI 15) [] (nI 1) (runR codY tx16_15 [nI 15] 66 1) = true := by kernel_rfl
theorem r16_16 : isEnd (nI 0) (nI 0) (nI 16) [] (nI 1) (runR codY tx16_16 [nI 16] 66 1) = true := by kernel_rfl
theorem r16_17 : isEnd (nI 0) (nI 0) (nI 17) [] (nI 1) (runR codY tx16_17 [nI 17] 66 1) = true := by kernel_rfl
theorem r16_18 : isEnd (nI 0) (nI 0) (nI 18) [] (nI 1) (runR codY tx16_18 [nI 18] 66 1) = true := by kernel_rfl
theorem r16_19 : isEnd (nI 0) (nI 0) (nI 19) [] (nI 1) (runR codY tx16_19 [nI 19] 66 1) = true := by kernel_rfl
theorem r16_20 : isEnd (nI 0) (nI 0) (nI 20) [] (nI 1) (runR codY tx16_20 [nI 20] 66 1) = true := by kernel_rfl
theorem r16_21 : isEnd (nI 0) (nI 0) (nI 21) [] (nI 1) (runR codY tx16_21 [nI 21] 66 1) = true := by kernel_rfl
theorem r16_22 : isEnd (nI 0) (nI 0) (nI 22) [] (nI 1) (runR codY tx16_22 [nI 22] 66 1) = true := by kernel_rfl
theorem r16_23 : isEnd (nI 0) (nI 0) (nI 23) [] (nI 1) (runR codY tx16_23 [nI 23] 66 1) = true := by kernel_rfl
theorem r16_24 : isEnd (nI 0) (nI 0) (nI 24) [] (nI 1) (runR codY tx16_24 [nI 24] 66 1) = true := by kernel_rfl
theorem r16_25 : isEnd (nI 0) (nI 0) (nI 25) [] (nI 1) (runR codY tx16_25 [nI 25] 66 1) = true := by kernel_rfl
theorem r16_26 : isEnd (nI 0) (nI 0) (nI 26) [] (nI 1) (runR codY tx16_26 [nI 26] 66 1) = true := by kernel_rfl
theorem r16_27 : isEnd (nI 0) (nI 0) (nI 27) [] (nI 1) (runR codY tx16_27 [nI 27] 66 1) = true := by kernel_rfl
theorem r16_28 : isEnd (nI 0) (nI 0) (nI 28) [] (nI 1) (runR codY tx16_28 [nI 28] 66 1) = true := by kernel_rfl
theorem r16_29 : isEnd (nI 0) (nI 0) (nI 29) [] (nI 1) (runR codY tx16_29 [nI 29] 66 1) = true := by kernel_rfl
theorem r16_30 : isEnd (nI 0) (nI 0) (nI 30) [] (nI 1) (runR codY tx16_30 [nI 30] 66 1) = true := by kernel_rfl
theorem r16_31 : isEnd (nI 0) (nI 0) (nI 31) [] (nI 1) (runR codY tx16_31 [nI 31] 66 1) = true := by kernel_rfl
theorem r16_32 : isEnd (nI 0) (nI 0) (nI 32) [] (nI 1) (runR codY tx16_32 [nI 32] 66 1) = true := by kernel_rfl
theorem y6 : isErr 4 (compR tx6) = true := by kernel_rfl
theorem r6 : isNo (runR (.tp [.c (.s []), .c (nI 4), .c (.y 3)]) tx6 [] 0 1) = true := by kernel_rfl
end Lo
end Go.Proofs.YtjmifcnfnihhnaaGreatDoor
