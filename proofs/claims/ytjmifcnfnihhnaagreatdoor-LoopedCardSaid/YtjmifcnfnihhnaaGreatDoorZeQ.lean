import Derived.Test.YtjmifcnfnihhnaaGreatDoorZeO
import Derived.Test.YtjmifcnfnihhnaaGreatDoorZeP
import Derived.KernelRfl
/- LOOPED: the texts that go n times: what is told of them is so. Written by wip/genloop.py. -/
set_option linter.unusedVariables false
set_option linter.unusedSimpArgs false
namespace Go.Proofs.YtjmifcnfnihhnaaGreatDoor
namespace Lo
open Ev Go.RowKit Sm Sl
structure Ev1 : Prop where
  y1 : isY (compR tc1) = true
  y1_0 : isY (compR tx1_0) = true
  r1_0 : isEnd (nI 0) (nI 0) (nI 0) [] (nI 0) (runR codY tx1_0 [] 2 1) = true
  y1_1 : isY (compR tx1_1) = true
  r1_1 : isEnd (nI 0) (nI 0) (nI 1) [] (nI 0) (runR codY tx1_1 [] 2 1) = true
  y1_2 : isY (compR tx1_2) = true
  r1_2 : isEnd (nI 0) (nI 0) (nI 3) [] (nI 0) (runR codY tx1_2 [] 2 1) = true
  r1_3 : isEnd (nI 0) (nI 0) (nI 6) [] (nI 0) (runR codY tx1_3 [] 2 1) = true
  r1_4 : isEnd (nI 0) (nI 0) (nI 10) [] (nI 0) (runR codY tx1_4 [] 2 1) = true
  r1_5 : isEnd (nI 0) (nI 0) (nI 15) [] (nI 0) (runR codY tx1_5 [] 2 1) = true
  r1_6 : isEnd (nI 0) (nI 0) (nI 21) [] (nI 0) (runR codY tx1_6 [] 2 1) = true
  r1_7 : isEnd (nI 0) (nI 0) (nI 28) [] (nI 0) (runR codY tx1_7 [] 2 1) = true
  r1_8 : isEnd (nI 0) (nI 0) (nI 36) [] (nI 0) (runR codY tx1_8 [] 2 1) = true
  r1_9 : isEnd (nI 0) (nI 0) (nI 45) [] (nI 0) (runR codY tx1_9 [] 2 1) = true
  r1_10 : isEnd (nI 0) (nI 0) (nI 55) [] (nI 0) (runR codY tx1_10 [] 2 1) = true
  r1_11 : isEnd (nI 0) (nI 0) (nI 66) [] (nI 0) (runR codY tx1_11 [] 2 1) = true
  r1_12 : isEnd (nI 0) (nI 0) (nI 78) [] (nI 0) (runR codY tx1_12 [] 2 1) = true
  r1_13 : isEnd (nI 0) (nI 0) (nI 91) [] (nI 0) (runR codY tx1_13 [] 2 1) = true
  r1_14 : isEnd (nI 0) (nI 0) (nI 105) [] (nI 0) (runR codY tx1_14 [] 2 1) = true
  r1_15 : isEnd (nI 0) (nI 0) (nI 120) [] (nI 0) (runR codY tx1_15 [] 2 1) = true
  r1_16 : isEnd (nI 0) (nI 0) (nI 136) [] (nI 0) (runR codY tx1_16 [] 2 1) = true
  r1_17 : isEnd (nI 0) (nI 0) (nI 153) [] (nI 0) (runR codY tx1_17 [] 2 1) = true
  r1_18 : isEnd (nI 0) (nI 0) (nI 171) [] (nI 0) (runR codY tx1_18 [] 2 1) = true
  r1_19 : isEnd (nI 0) (nI 0) (nI 190) [] (nI 0) (runR codY tx1_19 [] 2 1) = true
  r1_20 : isEnd (nI 0) (nI 0) (nI 210) [] (nI 0) (runR codY tx1_20 [] 2 1) = true
  r1_21 : isEnd (nI 0) (nI 0) (nI 231) [] (nI 0) (runR codY tx1_21 [] 2 1) = true
  r1_22 : isEnd (nI 0) (nI 0) (nI 253) [] (nI 0) (runR codY tx1_22 [] 2 1) = true
  r1_23 : isEnd (nI 0) (nI 0) (nI 276) [] (nI 0) (runR codY tx1_23 [] 2 1) = true
  r1_24 : isEnd (nI 0) (nI 0) (nI 300) [] (nI 0) (runR codY tx1_24 [] 2 1) = true
  r1_25 : isEnd (nI 0) (nI 0) (nI 325) [] (nI 0) (runR codY tx1_25 [] 2 1) = true
  r1_26 : isEnd (nI 0) (nI 0) (nI 351) [] (nI 0) (runR codY tx1_26 [] 2 1) = true
  r1_27 : isEnd (nI 0) (nI 0) (nI 378) [] (nI 0) (runR codY tx1_27 [] 2 1) = true
  r1_28 : isEnd (nI 0) (nI 0) (nI 406) [] (nI 0) (runR codY tx1_28 [] 2 1) = true
  r1_29 : isEnd (nI 0) (nI 0) (nI 435) [] (nI 0) (runR codY tx1_29 [] 2 1) = true
structure Ev2 : Prop where
  y2 : isY (compR tc2) = true
  y2_0 : isY (compR tx2_0) = true
  r2_0 : isEnd (nI 0) (nI 0) (nI 0) [] (nI 0) (runR codY tx2_0 [] 2 1) = true
  y2_1 : isY (compR tx2_1) = true
  r2_1 : isEnd (nI 0) (nI 0) (nI 1) [] (nI 0) (runR codY tx2_1 [] 2 2) = true
  y2_2 : isY (compR tx2_2) = true
  r2_2 : isEnd (nI 0) (nI 0) (nI 3) [] (nI 0) (runR codY tx2_2 [] 2 3) = true
  y2_3 : isY (compR tx2_3) = true
  r2_3 : isEnd (nI 0) (nI 0) (nI 6) [] (nI 0) (runR codY tx2_3 [] 2 4) = true
  y2_4 : isY (compR tx2_4) = true
  r2_4 : isEnd (nI 0) (nI 0) (nI 10) [] (nI 0) (runR codY tx2_4 [] 2 5) = true
  r2_5 : isEnd (nI 0) (nI 0) (nI 15) [] (nI 0) (runR codY tx2_5 [] 2 6) = true
  r2_6 : isEnd (nI 0) (nI 0) (nI 21) [] (nI 0) (runR codY tx2_6 [] 2 7) = true
  r2_7 : isEnd (nI 0) (nI 0) (nI 28) [] (nI 0) (runR codY tx2_7 [] 2 8) = true
  r2_8 : isEnd (nI 0) (nI 0) (nI 36) [] (nI 0) (runR codY tx2_8 [] 2 9) = true
  r2_9 : isEnd (nI 0) (nI 0) (nI 45) [] (nI 0) (runR codY tx2_9 [] 2 10) = true
  r2_10 : isEnd (nI 0) (nI 0) (nI 55) [] (nI 0) (runR codY tx2_10 [] 2 11) = true
  r2_11 : isEnd (nI 0) (nI 0) (nI 66) [] (nI 0) (runR codY tx2_11 [] 2 12) = true
  r2_12 : isEnd (nI 0) (nI 0) (nI 78) [] (nI 0) (runR codY tx2_12 [] 2 13) = true
  r2_13 : isEnd (nI 0) (nI 0) (nI 91) [] (nI 0) (runR codY tx2_13 [] 2 14) = true
  r2_14 : isEnd (nI 0) (nI 0) (nI 105) [] (nI 0) (runR codY tx2_14 [] 2 15) = true
  r2_15 : isEnd (nI 0) (nI 0) (nI 120) [] (nI 0) (runR codY tx2_15 [] 2 16) = true
  r2_16 : isEnd (nI 0) (nI 0) (nI 136) [] (nI 0) (runR codY tx2_16 [] 2 17) = true
  r2_17 : isEnd (nI 0) (nI 0) (nI 153) [] (nI 0) (runR codY tx2_17 [] 2 18) = true
  r2_18 : isEnd (nI 0) (nI 0) (nI 171) [] (nI 0) (runR codY tx2_18 [] 2 19) = true
  r2_19 : isEnd (nI 0) (nI 0) (nI 190) [] (nI 0) (runR codY tx2_19 [] 2 20) = true
  r2_20 : isEnd (nI 0) (nI 0) (nI 210) [] (nI 0) (runR codY tx2_20 [] 2 21) = true
  r2_21 : isEnd (nI 0) (nI 0) (nI 231) [] (nI 0) (runR codY tx2_21 [] 2 22) = true
  r2_22 : isEnd (nI 0) (nI 0) (nI 253) [] (nI 0) (runR codY tx2_22 [] 2 23) = true
  r2_23 : isEnd (nI 0) (nI 0) (nI 276) [] (nI 0) (runR codY tx2_23 [] 2 24) = true
  r2_24 : isEnd (nI 0) (nI 0) (nI 300) [] (nI 0) (runR codY tx2_24 [] 2 25) = true
  r2_25 : isEnd (nI 0) (nI 0) (nI 325) [] (nI 0) (runR codY tx2_25 [] 2 26) = true
  r2_26 : isEnd (nI 0) (nI 0) (nI 351) [] (nI 0) (runR codY tx2_26 [] 2 27) = true
  r2_27 : isEnd (nI 0) (nI 0) (nI 378) [] (nI 0) (runR codY tx2_27 [] 2 28) = true
  r2_28 : isEnd (nI 0) (nI 0) (nI 406) [] (nI 0) (runR codY tx2_28 [] 2 29) = true
  r2_29 : isEnd (nI 0) (nI 0) (nI 435) [] (nI 0) (runR codY tx2_29 [] 2 30) = true
structure Ev3 : Prop where
  y3 : isY (compR tc3) = true
  r3_0 : isEnd (nI 0) (nI 0) (.y 5006) [] (nI 2) (runR codY tx3_0 [.y 8, .y 9] 32 2) = true
  r3_1 : isEnd (nI 0) (nI 0) (.y 5006) [] (nI 2) (runR codY tx3_1 [.y 8, .y 9] 32 2) = true
  r3_2 : isEnd (nI 0) (nI 0) (.y 5006) [] (nI 2) (runR codY tx3_2 [.y 8, .y 9] 32 2) = true
  r3_3 : isEnd (nI 0) (nI 0) (.y 5006) [] (nI 2) (runR codY tx3_3 [.y 8, .y 9] 32 2) = true
  r3_4 : isEnd (nI 0) (nI 0) (.y 5006) [] (nI 2) (runR codY tx3_4 [.y 8, .y 9] 32 2) = true
  r3_5 : isEnd (nI 0) (nI 0) (.y 5006) [] (nI 2) (runR codY tx3_5 [.y 8, .y 9] 32 2) = true
  r3_6 : isEnd (nI 0) (nI 0) (.y 5006) [] (nI 2) (runR codY tx3_6 [.y 8, .y 9] 32 2) = true
  r3_7 : isEnd (nI 0) (nI 0) (.y 5006) [] (nI 2) (runR codY tx3_7 [.y 8, .y 9] 32 2) = true
  r3_8 : isEnd (nI 0) (nI 0) (.y 5006) [] (nI 2) (runR codY tx3_8 [.y 8, .y 9] 32 2) = true
  r3_9 : isEnd (nI 0) (nI 0) (.y 5006) [] (nI 2) (runR codY tx3_9 [.y 8, .y 9] 32 2) = true
  r3_10 : isEnd (nI 0) (nI 0) (.y 5006) [] (nI 2) (runR codY tx3_10 [.y 8, .y 9] 32 2) = true
  r3_11 : isEnd (nI 0) (nI 0) (.y 5006) [] (nI 2) (runR codY tx3_11 [.y 8, .y 9] 32 2) = true
  r3_12 : isEnd (nI 0) (nI 0) (.y 5006) [] (nI 2) (runR codY tx3_12 [.y 8, .y 9] 32 2) = true
  r3_13 : isEnd (nI 0) (nI 0) (.y 5006) [] (nI 2) (runR codY tx3_13 [.y 8, .y 9] 32 2) = true
  r3_14 : isEnd (nI 0) (nI 0) (.y 5006) [] (nI 2) (runR codY tx3_14 [.y 8, .y 9] 32 2) = true
  r3_15 : isEnd (nI 0) (nI 0) (.y 5006) [] (nI 2) (runR codY tx3_15 [.y 8, .y 9] 32 2) = true
  r3_16 : isEnd (nI 0) (nI 0) (.y 5006) [] (nI 2) (runR codY tx3_16 [.y 8, .y 9] 32 2) = true
  r3_17 : isEnd (nI 0) (nI 0) (.y 5006) [] (nI 2) (runR codY tx3_17 [.y 8, .y 9] 32 2) = true
  r3_18 : isEnd (nI 0) (nI 0) (.y 5006) [] (nI 2) (runR codY tx3_18 [.y 8, .y 9] 32 2) = true
  r3_19 : isEnd (nI 0) (nI 0) (.y 5006) [] (nI 2) (runR codY tx3_19 [.y 8, .y 9] 32 2) = true
  r3_20 : isEnd (nI 0) (nI 0) (.y 5006) [] (nI 2) (runR codY tx3_20 [.y 8, .y 9] 32 2) = true
  r3_21 : isEnd (nI 0) (nI 0) (.y 5006) [] (nI 2) (runR codY tx3_21 [.y 8, .y 9] 32 2) = true
  r3_22 : isEnd (nI 0) (nI 0) (.y 5006) [] (nI 2) (runR codY tx3_22 [.y 8, .y 9] 32 2) = true
  r3_23 : isEnd (nI 0) (nI 0) (.y 5006) [] (nI 2) (runR codY tx3_23 [.y 8, .y 9] 32 2) = true
  r3_24 : isEnd (nI 0) (nI 0) (.y 5006) [] (nI 2) (runR codY tx3_24 [.y 8, .y 9] 32 2) = true
  r3_25 : isEnd (nI 0) (nI 0) (.y 5006) [] (nI 2) (runR codY tx3_25 [.y 8, .y 9] 32 2) = true
  r3_26 : isEnd (nI 0) (nI 0) (.y 5006) [] (nI 2) (runR codY tx3_26 [.y 8, .y 9] 32 2) = true
  r3_27 : isEnd (nI 0) (nI 0) (.y 5006) [] (nI 2) (runR codY tx3_27 [.y 8, .y 9] 32 2) = true
  r3_28 : isEnd (nI 0) (nI 0) (.y 5006) [] (nI 2) (runR codY tx3_28 [.y 8, .y 9] 32 2) = true
  r3_29 : isEnd (nI 0) (nI 0) (.y 5006) [] (nI 2) (runR codY tx3_29 [.y 8, .y 9] 32 2) = true
structure Ev5 : Prop where
  y5 : isY (compR tc5) = true
  r5_0 : isEnd (nI 0) (nI 0) (.y 5003) [] (nI 2) (runR codY tx5_0 [.y 9, .y 8] 40 2) = true
  r5_1 : isEnd (nI 0) (nI 0) (.y 5009) [] (nI 2) (runR codY tx5_1 [.y 9, .y 8] 40 2) = true
  r5_2 : isEnd (nI 0) (nI 0) (.y 5015) [] (nI 2) (runR codY tx5_2 [.y 9, .y 8] 40 2) = true
  r5_3 : isEnd (nI 0) (nI 0) (.y 5021) [] (nI 2) (runR codY tx5_3 [.y 9, .y 8] 40 2) = true
  r5_4 : isEnd (nI 0) (nI 0) (.y 5027) [] (nI 2) (runR codY tx5_4 [.y 9, .y 8] 40 2) = true
  r5_5 : isEnd (nI 0) (nI 0) (.y 5033) [] (nI 2) (runR codY tx5_5 [.y 9, .y 8] 40 2) = true
  r5_6 : isEnd (nI 0) (nI 0) (.y 5039) [] (nI 2) (runR codY tx5_6 [.y 9, .y 8] 40 2) = true
  r5_7 : isEnd (nI 0) (nI 0) (.y 5045) [] (nI 2) (runR codY tx5_7 [.y 9, .y 8] 40 2) = true
  r5_8 : isEnd (nI 0) (nI 0) (.y 5051) [] (nI 2) (runR codY tx5_8 [.y 9, .y 8] 40 2) = true
  r5_9 : isEnd (nI 0) (nI 0) (.y 5057) [] (nI 2) (runR codY tx5_9 [.y 9, .y 8] 40 2) = true
  r5_10 : isEnd (nI 0) (nI 0) (.y 5063) [] (nI 2) (runR codY tx5_10 [.y 9, .y 8] 40 2) = true
  r5_11 : isEnd (nI 0) (nI 0) (.y 5069) [] (nI 2) (runR codY tx5_11 [.y 9, .y 8] 40 2) = true
  r5_12 : isEnd (nI 0) (nI 0) (.y 5075) [] (nI 2) (runR codY tx5_12 [.y 9, .y 8] 40 2) = true
  r5_13 : isEnd (nI 0) (nI 0) (.y 5081) [] (nI 2) (runR codY tx5_13 [.y 9, .y 8] 40 2) = true
  r5_14 : isEnd (nI 0) (nI 0) (.y 5087) [] (nI 2) (runR codY tx5_14 [.y 9, .y 8] 40 2) = true
  r5_15 : isEnd (nI 0) (nI 0) (.y 5093) [] (nI 2) (runR codY tx5_15 [.y 9, .y 8] 40 2) = true
  r5_16 : isEnd (nI 0) (nI 0) (.y 5099) [] (nI 2) (runR codY tx5_16 [.y 9, .y 8] 40 2) = true
  r5_17 : isEnd (nI 0) (nI 0) (.y 5105) [] (nI 2) (runR codY tx5_17 [.y 9, .y 8] 40 2) = true
  r5_18 : isEnd (nI 0) (nI 0) (.y 5111) [] (nI 2) (runR codY tx5_18 [.y 9, .y 8] 40 2) = true
  r5_19 : isEnd (nI 0) (nI 0) (.y 5117) [] (nI 2) (runR codY tx5_19 [.y 9, .y 8] 40 2) = true
  r5_20 : isEnd (nI 0) (nI 0) (.y 5123) [] (nI 2) (runR codY tx5_20 [.y 9, .y 8] 40 2) = true
  r5_21 : isEnd (nI 0) (nI 0) (.y 5129) [] (nI 2) (runR codY tx5_21 [.y 9, .y 8] 40 2) = true
  r5_22 : isEnd (nI 0) (nI 0) (.y 5135) [] (nI 2) (runR codY tx5_22 [.y 9, .y 8] 40 2) = true
  r5_23 : isEnd (nI 0) (nI 0) (.y 5141) [] (nI 2) (runR codY tx5_23 [.y 9, .y 8] 40 2) = true
  r5_24 : isEnd (nI 0) (nI 0) (.y 5147) [] (nI 2) (runR codY tx5_24 [.y 9, .y 8] 40 2) = true
  r5_25 : isEnd (nI 0) (nI 0) (.y 5153) [] (nI 2) (runR codY tx5_25 [.y 9, .y 8] 40 2) = true
  r5_26 : isEnd (nI 0) (nI 0) (.y 5159) [] (nI 2) (runR codY tx5_26 [.y 9, .y 8] 40 2) = true
  r5_27 : isEnd (nI 0) (nI 0) (.y 5165) [] (nI 2) (runR codY tx5_27 [.y 9, .y 8] 40 2) = true
  r5_28 : isEnd (nI 0) (nI 0) (.y 5171) [] (nI 2) (runR codY tx5_28 [.y 9, .y 8] 40 2) = true
  r5_29 : isEnd (nI 0) (nI 0) (.y 5177) [] (nI 2) (runR codY tx5_29 [.y 9, .y 8] 40 2) = true
structure Ev7 : Prop where
  y7 : isY (compR tc7) = true
  y7_0 : isY (compR tx7_0) = true
  r7_0 : isEnd (nI 0) (nI 0) (nI 123) [] (nI 0) (runR codY tx7_0 [] 2 1) = true
  y7_1 : isY (compR tx7_1) = true
  r7_1 : isEnd (nI 0) (nI 0) (nI 312) [] (nI 0) (runR codY tx7_1 [] 2 1) = true
  y7_2 : isY (compR tx7_2) = true
  r7_2 : isEnd (nI 0) (nI 0) (nI 231) [] (nI 0) (runR codY tx7_2 [] 2 1) = true
  r7_3 : isEnd (nI 0) (nI 0) (nI 123) [] (nI 0) (runR codY tx7_3 [] 2 1) = true
  r7_4 : isEnd (nI 0) (nI 0) (nI 312) [] (nI 0) (runR codY tx7_4 [] 2 1) = true
  r7_5 : isEnd (nI 0) (nI 0) (nI 231) [] (nI 0) (runR codY tx7_5 [] 2 1) = true
  r7_6 : isEnd (nI 0) (nI 0) (nI 123) [] (nI 0) (runR codY tx7_6 [] 2 1) = true
  r7_7 : isEnd (nI 0) (nI 0) (nI 312) [] (nI 0) (runR codY tx7_7 [] 2 1) = true
  r7_8 : isEnd (nI 0) (nI 0) (nI 231) [] (nI 0) (runR codY tx7_8 [] 2 1) = true
  r7_9 : isEnd (nI 0) (nI 0) (nI 123) [] (nI 0) (runR codY tx7_9 [] 2 1) = true
  r7_10 : isEnd (nI 0) (nI 0) (nI 312) [] (nI 0) (runR codY tx7_10 [] 2 1) = true
  r7_11 : isEnd (nI 0) (nI 0) (nI 231) [] (nI 0) (runR codY tx7_11 [] 2 1) = true
  r7_12 : isEnd (nI 0) (nI 0) (nI 123) [] (nI 0) (runR codY tx7_12 [] 2 1) = true
  r7_13 : isEnd (nI 0) (nI 0) (nI 312) [] (nI 0) (runR codY tx7_13 [] 2 1) = true
  r7_14 : isEnd (nI 0) (nI 0) (nI 231) [] (nI 0) (runR codY tx7_14 [] 2 1) = true
  r7_15 : isEnd (nI 0) (nI 0) (nI 123) [] (nI 0) (runR codY tx7_15 [] 2 1) = true
  r7_16 : isEnd (nI 0) (nI 0) (nI 312) [] (nI 0) (runR codY tx7_16 [] 2 1) = true
  r7_17 : isEnd (nI 0) (nI 0) (nI 231) [] (nI 0) (runR codY tx7_17 [] 2 1) = true
  r7_18 : isEnd (nI 0) (nI 0) (nI 123) [] (nI 0) (runR codY tx7_18 [] 2 1) = true
  r7_19 : isEnd (nI 0) (nI 0) (nI 312) [] (nI 0) (runR codY tx7_19 [] 2 1) = true
  r7_20 : isEnd (nI 0) (nI 0) (nI 231) [] (nI 0) (runR codY tx7_20 [] 2 1) = true
  r7_21 : isEnd (nI 0) (nI 0) (nI 123) [] (nI 0) (runR codY tx7_21 [] 2 1) = true
  r7_22 : isEnd (nI 0) (nI 0) (nI 312) [] (nI 0) (runR codY tx7_22 [] 2 1) = true
  r7_23 : isEnd (nI 0) (nI 0) (nI 231) [] (nI 0) (runR codY tx7_23 [] 2 1) = true
  r7_24 : isEnd (nI 0) (nI 0) (nI 123) [] (nI 0) (runR codY tx7_24 [] 2 1) = true
  r7_25 : isEnd (nI 0) (nI 0) (nI 312) [] (nI 0) (runR codY tx7_25 [] 2 1) = true
  r7_26 : isEnd (nI 0) (nI 0) (nI 231) [] (nI 0) (runR codY tx7_26 [] 2 1) = true
  r7_27 : isEnd (nI 0) (nI 0) (nI 123) [] (nI 0) (runR codY tx7_27 [] 2 1) = true
  r7_28 : isEnd (nI 0) (nI 0) (nI 312) [] (nI 0) (runR codY tx7_28 [] 2 1) = true
  r7_29 : isEnd (nI 0) (nI 0) (nI 231) [] (nI 0) (runR codY tx7_29 [] 2 1) = true
structure Ev12 : Prop where
  y12 : isY (compR tc12) = true
  y12_0 : isY (compR tx12_0) = true
  r12_0 : isEnd (nI 0) (nI 0) (nI 0) [] (nI 0) (runR codY tx12_0 [] 2 1) = true
  y12_1 : isY (compR tx12_1) = true
  r12_1 : isEnd (nI 0) (nI 0) (nI 0) [nI 1] (nI 0) (runR codY tx12_1 [] 2 1) = true
  y12_2 : isY (compR tx12_2) = true
  r12_2 : isEnd (nI 0) (nI 0) (nI 0) [nI 2, nI 1] (nI 0) (runR codY tx12_2 [] 2 1) = true
  y12_3 : isY (compR tx12_3) = true
  r12_3 : isEnd (nI 0) (nI 0) (nI 0) [nI 3, nI 2, nI 1] (nI 0) (runR codY tx12_3 [] 2 1) = true
  r12_4 : isEnd (nI 0) (nI 0) (nI 0) [nI 4, nI 3, nI 2, nI 1] (nI 0) (runR codY tx12_4 [] 2 1) = true
  r12_5 : isEnd (nI 0) (nI 0) (nI 0) [nI 5, nI 4, nI 3, nI 2, nI 1] (nI 0) (runR codY tx12_5 [] 2 1) = true
  r12_6 : isEnd (nI 0) (nI 0) (nI 0) [nI 6, nI 5, nI 4, nI 3, nI 2, nI 1] (nI 0) (runR codY tx12_6 [] 2 1) = true
  r12_7 : isEnd (nI 0) (nI 0) (nI 0) [nI 7, nI 6, nI 5, nI 4, nI 3, nI 2, nI 1] (nI 0) (runR codY tx12_7 [] 2 1) = true
  r12_8 : isEnd (nI 0) (nI 0) (nI 0) [nI 8, nI 7, nI 6, nI 5, nI 4, nI 3, nI 2, nI 1] (nI 0) (runR codY tx12_8 [] 2 1) = true
  r12_9 : isEnd (nI 0) (nI 0) (nI 0) [nI 9, nI 8, nI 7, nI 6, nI 5, nI 4, nI 3, nI 2, nI 1] (nI 0) (runR codY tx12_9 [] 2 1) = true
  r12_10 : isEnd (nI 0) (nI 0) (nI 0) [nI 10, nI 9, nI 8, nI 7, nI 6, nI 5, nI 4, nI 3, nI 2, nI 1] (nI 0) (runR codY tx12_10 [] 2 1) = true
  r12_11 : isEnd (nI 0) (nI 0) (nI 0) [nI 11, nI 10, nI 9, nI 8, nI 7, nI 6, nI 5, nI 4, nI 3, nI 2, nI 1] (nI 0) (runR codY tx12_11 [] 2 1) = true
  r12_12 : isEnd (nI 0) (nI 0) (nI 0) [nI 12, nI 11, nI 10, nI 9, nI 8, nI 7, nI 6, nI 5, nI 4, nI 3, nI 2, nI 1] (nI 0) (runR codY tx12_12 [] 2 1) = true
  r12_13 : isEnd (nI 0) (nI 0) (nI 0) [nI 13, nI 12, nI 11, nI 10, nI 9, nI 8, nI 7, nI 6, nI 5, nI 4, nI 3, nI 2, nI 1] (nI 0) (runR codY tx12_13 [] 2 1) = true
  r12_14 : isEnd (nI 0) (nI 0) (nI 0) [nI 14, nI 13, nI 12, nI 11, nI 10, nI 9, nI 8, nI 7, nI 6, nI 5, nI 4, nI 3, nI 2, nI 1] (nI 0) (runR codY tx12_14 [] 2 1) = true
  r12_15 : isEnd (nI 0) (nI 0) (nI 0) [nI 15, nI 14, nI 13, nI 12, nI 11, nI 10, nI 9, nI 8, nI 7, nI 6, nI 5, nI 4, nI 3, nI 2, nI 1] (nI 0) (runR codY tx12_15 [] 2 1) = true
  r12_16 : isEnd (nI 0) (nI 0) (nI 0) [nI 16, nI 15, nI 14, nI 13, nI 12, nI 11, nI 10, nI 9, nI 8, nI 7, nI 6, nI 5, nI 4, nI 3, nI 2, nI 1] (nI 0) (runR codY tx12_16 [] 2 1) = true
  r12_17 : isEnd (nI 34) (.y 113) (nI 0) [nI 17, nI 16, nI 15, nI 14, nI 13, nI 12, nI 11, nI 10, nI 9, nI 8, nI 7, nI 6, nI 5, nI 4, nI 3, nI 2] (nI 0) (runR codY tx12_17 [] 2 1) = true
  r12_18 : isEnd (nI 34) (.y 113) (nI 0) [nI 18, nI 17, nI 16, nI 15, nI 14, nI 13, nI 12, nI 11, nI 10, nI 9, nI 8, nI 7, nI 6, nI 5, nI 4, nI 3] (nI 0) (runR codY tx12_18 [] 2 1) = true
  r12_19 : isEnd (nI 34) (.y 113) (nI 0) [nI 19, nI 18, nI 17, nI 16, nI 15, nI 14, nI 13, nI 12, nI 11, nI 10, nI 9, nI 8, nI 7, nI 6, nI 5, nI 4] (nI 0) (runR codY tx12_19 [] 2 1) = true
  r12_20 : isEnd (nI 34) (.y 113) (nI 0) [nI 20, nI 19, nI 18, nI 17, nI 16, nI 15, nI 14, nI 13, nI 12, nI 11, nI 10, nI 9, nI 8, nI 7, nI 6, nI 5] (nI 0) (runR codY tx12_20 [] 2 1) = true
  r12_21 : isEnd (nI 34) (.y 113) (nI 0) [nI 21, nI 20, nI 19, nI 18, nI 17, nI 16, nI 15, nI 14, nI 13, nI 12, nI 11, nI 10, nI 9, nI 8, nI 7, nI 6] (nI 0) (runR codY tx12_21 [] 2 1) = true
  r12_22 : isEnd (nI 34) (.y 113) (nI 0) [nI 22, nI 21, nI 20, nI 19, nI 18, nI 17, nI 16, nI 15, nI 14, nI 13, nI 12, nI 11, nI 10, nI 9, nI 8, nI 7] (nI 0) (runR codY tx12_22 [] 2 1) = true
  r12_23 : isEnd (nI 34) (.y 113) (nI 0) [nI 23, nI 22, nI 21, nI 20, nI 19, nI 18, nI 17, nI 16, nI 15, nI 14, nI 13, nI 12, nI 11, nI 10, nI 9, nI 8] (nI 0) (runR codY tx12_23 [] 2 1) = true
  r12_24 : isEnd (nI 34) (.y 113) (nI 0) [nI 24, nI 23, nI 22, nI 21, nI 20, nI 19, nI 18, nI 17, nI 16, nI 15, nI 14, nI 13, nI 12, nI 11, nI 10, nI 9] (nI 0) (runR codY tx12_24 [] 2 1) = true
  r12_25 : isEnd (nI 34) (.y 113) (nI 0) [nI 25, nI 24, nI 23, nI 22, nI 21, nI 20, nI 19, nI 18, nI 17, nI 16, nI 15, nI 14, nI 13, nI 12, nI 11, nI 10] (nI 0) (runR codY tx12_25 [] 2 1) = true
  r12_26 : isEnd (nI 34) (.y 113) (nI 0) [nI 26, nI 25, nI 24, nI 23, nI 22, nI 21, nI 20, nI 19, nI 18, nI 17, nI 16, nI 15, nI 14, nI 13, nI 12, nI 11] (nI 0) (runR codY tx12_26 [] 2 1) = true
  r12_27 : isEnd (nI 34) (.y 113) (nI 0) [nI 27, nI 26, nI 25, nI 24, nI 23, nI 22, nI 21, nI 20, nI 19, nI 18, nI 17, nI 16, nI 15, nI 14, nI 13, nI 12] (nI 0) (runR codY tx12_27 [] 2 1) = true
  r12_28 : isEnd (nI 34) (.y 113) (nI 0) [nI 28, nI 27, nI 26, nI 25, nI 24, nI 23, nI 22, nI 21, nI 20, nI 19, nI 18, nI 17, nI 16, nI 15, nI 14, nI 13] (nI 0) (runR codY tx12_28 [] 2 1) = true
  r12_29 : isEnd (nI 34) (.y 113) (nI 0) [nI 29, nI 28, nI 27, nI 26, nI 25, nI 24, nI 23, nI 22, nI 21, nI 20, nI 19, nI 18, nI 17, nI 16, nI 15, nI 14] (nI 0) (runR codY tx12_29 [] 2 1) = true
theorem spa1 : spA lx1 l1 cs1 = true := by kernel_rfl
theorem good1 : goodD ds1 0 = true := by kernel_rfl
theorem w3q1 : w1 = w3s lx1 := by kernel_rfl
theorem spf1_0 : spA lx1 l1 ⟨[nI 0, nI 0, nI 0, nI 0], 0, [nI 0], [nI 1, nI 0, nI 0, nI 0, nI 0, nI 33, nI 0, nI 0, nI 0, nI 0]⟩ = true := by kernel_rfl
theorem spf1_1 : spA lx1 l1 ⟨[nI 0, nI 0, nI 0, nI 0], 0, [nI 1], [nI 1, nI 0, nI 0, nI 0, nI 0, nI 33, nI 0, nI 0, nI 0, nI 0]⟩ = true := by kernel_rfl
theorem spf1_3 : spA lx1 l1 ⟨[nI 0, nI 0, nI 0, nI 0], 0, [nI 3], [nI 1, nI 0, nI 0, nI 0, nI 0, nI 33, nI 0, nI 0, nI 0, nI 0]⟩ = true := by kernel_rfl
section
variable {a b i : Int} {n : Nat} {x y z : Int}
theorem tc1_ok (hn : n < 30) (h : 3 ≤ n) : Txt (nvF a b i n x y z) lx1 tc1 [] := by
  have hg : goodD (mkP c0 (nvF a b i n x y z) lx1 tc1).ds 0 = true := by kernel_rfl
  have v7 : scN (mkP c0 (nvF a b i n x y z) lx1 tc1) (.y 7) = (n : Int) := v_nv _ (by omega)
  have v5002 := v_dec (p := mkP c0 (nvF a b i n x y z) lx1 tc1) (k := 0) (i := 1) (j := 2) hg rfl rfl rfl v7 (by omega) (by omega)
  have v5008 := v_dec (p := mkP c0 (nvF a b i n x y z) lx1 tc1) (k := 6) (i := 7) (j := 8) hg rfl rfl rfl v5002 (by omega) (by omega)
  refine txt_c spa1 (by kernel_rfl) rfl w3q1 rfl cv0 (fun c hc => ?_) (fun x hx => by cases hx)
  rcases List.mem_cons.1 hc with rfl | hc
  · exact ne_row v7 (by omega)
  rcases List.mem_cons.1 hc with rfl | hc
  · exact ne_row v5002 (by omega)
  rcases List.mem_cons.1 hc with rfl | hc
  · exact ne_row v5008 (by omega)
  cases hc
theorem tx1_0_ok : Txt (nvF a b i 0 x y z) lx1 tx1_0 [(7, 0)] := txt_n spf1_0 good1 w3q1 rfl (cv7 rfl) rfl
theorem tx1_1_ok : Txt (nvF a b i 1 x y z) lx1 tx1_1 [(7, 1)] := txt_n spf1_1 good1 w3q1 rfl (cv7 rfl) rfl
theorem tx1_2_ok : Txt (nvF a b i 2 x y z) lx1 tx1_2 [(7, 2)] := txt_n spf1_3 good1 w3q1 rfl (cv7 rfl) rfl
theorem tx1_3_ok : Txt (nvF a b i 3 x y z) lx1 tx1_3 [(7, 3)] := txt_n spa1 good1 w3q1 rfl (cv7 rfl) rfl
theorem tx1_4_ok : Txt (nvF a b i 4 x y z) lx1 tx1_4 [(7, 4)] := txt_n spa1 good1 w3q1 rfl (cv7 rfl) rfl
theorem tx1_5_ok : Txt (nvF a b i 5 x y z) lx1 tx1_5 [(7, 5)] := txt_n spa1 good1 w3q1 rfl (cv7 rfl) rfl
theorem tx1_6_ok : Txt (nvF a b i 6 x y z) lx1 tx1_6 [(7, 6)] := txt_n spa1 good1 w3q1 rfl (cv7 rfl) rfl
theorem tx1_7_ok : Txt (nvF a b i 7 x y z) lx1 tx1_7 [(7, 7)] := txt_n spa1 good1 w3q1 rfl (cv7 rfl) rfl
theorem tx1_8_ok : Txt (nvF a b i 8 x y z) lx1 tx1_8 [(7, 8)] := txt_n spa1 good1 w3q1 rfl (cv7 rfl) rfl
theorem tx1_9_ok : Txt (nvF a b i 9 x y z) lx1 tx1_9 [(7, 9)] := txt_n spa1 good1 w3q1 rfl (cv7 rfl) rfl
theorem tx1_10_ok : Txt (nvF a b i 10 x y z) lx1 tx1_10 [(7, 10)] := txt_n spa1 good1 w3q1 rfl (cv7 rfl) rfl
theorem tx1_11_ok : Txt (nvF a b i 11 x y z) lx1 tx1_11 [(7, 11)] := txt_n spa1 good1 w3q1 rfl (cv7 rfl) rfl
theorem tx1_12_ok : Txt (nvF a b i 12 x y z) lx1 tx1_12 [(7, 12)] := txt_n spa1 good1 w3q1 rfl (cv7 rfl) rfl
theorem tx1_13_ok : Txt (nvF a b i 13 x y z) lx1 tx1_13 [(7, 13)] := txt_n spa1 good1 w3q1 rfl (cv7 rfl) rfl
theorem tx1_14_ok : Txt (nvF a b i 14 x y z) lx1 tx1_14 [(7, 14)] := txt_n spa1 good1 w3q1 rfl (cv7 rfl) rfl
theorem tx1_15_ok : Txt (nvF a b i 15 x y z) lx1 tx1_15 [(7, 15)] := txt_n spa1 good1 w3q1 rfl (cv7 rfl) rfl
theorem tx1_16_ok : Txt (nvF a b i 16 x y z) lx1 tx1_16 [(7, 16)] := txt_n spa1 good1 w3q1 rfl (cv7 rfl) rfl
theorem tx1_17_ok : Txt (nvF a b i 17 x y z) lx1 tx1_17 [(7, 17)] := txt_n spa1 good1 w3q1 rfl (cv7 rfl) rfl
theorem tx1_18_ok : Txt (nvF a b i 18 x y z) lx1 tx1_18 [(7, 18)] := txt_n spa1 good1 w3q1 rfl (cv7 rfl) rfl
theorem tx1_19_ok : Txt (nvF a b i 19 x y z) lx1 tx1_19 [(7, 19)] := txt_n spa1 good1 w3q1 rfl (cv7 rfl) rfl
theorem tx1_20_ok : Txt (nvF a b i 20 x y z) lx1 tx1_20 [(7, 20)] := txt_n spa1 good1 w3q1 rfl (cv7 rfl) rfl
theorem tx1_21_ok : Txt (nvF a b i 21 x y z) lx1 tx1_21 [(7, 21)] := txt_n spa1 good1 w3q1 rfl (cv7 rfl) rfl
theorem tx1_22_ok : Txt (nvF a b i 22 x y z) lx1 tx1_22 [(7, 22)] := txt_n spa1 good1 w3q1 rfl (cv7 rfl) rfl
theorem tx1_23_ok : Txt (nvF a b i 23 x y z) lx1 tx1_23 [(7, 23)] := txt_n spa1 good1 w3q1 rfl (cv7 rfl) rfl
theorem tx1_24_ok : Txt (nvF a b i 24 x y z) lx1 tx1_24 [(7, 24)] := txt_n spa1 good1 w3q1 rfl (cv7 rfl) rfl
theorem tx1_25_ok : Txt (nvF a b i 25 x y z) lx1 tx1_25 [(7, 25)] := txt_n spa1 good1 w3q1 rfl (cv7 rfl) rfl
theorem tx1_26_ok : Txt (nvF a b i 26 x y z) lx1 tx1_26 [(7, 26)] := txt_n spa1 good1 w3q1 rfl (cv7 rfl) rfl
theorem tx1_27_ok : Txt (nvF a b i 27 x y z) lx1 tx1_27 [(7, 27)] := txt_n spa1 good1 w3q1 rfl (cv7 rfl) rfl
theorem tx1_28_ok : Txt (nvF a b i 28 x y z) lx1 tx1_28 [(7, 28)] := txt_n spa1 good1 w3q1 rfl (cv7 rfl) rfl
theorem tx1_29_ok : Txt (nvF a b i 29 x y z) lx1 tx1_29 [(7, 29)] := txt_n spa1 good1 w3q1 rfl (cv7 rfl) rfl
end
theorem spa2 : spA lx2 l2 cs2 = true := by kernel_rfl
theorem good2 : goodD ds2 0 = true := by kernel_rfl
theorem w3q2 : w2 = w3s lx2 := by kernel_rfl
theorem spf2_0 : spA lx2 l2 ⟨[nI 0, nI 0, nI 0, nI 0], 0, [nI 0], [nI 1, nI 0, nI 0, nI 0, nI 0, nI 33, nI 0, nI 0, nI 0, nI 0]⟩ = true := by kernel_rfl
theorem spf2_1 : spA lx2 l2 ⟨[nI 0, nI 0, nI 0, nI 0], 0, [nI 1], [nI 1, nI 0, nI 0, nI 0, nI 0, nI 33, nI 0, nI 0, nI 0, nI 0]⟩ = true := by kernel_rfl
theorem spf2_3 : spA lx2 l2 ⟨[nI 0, nI 0, nI 0, nI 0], 0, [nI 3], [nI 1, nI 0, nI 0, nI 0, nI 0, nI 33, nI 0, nI 0, nI 0, nI 0]⟩ = true := by kernel_rfl
section
variable {a b i : Int} {n : Nat} {x y z : Int}
theorem tc2_ok (hn : n < 30) (h : 5 ≤ n) : Txt (nvF a b i n x y z) lx2 tc2 [] := by
  have hg : goodD (mkP c0 (nvF a b i n x y z) lx2 tc2).ds 0 = true := by kernel_rfl
  have v7 : scN (mkP c0 (nvF a b i n x y z) lx2 tc2) (.y 7) = (n : Int) := v_nv _ (by omega)
  have v5002 := v_dec (p := mkP c0 (nvF a b i n x y z) lx2 tc2) (k := 0) (i := 1) (j := 2) hg rfl rfl rfl v7 (by omega) (by omega)
  have v5005 := v_dec (p := mkP c0 (nvF a b i n x y z) lx2 tc2) (k := 3) (i := 4) (j := 5) hg rfl rfl rfl v5002 (by omega) (by omega)
  have v5008 := v_dec (p := mkP c0 (nvF a b i n x y z) lx2 tc2) (k := 6) (i := 7) (j := 8) hg rfl rfl rfl v5005 (by omega) (by omega)
  have v5011 := v_dec (p := mkP c0 (nvF a b i n x y z) lx2 tc2) (k := 9) (i := 10) (j := 11) hg rfl rfl rfl v5008 (by omega) (by omega)
  refine txt_c spa2 (by kernel_rfl) rfl w3q2 rfl cv0 (fun c hc => ?_) (fun x hx => by cases hx)
  rcases List.mem_cons.1 hc with rfl | hc
  · exact ne_row v7 (by omega)
  rcases List.mem_cons.1 hc with rfl | hc
  · exact ne_row v5002 (by omega)
  rcases List.mem_cons.1 hc with rfl | hc
  · exact ne_row v5005 (by omega)
  rcases List.mem_cons.1 hc with rfl | hc
  · exact ne_row v5008 (by omega)
  rcases List.mem_cons.1 hc with rfl | hc
  · exact ne_row v5011 (by omega)
  cases hc
theorem tx2_0_ok : Txt (nvF a b i 0 x y z) lx2 tx2_0 [(7, 0)] := txt_n spf2_0 good2 w3q2 rfl (cv7 rfl) rfl
theorem tx2_1_ok : Txt (nvF a b i 1 x y z) lx2 tx2_1 [(7, 1)] := txt_n spf2_1 good2 w3q2 rfl (cv7 rfl) rfl
theorem tx2_2_ok : Txt (nvF a b i 2 x y z) lx2 tx2_2 [(7, 2)] := txt_n spf2_3 good2 w3q2 rfl (cv7 rfl) rfl
theorem tx2_3_ok : Txt (nvF a b i 3 x y z) lx2 tx2_3 [(7, 3)] := txt_n spa2 good2 w3q2 rfl (cv7 rfl) rfl
theorem tx2_4_ok : Txt (nvF a b i 4 x y z) lx2 tx2_4 [(7, 4)] := txt_n spa2 good2 w3q2 rfl (cv7 rfl) rfl
theorem tx2_5_ok : Txt (nvF a b i 5 x y z) lx2 tx2_5 [(7, 5)] := txt_n spa2 good2 w3q2 rfl (cv7 rfl) rfl
theorem tx2_6_ok : Txt (nvF a b i 6 x y z) lx2 tx2_6 [(7, 6)] := txt_n spa2 good2 w3q2 rfl (cv7 rfl) rfl
theorem tx2_7_ok : Txt (nvF a b i 7 x y z) lx2 tx2_7 [(7, 7)] := txt_n spa2 good2 w3q2 rfl (cv7 rfl) rfl
theorem tx2_8_ok : Txt (nvF a b i 8 x y z) lx2 tx2_8 [(7, 8)] := txt_n spa2 good2 w3q2 rfl (cv7 rfl) rfl
theorem tx2_9_ok : Txt (nvF a b i 9 x y z) lx2 tx2_9 [(7, 9)] := txt_n spa2 good2 w3q2 rfl (cv7 rfl) rfl
theorem tx2_10_ok : Txt (nvF a b i 10 x y z) lx2 tx2_10 [(7, 10)] := txt_n spa2 good2 w3q2 rfl (cv7 rfl) rfl
theorem tx2_11_ok : Txt (nvF a b i 11 x y z) lx2 tx2_11 [(7, 11)] := txt_n spa2 good2 w3q2 rfl (cv7 rfl) rfl
theorem tx2_12_ok : Txt (nvF a b i 12 x y z) lx2 tx2_12 [(7, 12)] := txt_n spa2 good2 w3q2 rfl (cv7 rfl) rfl
theorem tx2_13_ok : Txt (nvF a b i 13 x y z) lx2 tx2_13 [(7, 13)] := txt_n spa2 good2 w3q2 rfl (cv7 rfl) rfl
theorem tx2_14_ok : Txt (nvF a b i 14 x y z) lx2 tx2_14 [(7, 14)] := txt_n spa2 good2 w3q2 rfl (cv7 rfl) rfl
theorem tx2_15_ok : Txt (nvF a b i 15 x y z) lx2 tx2_15 [(7, 15)] := txt_n spa2 good2 w3q2 rfl (cv7 rfl) rfl
theorem tx2_16_ok : Txt (nvF a b i 16 x y z) lx2 tx2_16 [(7, 16)] := txt_n spa2 good2 w3q2 rfl (cv7 rfl) rfl
theorem tx2_17_ok : Txt (nvF a b i 17 x y z) lx2 tx2_17 [(7, 17)] := txt_n spa2 good2 w3q2 rfl (cv7 rfl) rfl
theorem tx2_18_ok : Txt (nvF a b i 18 x y z) lx2 tx2_18 [(7, 18)] := txt_n spa2 good2 w3q2 rfl (cv7 rfl) rfl
theorem tx2_19_ok : Txt (nvF a b i 19 x y z) lx2 tx2_19 [(7, 19)] := txt_n spa2 good2 w3q2 rfl (cv7 rfl) rfl
theorem tx2_20_ok : Txt (nvF a b i 20 x y z) lx2 tx2_20 [(7, 20)] := txt_n spa2 good2 w3q2 rfl (cv7 rfl) rfl
theorem tx2_21_ok : Txt (nvF a b i 21 x y z) lx2 tx2_21 [(7, 21)] := txt_n spa2 good2 w3q2 rfl (cv7 rfl) rfl
theorem tx2_22_ok : Txt (nvF a b i 22 x y z) lx2 tx2_22 [(7, 22)] := txt_n spa2 good2 w3q2 rfl (cv7 rfl) rfl
theorem tx2_23_ok : Txt (nvF a b i 23 x y z) lx2 tx2_23 [(7, 23)] := txt_n spa2 good2 w3q2 rfl (cv7 rfl) rfl
theorem tx2_24_ok : Txt (nvF a b i 24 x y z) lx2 tx2_24 [(7, 24)] := txt_n spa2 good2 w3q2 rfl (cv7 rfl) rfl
theorem tx2_25_ok : Txt (nvF a b i 25 x y z) lx2 tx2_25 [(7, 25)] := txt_n spa2 good2 w3q2 rfl (cv7 rfl) rfl
theorem tx2_26_ok : Txt (nvF a b i 26 x y z) lx2 tx2_26 [(7, 26)] := txt_n spa2 good2 w3q2 rfl (cv7 rfl) rfl
theorem tx2_27_ok : Txt (nvF a b i 27 x y z) lx2 tx2_27 [(7, 27)] := txt_n spa2 good2 w3q2 rfl (cv7 rfl) rfl
theorem tx2_28_ok : Txt (nvF a b i 28 x y z) lx2 tx2_28 [(7, 28)] := txt_n spa2 good2 w3q2 rfl (cv7 rfl) rfl
theorem tx2_29_ok : Txt (nvF a b i 29 x y z) lx2 tx2_29 [(7, 29)] := txt_n spa2 good2 w3q2 rfl (cv7 rfl) rfl
end
theorem spa3 : spA lx3 l3 cs3 = true := by kernel_rfl
theorem good3 : goodD ds3 0 = true := by kernel_rfl
theorem w3q3 : w3 = w3s lx3 := by kernel_rfl
section
variable {a b i : Int} {n : Nat} {x y z : Int}
theorem tc3_ok (hn : n < 30) (h : 0 ≤ n) : Txt (nvF a b i n x y z) lx3 tc3 [] := by
  have v7 : scN (mkP c0 (nvF a b i n x y z) lx3 tc3) (.y 7) = (n : Int) := v_nv _ (by omega)
  refine txt_c spa3 (by kernel_rfl) rfl w3q3 rfl cv0 (fun c hc => ?_) (fun x hx => by cases hx)
  cases hc
theorem tx3_0_ok : Txt (nvF a b i 0 x y z) lx3 tx3_0 [(7, 0)] := txt_n spa3 good3 w3q3 rfl (cv7 rfl) rfl
theorem tx3_1_ok : Txt (nvF a b i 1 x y z) lx3 tx3_1 [(7, 1)] := txt_n spa3 good3 w3q3 rfl (cv7 rfl) rfl
theorem tx3_2_ok : Txt (nvF a b i 2 x y z) lx3 tx3_2 [(7, 2)] := txt_n spa3 good3 w3q3 rfl (cv7 rfl) rfl
theorem tx3_3_ok : Txt (nvF a b i 3 x y z) lx3 tx3_3 [(7, 3)] := txt_n spa3 good3 w3q3 rfl (cv7 rfl) rfl
theorem tx3_4_ok : Txt (nvF a b i 4 x y z) lx3 tx3_4 [(7, 4)] := txt_n spa3 good3 w3q3 rfl (cv7 rfl) rfl
theorem tx3_5_ok : Txt (nvF a b i 5 x y z) lx3 tx3_5 [(7, 5)] := txt_n spa3 good3 w3q3 rfl (cv7 rfl) rfl
theorem tx3_6_ok : Txt (nvF a b i 6 x y z) lx3 tx3_6 [(7, 6)] := txt_n spa3 good3 w3q3 rfl (cv7 rfl) rfl
theorem tx3_7_ok : Txt (nvF a b i 7 x y z) lx3 tx3_7 [(7, 7)] := txt_n spa3 good3 w3q3 rfl (cv7 rfl) rfl
theorem tx3_8_ok : Txt (nvF a b i 8 x y z) lx3 tx3_8 [(7, 8)] := txt_n spa3 good3 w3q3 rfl (cv7 rfl) rfl
theorem tx3_9_ok : Txt (nvF a b i 9 x y z) lx3 tx3_9 [(7, 9)] := txt_n spa3 good3 w3q3 rfl (cv7 rfl) rfl
theorem tx3_10_ok : Txt (nvF a b i 10 x y z) lx3 tx3_10 [(7, 10)] := txt_n spa3 good3 w3q3 rfl (cv7 rfl) rfl
theorem tx3_11_ok : Txt (nvF a b i 11 x y z) lx3 tx3_11 [(7, 11)] := txt_n spa3 good3 w3q3 rfl (cv7 rfl) rfl
theorem tx3_12_ok : Txt (nvF a b i 12 x y z) lx3 tx3_12 [(7, 12)] := txt_n spa3 good3 w3q3 rfl (cv7 rfl) rfl
theorem tx3_13_ok : Txt (nvF a b i 13 x y z) lx3 tx3_13 [(7, 13)] := txt_n spa3 good3 w3q3 rfl (cv7 rfl) rfl
theorem tx3_14_ok : Txt (nvF a b i 14 x y z) lx3 tx3_14 [(7, 14)] := txt_n spa3 good3 w3q3 rfl (cv7 rfl) rfl
theorem tx3_15_ok : Txt (nvF a b i 15 x y z) lx3 tx3_15 [(7, 15)] := txt_n spa3 good3 w3q3 rfl (cv7 rfl) rfl
theorem tx3_16_ok : Txt (nvF a b i 16 x y z) lx3 tx3_16 [(7, 16)] := txt_n spa3 good3 w3q3 rfl (cv7 rfl) rfl
theorem tx3_17_ok : Txt (nvF a b i 17 x y z) lx3 tx3_17 [(7, 17)] := txt_n spa3 good3 w3q3 rfl (cv7 rfl) rfl
theorem tx3_18_ok : Txt (nvF a b i 18 x y z) lx3 tx3_18 [(7, 18)] := txt_n spa3 good3 w3q3 rfl (cv7 rfl) rfl
theorem tx3_19_ok : Txt (nvF a b i 19 x y z) lx3 tx3_19 [(7, 19)] := txt_n spa3 good3 w3q3 rfl (cv7 rfl) rfl
theorem tx3_20_ok : Txt (nvF a b i 20 x y z) lx3 tx3_20 [(7, 20)] := txt_n spa3 good3 w3q3 rfl (cv7 rfl) rfl
theorem tx3_21_ok : Txt (nvF a b i 21 x y z) lx3 tx3_21 [(7, 21)] := txt_n spa3 good3 w3q3 rfl (cv7 rfl) rfl
theorem tx3_22_ok : Txt (nvF a b i 22 x y z) lx3 tx3_22 [(7, 22)] := txt_n spa3 good3 w3q3 rfl (cv7 rfl) rfl
theorem tx3_23_ok : Txt (nvF a b i 23 x y z) lx3 tx3_23 [(7, 23)] := txt_n spa3 good3 w3q3 rfl (cv7 rfl) rfl
theorem tx3_24_ok : Txt (nvF a b i 24 x y z) lx3 tx3_24 [(7, 24)] := txt_n spa3 good3 w3q3 rfl (cv7 rfl) rfl
theorem tx3_25_ok : Txt (nvF a b i 25 x y z) lx3 tx3_25 [(7, 25)] := txt_n spa3 good3 w3q3 rfl (cv7 rfl) rfl
theorem tx3_26_ok : Txt (nvF a b i 26 x y z) lx3 tx3_26 [(7, 26)] := txt_n spa3 good3 w3q3 rfl (cv7 rfl) rfl
theorem tx3_27_ok : Txt (nvF a b i 27 x y z) lx3 tx3_27 [(7, 27)] := txt_n spa3 good3 w3q3 rfl (cv7 rfl) rfl
theorem tx3_28_ok : Txt (nvF a b i 28 x y z) lx3 tx3_28 [(7, 28)] := txt_n spa3 good3 w3q3 rfl (cv7 rfl) rfl
theorem tx3_29_ok : Txt (nvF a b i 29 x y z) lx3 tx3_29 [(7, 29)] := txt_n spa3 good3 w3q3 rfl (cv7 rfl) rfl
end
theorem spa5 : spA lx5 l5 cs5 = true := by kernel_rfl
theorem good5 : goodD ds5 0 = true := by kernel_rfl
theorem w3q5 : w5 = w3s lx5 := by kernel_rfl
section
variable {a b i : Int} {n : Nat} {x y z : Int}
theorem tc5_ok (hn : n < 30) (h : 0 ≤ n) : Txt (nvF a b i n x y z) lx5 tc5 [] := by
  have v7 : scN (mkP c0 (nvF a b i n x y z) lx5 tc5) (.y 7) = (n : Int) := v_nv _ (by omega)
  refine txt_c spa5 (by kernel_rfl) rfl w3q5 rfl cv0 (fun c hc => ?_) (fun x hx => by cases hx)
  cases hc
theorem tx5_0_ok : Txt (nvF a b i 0 x y z) lx5 tx5_0 [(7, 0)] := txt_n spa5 good5 w3q5 rfl (cv7 rfl) rfl
theorem tx5_1_ok : Txt (nvF a b i 1 x y z) lx5 tx5_1 [(7, 1)] := txt_n spa5 good5 w3q5 rfl (cv7 rfl) rfl
theorem tx5_2_ok : Txt (nvF a b i 2 x y z) lx5 tx5_2 [(7, 2)] := txt_n spa5 good5 w3q5 rfl (cv7 rfl) rfl
theorem tx5_3_ok : Txt (nvF a b i 3 x y z) lx5 tx5_3 [(7, 3)] := txt_n spa5 good5 w3q5 rfl (cv7 rfl) rfl
theorem tx5_4_ok : Txt (nvF a b i 4 x y z) lx5 tx5_4 [(7, 4)] := txt_n spa5 good5 w3q5 rfl (cv7 rfl) rfl
theorem tx5_5_ok : Txt (nvF a b i 5 x y z) lx5 tx5_5 [(7, 5)] := txt_n spa5 good5 w3q5 rfl (cv7 rfl) rfl
theorem tx5_6_ok : Txt (nvF a b i 6 x y z) lx5 tx5_6 [(7, 6)] := txt_n spa5 good5 w3q5 rfl (cv7 rfl) rfl
theorem tx5_7_ok : Txt (nvF a b i 7 x y z) lx5 tx5_7 [(7, 7)] := txt_n spa5 good5 w3q5 rfl (cv7 rfl) rfl
theorem tx5_8_ok : Txt (nvF a b i 8 x y z) lx5 tx5_8 [(7, 8)] := txt_n spa5 good5 w3q5 rfl (cv7 rfl) rfl
theorem tx5_9_ok : Txt (nvF a b i 9 x y z) lx5 tx5_9 [(7, 9)] := txt_n spa5 good5 w3q5 rfl (cv7 rfl) rfl
theorem tx5_10_ok : Txt (nvF a b i 10 x y z) lx5 tx5_10 [(7, 10)] := txt_n spa5 good5 w3q5 rfl (cv7 rfl) rfl
theorem tx5_11_ok : Txt (nvF a b i 11 x y z) lx5 tx5_11 [(7, 11)] := txt_n spa5 good5 w3q5 rfl (cv7 rfl) rfl
theorem tx5_12_ok : Txt (nvF a b i 12 x y z) lx5 tx5_12 [(7, 12)] := txt_n spa5 good5 w3q5 rfl (cv7 rfl) rfl
theorem tx5_13_ok : Txt (nvF a b i 13 x y z) lx5 tx5_13 [(7, 13)] := txt_n spa5 good5 w3q5 rfl (cv7 rfl) rfl
theorem tx5_14_ok : Txt (nvF a b i 14 x y z) lx5 tx5_14 [(7, 14)] := txt_n spa5 good5 w3q5 rfl (cv7 rfl) rfl
theorem tx5_15_ok : Txt (nvF a b i 15 x y z) lx5 tx5_15 [(7, 15)] := txt_n spa5 good5 w3q5 rfl (cv7 rfl) rfl
theorem tx5_16_ok : Txt (nvF a b i 16 x y z) lx5 tx5_16 [(7, 16)] := txt_n spa5 good5 w3q5 rfl (cv7 rfl) rfl
theorem tx5_17_ok : Txt (nvF a b i 17 x y z) lx5 tx5_17 [(7, 17)] := txt_n spa5 good5 w3q5 rfl (cv7 rfl) rfl
theorem tx5_18_ok : Txt (nvF a b i 18 x y z) lx5 tx5_18 [(7, 18)] := txt_n spa5 good5 w3q5 rfl (cv7 rfl) rfl
theorem tx5_19_ok : Txt (nvF a b i 19 x y z) lx5 tx5_19 [(7, 19)] := txt_n spa5 good5 w3q5 rfl (cv7 rfl) rfl
theorem tx5_20_ok : Txt (nvF a b i 20 x y z) lx5 tx5_20 [(7, 20)] := txt_n spa5 good5 w3q5 rfl (cv7 rfl) rfl
theorem tx5_21_ok : Txt (nvF a b i 21 x y z) lx5 tx5_21 [(7, 21)] := txt_n spa5 good5 w3q5 rfl (cv7 rfl) rfl
theorem tx5_22_ok : Txt (nvF a b i 22 x y z) lx5 tx5_22 [(7, 22)] := txt_n spa5 good5 w3q5 rfl (cv7 rfl) rfl
theorem tx5_23_ok : Txt (nvF a b i 23 x y z) lx5 tx5_23 [(7, 23)] := txt_n spa5 good5 w3q5 rfl (cv7 rfl) rfl
theorem tx5_24_ok : Txt (nvF a b i 24 x y z) lx5 tx5_24 [(7, 24)] := txt_n spa5 good5 w3q5 rfl (cv7 rfl) rfl
theorem tx5_25_ok : Txt (nvF a b i 25 x y z) lx5 tx5_25 [(7, 25)] := txt_n spa5 good5 w3q5 rfl (cv7 rfl) rfl
theorem tx5_26_ok : Txt (nvF a b i 26 x y z) lx5 tx5_26 [(7, 26)] := txt_n spa5 good5 w3q5 rfl (cv7 rfl) rfl
theorem tx5_27_ok : Txt (nvF a b i 27 x y z) lx5 tx5_27 [(7, 27)] := txt_n spa5 good5 w3q5 rfl (cv7 rfl) rfl
theorem tx5_28_ok : Txt (nvF a b i 28 x y z) lx5 tx5_28 [(7, 28)] := txt_n spa5 good5 w3q5 rfl (cv7 rfl) rfl
theorem tx5_29_ok : Txt (nvF a b i 29 x y z) lx5 tx5_29 [(7, 29)] := txt_n spa5 good5 w3q5 rfl (cv7 rfl) rfl
end
theorem spa7 : spA lx7 l7 cs7 = true := by kernel_rfl
theorem good7 : goodD ds7 0 = true := by kernel_rfl
theorem w3q7 : w7 = w3s lx7 := by kernel_rfl
theorem spf7_123 : spA lx7 l7 ⟨[nI 0, nI 0, nI 0, nI 0], 0, [nI 123], [nI 1, nI 0, nI 0, nI 0, nI 0, nI 33, nI 0, nI 0, nI 0, nI 0]⟩ = true := by kernel_rfl
theorem spf7_312 : spA lx7 l7 ⟨[nI 0, nI 0, nI 0, nI 0], 0, [nI 312], [nI 1, nI 0, nI 0, nI 0, nI 0, nI 33, nI 0, nI 0, nI 0, nI 0]⟩ = true := by kernel_rfl
section
variable {a b i : Int} {n : Nat} {x y z : Int}
theorem tc7_ok (hn : n < 30) (h : 3 ≤ n) : Txt (nvF a b i n x y z) lx7 tc7 [] := by
  have hg : goodD (mkP c0 (nvF a b i n x y z) lx7 tc7).ds 0 = true := by kernel_rfl
  have v7 : scN (mkP c0 (nvF a b i n x y z) lx7 tc7) (.y 7) = (n : Int) := v_nv _ (by omega)
  have v5002 := v_dec (p := mkP c0 (nvF a b i n x y z) lx7 tc7) (k := 0) (i := 1) (j := 2) hg rfl rfl rfl v7 (by omega) (by omega)
  have v5005 := v_dec (p := mkP c0 (nvF a b i n x y z) lx7 tc7) (k := 3) (i := 4) (j := 5) hg rfl rfl rfl v5002 (by omega) (by omega)
  refine txt_c spa7 (by kernel_rfl) rfl w3q7 rfl cv0 (fun c hc => ?_) (fun x hx => by cases hx)
  rcases List.mem_cons.1 hc with rfl | hc
  · exact ne_row v7 (by omega)
  rcases List.mem_cons.1 hc with rfl | hc
  · exact ne_row v5002 (by omega)
  rcases List.mem_cons.1 hc with rfl | hc
  · exact ne_row v5005 (by omega)
  cases hc
theorem tx7_0_ok : Txt (nvF a b i 0 x y z) lx7 tx7_0 [(7, 0)] := txt_n spf7_123 good7 w3q7 rfl (cv7 rfl) rfl
theorem tx7_1_ok : Txt (nvF a b i 1 x y z) lx7 tx7_1 [(7, 1)] := txt_n spf7_312 good7 w3q7 rfl (cv7 rfl) rfl
theorem tx7_2_ok : Txt (nvF a b i 2 x y z) lx7 tx7_2 [(7, 2)] := txt_n spa7 good7 w3q7 rfl (cv7 rfl) rfl
theorem tx7_3_ok : Txt (nvF a b i 3 x y z) lx7 tx7_3 [(7, 3)] := txt_n spa7 good7 w3q7 rfl (cv7 rfl) rfl
theorem tx7_4_ok : Txt (nvF a b i 4 x y z) lx7 tx7_4 [(7, 4)] := txt_n spa7 good7 w3q7 rfl (cv7 rfl) rfl
theorem tx7_5_ok : Txt (nvF a b i 5 x y z) lx7 tx7_5 [(7, 5)] := txt_n spa7 good7 w3q7 rfl (cv7 rfl) rfl
theorem tx7_6_ok : Txt (nvF a b i 6 x y z) lx7 tx7_6 [(7, 6)] := txt_n spa7 good7 w3q7 rfl (cv7 rfl) rfl
theorem tx7_7_ok : Txt (nvF a b i 7 x y z) lx7 tx7_7 [(7, 7)] := txt_n spa7 good7 w3q7 rfl (cv7 rfl) rfl
theorem tx7_8_ok : Txt (nvF a b i 8 x y z) lx7 tx7_8 [(7, 8)] := txt_n spa7 good7 w3q7 rfl (cv7 rfl) rfl
theorem tx7_9_ok : Txt (nvF a b i 9 x y z) lx7 tx7_9 [(7, 9)] := txt_n spa7 good7 w3q7 rfl (cv7 rfl) rfl
theorem tx7_10_ok : Txt (nvF a b i 10 x y z) lx7 tx7_10 [(7, 10)] := txt_n spa7 good7 w3q7 rfl (cv7 rfl) rfl
theorem tx7_11_ok : Txt (nvF a b i 11 x y z) lx7 tx7_11 [(7, 11)] := txt_n spa7 good7 w3q7 rfl (cv7 rfl) rfl
theorem tx7_12_ok : Txt (nvF a b i 12 x y z) lx7 tx7_12 [(7, 12)] := txt_n spa7 good7 w3q7 rfl (cv7 rfl) rfl
theorem tx7_13_ok : Txt (nvF a b i 13 x y z) lx7 tx7_13 [(7, 13)] := txt_n spa7 good7 w3q7 rfl (cv7 rfl) rfl
theorem tx7_14_ok : Txt (nvF a b i 14 x y z) lx7 tx7_14 [(7, 14)] := txt_n spa7 good7 w3q7 rfl (cv7 rfl) rfl
theorem tx7_15_ok : Txt (nvF a b i 15 x y z) lx7 tx7_15 [(7, 15)] := txt_n spa7 good7 w3q7 rfl (cv7 rfl) rfl
theorem tx7_16_ok : Txt (nvF a b i 16 x y z) lx7 tx7_16 [(7, 16)] := txt_n spa7 good7 w3q7 rfl (cv7 rfl) rfl
theorem tx7_17_ok : Txt (nvF a b i 17 x y z) lx7 tx7_17 [(7, 17)] := txt_n spa7 good7 w3q7 rfl (cv7 rfl) rfl
theorem tx7_18_ok : Txt (nvF a b i 18 x y z) lx7 tx7_18 [(7, 18)] := txt_n spa7 good7 w3q7 rfl (cv7 rfl) rfl
theorem tx7_19_ok : Txt (nvF a b i 19 x y z) lx7 tx7_19 [(7, 19)] := txt_n spa7 good7 w3q7 rfl (cv7 rfl) rfl
theorem tx7_20_ok : Txt (nvF a b i 20 x y z) lx7 tx7_20 [(7, 20)] := txt_n spa7 good7 w3q7 rfl (cv7 rfl) rfl
theorem tx7_21_ok : Txt (nvF a b i 21 x y z) lx7 tx7_21 [(7, 21)] := txt_n spa7 good7 w3q7 rfl (cv7 rfl) rfl
theorem tx7_22_ok : Txt (nvF a b i 22 x y z) lx7 tx7_22 [(7, 22)] := txt_n spa7 good7 w3q7 rfl (cv7 rfl) rfl
theorem tx7_23_ok : Txt (nvF a b i 23 x y z) lx7 tx7_23 [(7, 23)] := txt_n spa7 good7 w3q7 rfl (cv7 rfl) rfl
theorem tx7_24_ok : Txt (nvF a b i 24 x y z) lx7 tx7_24 [(7, 24)] := txt_n spa7 good7 w3q7 rfl (cv7 rfl) rfl
theorem tx7_25_ok : Txt (nvF a b i 25 x y z) lx7 tx7_25 [(7, 25)] := txt_n spa7 good7 w3q7 rfl (cv7 rfl) rfl
theorem tx7_26_ok : Txt (nvF a b i 26 x y z) lx7 tx7_26 [(7, 26)] := txt_n spa7 good7 w3q7 rfl (cv7 rfl) rfl
theorem tx7_27_ok : Txt (nvF a b i 27 x y z) lx7 tx7_27 [(7, 27)] := txt_n spa7 good7 w3q7 rfl (cv7 rfl) rfl
theorem tx7_28_ok : Txt (nvF a b i 28 x y z) lx7 tx7_28 [(7, 28)] := txt_n spa7 good7 w3q7 rfl (cv7 rfl) rfl
theorem tx7_29_ok : Txt (nvF a b i 29 x y z) lx7 tx7_29 [(7, 29)] := txt_n spa7 good7 w3q7 rfl (cv7 rfl) rfl
end
theorem spa12 : spA lx12 l12 cs12 = true := by kernel_rfl
theorem good12 : goodD ds12 0 = true := by kernel_rfl
theorem w3q12 : w12 = w3s lx12 := by kernel_rfl
theorem spf12_0 : spA lx12 l12 ⟨[nI 0, nI 0, nI 0, nI 0], 0, [nI 0], [nI 1, nI 0, nI 0, nI 0, nI 0, nI 33, nI 0, nI 0, nI 0, nI 0]⟩ = true := by kernel_rfl
section
variable {a b i : Int} {n : Nat} {x y z : Int}
theorem tc12_ok (hn : n < 30) (h : 4 ≤ n) : Txt (nvF a b i n x y z) lx12 tc12 [] := by
  have hg : goodD (mkP c0 (nvF a b i n x y z) lx12 tc12).ds 0 = true := by kernel_rfl
  have v7 : scN (mkP c0 (nvF a b i n x y z) lx12 tc12) (.y 7) = (n : Int) := v_nv _ (by omega)
  have v5002 := v_dec (p := mkP c0 (nvF a b i n x y z) lx12 tc12) (k := 0) (i := 1) (j := 2) hg rfl rfl rfl v7 (by omega) (by omega)
  have v5005 := v_dec (p := mkP c0 (nvF a b i n x y z) lx12 tc12) (k := 3) (i := 4) (j := 5) hg rfl rfl rfl v5002 (by omega) (by omega)
  have v5008 := v_dec (p := mkP c0 (nvF a b i n x y z) lx12 tc12) (k := 6) (i := 7) (j := 8) hg rfl rfl rfl v5005 (by omega) (by omega)
  refine txt_c spa12 (by kernel_rfl) rfl w3q12 rfl cv0 (fun c hc => ?_) (fun x hx => by cases hx)
  rcases List.mem_cons.1 hc with rfl | hc
  · exact ne_row v7 (by omega)
  rcases List.mem_cons.1 hc with rfl | hc
  · exact ne_row v5002 (by omega)
  rcases List.mem_cons.1 hc with rfl | hc
  · exact ne_row v5005 (by omega)
  rcases List.mem_cons.1 hc with rfl | hc
  · exact ne_row v5008 (by omega)
  cases hc
theorem tx12_0_ok : Txt (nvF a b i 0 x y z) lx12 tx12_0 [(7, 0)] := txt_n spf12_0 good12 w3q12 rfl (cv7 rfl) rfl
theorem tx12_1_ok : Txt (nvF a b i 1 x y z) lx12 tx12_1 [(7, 1)] := txt_n spa12 good12 w3q12 rfl (cv7 rfl) rfl
theorem tx12_2_ok : Txt (nvF a b i 2 x y z) lx12 tx12_2 [(7, 2)] := txt_n spa12 good12 w3q12 rfl (cv7 rfl) rfl
theorem tx12_3_ok : Txt (nvF a b i 3 x y z) lx12 tx12_3 [(7, 3)] := txt_n spa12 good12 w3q12 rfl (cv7 rfl) rfl
theorem tx12_4_ok : Txt (nvF a b i 4 x y z) lx12 tx12_4 [(7, 4)] := txt_n spa12 good12 w3q12 rfl (cv7 rfl) rfl
theorem tx12_5_ok : Txt (nvF a b i 5 x y z) lx12 tx12_5 [(7, 5)] := txt_n spa12 good12 w3q12 rfl (cv7 rfl) rfl
theorem tx12_6_ok : Txt (nvF a b i 6 x y z) lx12 tx12_6 [(7, 6)] := txt_n spa12 good12 w3q12 rfl (cv7 rfl) rfl
theorem tx12_7_ok : Txt (nvF a b i 7 x y z) lx12 tx12_7 [(7, 7)] := txt_n spa12 good12 w3q12 rfl (cv7 rfl) rfl
theorem tx12_8_ok : Txt (nvF a b i 8 x y z) lx12 tx12_8 [(7, 8)] := txt_n spa12 good12 w3q12 rfl (cv7 rfl) rfl
theorem tx12_9_ok : Txt (nvF a b i 9 x y z) lx12 tx12_9 [(7, 9)] := txt_n spa12 good12 w3q12 rfl (cv7 rfl) rfl
theorem tx12_10_ok : Txt (nvF a b i 10 x y z) lx12 tx12_10 [(7, 10)] := txt_n spa12 good12 w3q12 rfl (cv7 rfl) rfl
theorem tx12_11_ok : Txt (nvF a b i 11 x y z) lx12 tx12_11 [(7, 11)] := txt_n spa12 good12 w3q12 rfl (cv7 rfl) rfl
theorem tx12_12_ok : Txt (nvF a b i 12 x y z) lx12 tx12_12 [(7, 12)] := txt_n spa12 good12 w3q12 rfl (cv7 rfl) rfl
theorem tx12_13_ok : Txt (nvF a b i 13 x y z) lx12 tx12_13 [(7, 13)] := txt_n spa12 good12 w3q12 rfl (cv7 rfl) rfl
theorem tx12_14_ok : Txt (nvF a b i 14 x y z) lx12 tx12_14 [(7, 14)] := txt_n spa12 good12 w3q12 rfl (cv7 rfl) rfl
theorem tx12_15_ok : Txt (nvF a b i 15 x y z) lx12 tx12_15 [(7, 15)] := txt_n spa12 good12 w3q12 rfl (cv7 rfl) rfl
theorem tx12_16_ok : Txt (nvF a b i 16 x y z) lx12 tx12_16 [(7, 16)] := txt_n spa12 good12 w3q12 rfl (cv7 rfl) rfl
theorem tx12_17_ok : Txt (nvF a b i 17 x y z) lx12 tx12_17 [(7, 17)] := txt_n spa12 good12 w3q12 rfl (cv7 rfl) rfl
theorem tx12_18_ok : Txt (nvF a b i 18 x y z) lx12 tx12_18 [(7, 18)] := txt_n spa12 good12 w3q12 rfl (cv7 rfl) rfl
theorem tx12_19_ok : Txt (nvF a b i 19 x y z) lx12 tx12_19 [(7, 19)] := txt_n spa12 good12 w3q12 rfl (cv7 rfl) rfl
theorem tx12_20_ok : Txt (nvF a b i 20 x y z) lx12 tx12_20 [(7, 20)] := txt_n spa12 good12 w3q12 rfl (cv7 rfl) rfl
theorem tx12_21_ok : Txt (nvF a b i 21 x y z) lx12 tx12_21 [(7, 21)] := txt_n spa12 good12 w3q12 rfl (cv7 rfl) rfl
theorem tx12_22_ok : Txt (nvF a b i 22 x y z) lx12 tx12_22 [(7, 22)] := txt_n spa12 good12 w3q12 rfl (cv7 rfl) rfl
theorem tx12_23_ok : Txt (nvF a b i 23 x y z) lx12 tx12_23 [(7, 23)] := txt_n spa12 good12 w3q12 rfl (cv7 rfl) rfl
theorem tx12_24_ok : Txt (nvF a b i 24 x y z) lx12 tx12_24 [(7, 24)] := txt_n spa12 good12 w3q12 rfl (cv7 rfl) rfl
theorem tx12_25_ok : Txt (nvF a b i 25 x y z) lx12 tx12_25 [(7, 25)] := txt_n spa12 good12 w3q12 rfl (cv7 rfl) rfl
theorem tx12_26_ok : Txt (nvF a b i 26 x y z) lx12 tx12_26 [(7, 26)] := txt_n spa12 good12 w3q12 rfl (cv7 rfl) rfl
theorem tx12_27_ok : Txt (nvF a b i 27 x y z) lx12 tx12_27 [(7, 27)] := txt_n spa12 good12 w3q12 rfl (cv7 rfl) rfl
theorem tx12_28_ok : Txt (nvF a b i 28 x y z) lx12 tx12_28 [(7, 28)] := txt_n spa12 good12 w3q12 rfl (cv7 rfl) rfl
theorem tx12_29_ok : Txt (nvF a b i 29 x y z) lx12 tx12_29 [(7, 29)] := txt_n spa12 good12 w3q12 rfl (cv7 rfl) rfl
end
end Lo
end Go.Proofs.YtjmifcnfnihhnaaGreatDoor
/- LOOPED: the texts that go n times: what they come to. Written by wip/genloop.py. -/
set_option linter.unusedVariables false
set_option linter.unusedSimpArgs false
namespace Go.Proofs.YtjmifcnfnihhnaaGreatDoor
namespace Lo
open Ev Go.RowKit Sm Sl
def trn (n : Nat) : Int := if n % 3 = 0 then 123 else if n % 3 = 1 then 312 else 231
def itv (x y : Int) : Nat → Int
  | 0 => Sn.wv x
  | n + 1 => Sn.wv (itv x y n * 3 + Sn.wv y)
theorem in2 {p : Pm} {w : World} {k u v : Nat} {x y : Int} (h2 : 2 ≤ k) (hu : scN p (.y (u + 3)) = x) (hv : scN p (.y (v + 3)) = y) (k0 : w.cell? ⟨k, 0, none⟩ = some (.int .i64 x)) (k1 : w.cell? ⟨k, 1, none⟩ = some (.int .i64 y)) : InAt p w [.y (u + 3), .y (v + 3)] (.slice (some ⟨k, 0, none⟩) 2 2) := by
  have g : ∀ u, goodS (.y (u + 3)) = true := fun u => Nat.ble_eq_true_of_le (by omega)
  refine .inr ⟨k, h2, rfl, by show 0 < 2; omega, by show 2 ≤ 4096; omega, by show (goodS _ && (goodS _ && true)) = true; rw [g, g]; rfl, fun j s hs => ?_⟩
  match j, hs with
  | 0, hs => cases hs; rw [hu]; exact k0
  | 1, hs => cases hs; rw [hv]; exact k1
theorem val3 {p : Pm} {a b i : Int} {n : Nat} {x y z : Int} (hd : p.ds = ds3) (hn : p.nv = nvF a b i n x y z) : scN p (.y 5006) = Sn.wv (Sn.wv x - Sn.wv y) := by
  have hg : goodD p.ds 0 = true := by rw [hd]; exact good3
  have e8 : scN p (.y 8) = x := (v_nv p (by omega)).trans (by rw [hn]; rfl)
  have e9 : scN p (.y 9) = y := (v_nv p (by omega)).trans (by rw [hn]; rfl)
  have h1 : p.v 5001 = Sn.wv x := by rw [← e8]; exact v_in (i := 0) (j := 1) hg (by rw [hd]; rfl) (by rw [hd]; rfl)
  have h3 : p.v 5003 = Sn.wv y := by rw [← e9]; exact v_in (i := 2) (j := 3) hg (by rw [hd]; rfl) (by rw [hd]; rfl)
  have h6 : p.v 5006 = Sn.wv (opZ 1 (p.v 5001) (p.v 5003)) := v_op (c := 1) (x := .y 5001) (y := .y 5003) (k := 4) (i := 5) (j := 6) (by omega) hg (by rw [hd]; rfl) (by rw [hd]; rfl) (by rw [hd]; rfl)
  show p.v 5006 = _
  rw [h6, h1, h3]
  rfl
theorem step5 {p : Pm} (hg : goodD p.ds 0 = true) {j k0 k1 k2 k3 k4 k5 : Nat} (h0 : p.ds[k0]? = some (2, .y (5000 + j), nI 3)) (h1 : p.ds[k1]? = some (5, .y (5000 + k0), u1)) (h2 : p.ds[k2]? = some (6, .y (5000 + k1), u1)) (h3 : p.ds[k3]? = some (0, .y (5000 + k2), .y (5000 + 1))) (h4 : p.ds[k4]? = some (5, .y (5000 + k3), u1)) (h5 : p.ds[k5]? = some (6, .y (5000 + k4), u1)) {v b : Int} (hv : p.v (5000 + j) = v) (hb : p.v (5000 + 1) = b) : p.v (5000 + k5) = Sn.wv (v * 3 + b) := by
  have e1 : p.v (5000 + k2) = Sn.wv (p.v (5000 + j) * 3) := v_op (c := 2) (x := .y (5000 + j)) (y := nI 3) (by omega) hg h0 h1 h2
  have e2 : p.v (5000 + k5) = Sn.wv (p.v (5000 + k2) + p.v (5000 + 1)) := v_op (c := 0) (x := .y (5000 + k2)) (y := .y (5000 + 1)) (by omega) hg h3 h4 h5
  rw [e2, e1, hb, hv, wv_add]
section
variable {p : Pm} {a b i : Int} {n : Nat} {x y z : Int}
theorem b5 (hd : p.ds = ds5) (hn : p.nv = nvF a b i n x y z) : p.v (5000 + 1) = Sn.wv y := by
  have hg : goodD p.ds 0 = true := by rw [hd]; exact good5
  have e9 : scN p (.y 9) = y := (v_nv p (by omega)).trans (by rw [hn]; rfl)
  rw [← e9]; exact v_in (i := 0) (j := 1) hg (by rw [hd]; rfl) (by rw [hd]; rfl)
theorem val5_0 (hd : p.ds = ds5) (hn : p.nv = nvF a b i n x y z) : scN p (.y 5003) = itv x y 0 := by
  have hg : goodD p.ds 0 = true := by rw [hd]; exact good5
  have e8 : scN p (.y 8) = x := (v_nv p (by omega)).trans (by rw [hn]; rfl)
  show p.v 5003 = Sn.wv x
  rw [← e8]; exact v_in (i := 2) (j := 3) hg (by rw [hd]; rfl) (by rw [hd]; rfl)
theorem val5_1 (hd : p.ds = ds5) (hn : p.nv = nvF a b i n x y z) : scN p (.y 5009) = itv x y 1 := step5 (j := 3) (k0 := 4) (k1 := 5) (k2 := 6) (k3 := 7) (k4 := 8) (k5 := 9) (by rw [hd]; exact good5) (by rw [hd]; rfl) (by rw [hd]; rfl) (by rw [hd]; rfl) (by rw [hd]; rfl) (by rw [hd]; rfl) (by rw [hd]; rfl) (val5_0 hd hn) (b5 hd hn)
theorem val5_2 (hd : p.ds = ds5) (hn : p.nv = nvF a b i n x y z) : scN p (.y 5015) = itv x y 2 := step5 (j := 9) (k0 := 10) (k1 := 11) (k2 := 12) (k3 := 13) (k4 := 14) (k5 := 15) (by rw [hd]; exact good5) (by rw [hd]; rfl) (by rw [hd]; rfl) (by rw [hd]; rfl) (by rw [hd]; rfl) (by rw [hd]; rfl) (by rw [hd]; rfl) (val5_1 hd hn) (b5 hd hn)
theorem val5_3 (hd : p.ds = ds5) (hn : p.nv = nvF a b i n x y z) : scN p (.y 5021) = itv x y 3 := step5 (j := 15) (k0 := 16) (k1 := 17) (k2 := 18) (k3 := 19) (k4 := 20) (k5 := 21) (by rw [hd]; exact good5) (by rw [hd]; rfl) (by rw [hd]; rfl) (by rw [hd]; rfl) (by rw [hd]; rfl) (by rw [hd]; rfl) (by rw [hd]; rfl) (val5_2 hd hn) (b5 hd hn)
theorem val5_4 (hd : p.ds = ds5) (hn : p.nv = nvF a b i n x y z) : scN p (.y 5027) = itv x y 4 := step5 (j := 21) (k0 := 22) (k1 := 23) (k2 := 24) (k3 := 25) (k4 := 26) (k5 := 27) (by rw [hd]; exact good5) (by rw [hd]; rfl) (by rw [hd]; rfl) (by rw [hd]; rfl) (by rw [hd]; rfl) (by rw [hd]; rfl) (by rw [hd]; rfl) (val5_3 hd hn) (b5 hd hn)
theorem val5_5 (hd : p.ds = ds5) (hn : p.nv = nvF a b i n x y z) : scN p (.y 5033) = itv x y 5 := step5 (j := 27) (k0 := 28) (k1 := 29) (k2 := 30) (k3 := 31) (k4 := 32) (k5 := 33) (by rw [hd]; exact good5) (by rw [hd]; rfl) (by rw [hd]; rfl) (by rw [hd]; rfl) (by rw [hd]; rfl) (by rw [hd]; rfl) (by rw [hd]; rfl) (val5_4 hd hn) (b5 hd hn)
theorem val5_6 (hd : p.ds = ds5) (hn : p.nv = nvF a b i n x y z) : scN p (.y 5039) = itv x y 6 := step5 (j := 33) (k0 := 34) (k1 := 35) (k2 := 36) (k3 := 37) (k4 := 38) (k5 := 39) (by rw [hd]; exact good5) (by rw [hd]; rfl) (by rw [hd]; rfl) (by rw [hd]; rfl) (by rw [hd]; rfl) (by rw [hd]; rfl) (by rw [hd]; rfl) (val5_5 hd hn) (b5 hd hn)
theorem val5_7 (hd : p.ds = ds5) (hn : p.nv = nvF a b i n x y z) : scN p (.y 5045) = itv x y 7 := step5 (j := 39) (k0 := 40) (k1 := 41) (k2 := 42) (k3 := 43) (k4 := 44) (k5 := 45) (by rw [hd]; exact good5) (by rw [hd]; rfl) (by rw [hd]; rfl) (by rw [hd]; rfl) (by rw [hd]; rfl) (by rw [hd]; rfl) (by rw [hd]; rfl) (val5_6 hd hn) (b5 hd hn)
theorem val5_8 (hd : p.ds = ds5) (hn : p.nv = nvF a b i n x y z) : scN p (.y 5051) = itv x y 8 := step5 (j := 45) (k0 := 46) (k1 := 47) (k2 := 48) (k3 := 49) (k4 := 50) (k5 := 51) (by rw [hd]; exact good5) (by rw [hd]; rfl) (by rw [hd]; rfl) (by rw [hd]; rfl) (by rw [hd]; rfl) (by rw [hd]; rfl) (by rw [hd]; rfl) (val5_7 hd hn) (b5 hd hn)
theorem val5_9 (hd : p.ds = ds5) (hn : p.nv = nvF a b i n x y z) : scN p (.y 5057) = itv x y 9 := step5 (j := 51) (k0 := 52) (k1 := 53) (k2 := 54) (k3 := 55) (k4 := 56) (k5 := 57) (by rw [hd]; exact good5) (by rw [hd]; rfl) (by rw [hd]; rfl) (by rw [hd]; rfl) (by rw [hd]; rfl) (by rw [hd]; rfl) (by rw [hd]; rfl) (val5_8 hd hn) (b5 hd hn)
theorem val5_10 (hd : p.ds = ds5) (hn : p.nv = nvF a b i n x y z) : scN p (.y 5063) = itv x y 10 := step5 (j := 57) (k0 := 58) (k1 := 59) (k2 := 60) (k3 := 61) (k4 := 62) (k5 := 63) (by rw [hd]; exact good5) (by rw [hd]; rfl) (by rw [hd]; rfl) (by rw [hd]; rfl) (by rw [hd]; rfl) (by rw [hd]; rfl) (by rw [hd]; rfl) (val5_9 hd hn) (b5 hd hn)
theorem val5_11 (hd : p.ds = ds5) (hn : p.nv = nvF a b i n x y z) : scN p (.y 5069) = itv x y 11 := step5 (j := 63) (k0 := 64) (k1 := 65) (k2 := 66) (k3 := 67) (k4 := 68) (k5 := 69) (by rw [hd]; exact good5) (by rw [hd]; rfl) (by rw [hd]; rfl) (by rw [hd]; rfl) (by rw [hd]; rfl) (by rw [hd]; rfl) (by rw [hd]; rfl) (val5_10 hd hn) (b5 hd hn)
theorem val5_12 (hd : p.ds = ds5) (hn : p.nv = nvF a b i n x y z) : scN p (.y 5075) = itv x y 12 := step5 (j := 69) (k0 := 70) (k1 := 71) (k2 := 72) (k3 := 73) (k4 := 74) (k5 := 75) (by rw [hd]; exact good5) (by rw [hd]; rfl) (by rw [hd]; rfl) (by rw [hd]; rfl) (by rw [hd]; rfl) (by rw [hd]; rfl) (by rw [hd]; rfl) (val5_11 hd hn) (b5 hd hn)
theorem val5_13 (hd : p.ds = ds5) (hn : p.nv = nvF a b i n x y z) : scN p (.y 5081) = itv x y 13 := step5 (j := 75) (k0 := 76) (k1 := 77) (k2 := 78) (k3 := 79) (k4 := 80) (k5 := 81) (by rw [hd]; exact good5) (by rw [hd]; rfl) (by rw [hd]; rfl) (by rw [hd]; rfl) (by rw [hd]; rfl) (by rw [hd]; rfl) (by rw [hd]; rfl) (val5_12 hd hn) (b5 hd hn)
theorem val5_14 (hd : p.ds = ds5) (hn : p.nv = nvF a b i n x y z) : scN p (.y 5087) = itv x y 14 := step5 (j := 81) (k0 := 82) (k1 := 83) (k2 := 84) (k3 := 85) (k4 := 86) (k5 := 87) (by rw [hd]; exact good5) (by rw [hd]; rfl) (by rw [hd]; rfl) (by rw [hd]; rfl) (by rw [hd]; rfl) (by rw [hd]; rfl) (by rw [hd]; rfl) (val5_13 hd hn) (b5 hd hn)
theorem val5_15 (hd : p.ds = ds5) (hn : p.nv = nvF a b i n x y z) : scN p (.y 5093) = itv x y 15 := step5 (j := 87) (k0 := 88) (k1 := 89) (k2 := 90) (k3 := 91) (k4 := 92) (k5 := 93) (by rw [hd]; exact good5) (by rw [hd]; rfl) (by rw [hd]; rfl) (by rw [hd]; rfl) (by rw [hd]; rfl) (by rw [hd]; rfl) (by rw [hd]; rfl) (val5_14 hd hn) (b5 hd hn)
theorem val5_16 (hd : p.ds = ds5) (hn : p.nv = nvF a b i n x y z) : scN p (.y 5099) = itv x y 16 := step5 (j := 93) (k0 := 94) (k1 := 95) (k2 := 96) (k3 := 97) (k4 := 98) (k5 := 99) (by rw [hd]; exact good5) (by rw [hd]; rfl) (by rw [hd]; rfl) (by rw [hd]; rfl) (by rw [hd]; rfl) (by rw [hd]; rfl) (by rw [hd]; rfl) (val5_15 hd hn) (b5 hd hn)
theorem val5_17 (hd : p.ds = ds5) (hn : p.nv = nvF a b i n x y z) : scN p (.y 5105) = itv x y 17 := step5 (j := 99) (k0 := 100) (k1 := 101) (k2 := 102) (k3 := 103) (k4 := 104) (k5 := 105) (by rw [hd]; exact good5) (by rw [hd]; rfl) (by rw [hd]; rfl) (by rw [hd]; rfl) (by rw [hd]; rfl) (by rw [hd]; rfl) (by rw [hd]; rfl) (val5_16 hd hn) (b5 hd hn)
theorem val5_18 (hd : p.ds = ds5) (hn : p.nv = nvF a b i n x y z) : scN p (.y 5111) = itv x y 18 := step5 (j := 105) (k0 := 106) (k1 := 107) (k2 := 108) (k3 := 109) (k4 := 110) (k5 := 111) (by rw [hd]; exact good5) (by rw [hd]; rfl) (by rw [hd]; rfl) (by rw [hd]; rfl) (by rw [hd]; rfl) (by rw [hd]; rfl) (by rw [hd]; rfl) (val5_17 hd hn) (b5 hd hn)
theorem val5_19 (hd : p.ds = ds5) (hn : p.nv = nvF a b i n x y z) : scN p (.y 5117) = itv x y 19 := step5 (j := 111) (k0 := 112) (k1 := 113) (k2 := 114) (k3 := 115) (k4 := 116) (k5 := 117) (by rw [hd]; exact good5) (by rw [hd]; rfl) (by rw [hd]; rfl) (by rw [hd]; rfl) (by rw [hd]; rfl) (by rw [hd]; rfl) (by rw [hd]; rfl) (val5_18 hd hn) (b5 hd hn)
theorem val5_20 (hd : p.ds = ds5) (hn : p.nv = nvF a b i n x y z) : scN p (.y 5123) = itv x y 20 := step5 (j := 117) (k0 := 118) (k1 := 119) (k2 := 120) (k3 := 121) (k4 := 122) (k5 := 123) (by rw [hd]; exact good5) (by rw [hd]; rfl) (by rw [hd]; rfl) (by rw [hd]; rfl) (by rw [hd]; rfl) (by rw [hd]; rfl) (by rw [hd]; rfl) (val5_19 hd hn) (b5 hd hn)
theorem val5_21 (hd : p.ds = ds5) (hn : p.nv = nvF a b i n x y z) : scN p (.y 5129) = itv x y 21 := step5 (j := 123) (k0 := 124) (k1 := 125) (k2 := 126) (k3 := 127) (k4 := 128) (k5 := 129) (by rw [hd]; exact good5) (by rw [hd]; rfl) (by rw [hd]; rfl) (by rw [hd]; rfl) (by rw [hd]; rfl) (by rw [hd]; rfl) (by rw [hd]; rfl) (val5_20 hd hn) (b5 hd hn)
theorem val5_22 (hd : p.ds = ds5) (hn : p.nv = nvF a b i n x y z) : scN p (.y 5135) = itv x y 22 := step5 (j := 129) (k0 := 130) (k1 := 131) (k2 := 132) (k3 := 133) (k4 := 134) (k5 := 135) (by rw [hd]; exact good5) (by rw [hd]; rfl) (by rw [hd]; rfl) (by rw [hd]; rfl) (by rw [hd]; rfl) (by rw [hd]; rfl) (by rw [hd]; rfl) (val5_21 hd hn) (b5 hd hn)
theorem val5_23 (hd : p.ds = ds5) (hn : p.nv = nvF a b i n x y z) : scN p (.y 5141) = itv x y 23 := step5 (j := 135) (k0 := 136) (k1 := 137) (k2 := 138) (k3 := 139) (k4 := 140) (k5 := 141) (by rw [hd]; exact good5) (by rw [hd]; rfl) (by rw [hd]; rfl) (by rw [hd]; rfl) (by rw [hd]; rfl) (by rw [hd]; rfl) (by rw [hd]; rfl) (val5_22 hd hn) (b5 hd hn)
theorem val5_24 (hd : p.ds = ds5) (hn : p.nv = nvF a b i n x y z) : scN p (.y 5147) = itv x y 24 := step5 (j := 141) (k0 := 142) (k1 := 143) (k2 := 144) (k3 := 145) (k4 := 146) (k5 := 147) (by rw [hd]; exact good5) (by rw [hd]; rfl) (by rw [hd]; rfl) (by rw [hd]; rfl) (by rw [hd]; rfl) (by rw [hd]; rfl) (by rw [hd]; rfl) (val5_23 hd hn) (b5 hd hn)
theorem val5_25 (hd : p.ds = ds5) (hn : p.nv = nvF a b i n x y z) : scN p (.y 5153) = itv x y 25 := step5 (j := 147) (k0 := 148) (k1 := 149) (k2 := 150) (k3 := 151) (k4 := 152) (k5 := 153) (by rw [hd]; exact good5) (by rw [hd]; rfl) (by rw [hd]; rfl) (by rw [hd]; rfl) (by rw [hd]; rfl) (by rw [hd]; rfl) (by rw [hd]; rfl) (val5_24 hd hn) (b5 hd hn)
theorem val5_26 (hd : p.ds = ds5) (hn : p.nv = nvF a b i n x y z) : scN p (.y 5159) = itv x y 26 := step5 (j := 153) (k0 := 154) (k1 := 155) (k2 := 156) (k3 := 157) (k4 := 158) (k5 := 159) (by rw [hd]; exact good5) (by rw [hd]; rfl) (by rw [hd]; rfl) (by rw [hd]; rfl) (by rw [hd]; rfl) (by rw [hd]; rfl) (by rw [hd]; rfl) (val5_25 hd hn) (b5 hd hn)
theorem val5_27 (hd : p.ds = ds5) (hn : p.nv = nvF a b i n x y z) : scN p (.y 5165) = itv x y 27 := step5 (j := 159) (k0 := 160) (k1 := 161) (k2 := 162) (k3 := 163) (k4 := 164) (k5 := 165) (by rw [hd]; exact good5) (by rw [hd]; rfl) (by rw [hd]; rfl) (by rw [hd]; rfl) (by rw [hd]; rfl) (by rw [hd]; rfl) (by rw [hd]; rfl) (val5_26 hd hn) (b5 hd hn)
theorem val5_28 (hd : p.ds = ds5) (hn : p.nv = nvF a b i n x y z) : scN p (.y 5171) = itv x y 28 := step5 (j := 165) (k0 := 166) (k1 := 167) (k2 := 168) (k3 := 169) (k4 := 170) (k5 := 171) (by rw [hd]; exact good5) (by rw [hd]; rfl) (by rw [hd]; rfl) (by rw [hd]; rfl) (by rw [hd]; rfl) (by rw [hd]; rfl) (by rw [hd]; rfl) (val5_27 hd hn) (b5 hd hn)
theorem val5_29 (hd : p.ds = ds5) (hn : p.nv = nvF a b i n x y z) : scN p (.y 5177) = itv x y 29 := step5 (j := 171) (k0 := 172) (k1 := 173) (k2 := 174) (k3 := 175) (k4 := 176) (k5 := 177) (by rw [hd]; exact good5) (by rw [hd]; rfl) (by rw [hd]; rfl) (by rw [hd]; rfl) (by rw [hd]; rfl) (by rw [hd]; rfl) (by rw [hd]; rfl) (val5_28 hd hn) (b5 hd hn)
end
theorem t1 (E : Ev1) {a b i : Int} (ha : Sn.I5 a) (hb : Sn.I5 b) (hi : Sn.I5 i) {n : Nat} (hn : n < 30) (x y z : Int) {w : World} (hw : Lw w) : RunIs ⟨(flat (dgN (nvF a b i n x y z)) lx1).toArray⟩ (.slice none 0 0) 2 1 w 0 0 ((n * (n + 1) / 2 : Nat) : Int) [] 0 := by
  have hv := nv_ok (n := n) (x := x) (y := y) (z := z) ha hb hi (by omega)
  match n, hn with
  | 0, hn => exact tx1_0_ok.run hv (tx1_0_ok.cmp hv E.y1_0) hw (no_in _ _) rfl E.r1_0
  | 1, hn => exact tx1_1_ok.run hv (tx1_1_ok.cmp hv E.y1_1) hw (no_in _ _) rfl E.r1_1
  | 2, hn => exact tx1_2_ok.run hv (tx1_2_ok.cmp hv E.y1_2) hw (no_in _ _) rfl E.r1_2
  | 3, hn => exact tx1_3_ok.run hv ((tc1_ok hn (by omega)).cmp2 hv E.y1 rfl rfl (by kernel_rfl)) hw (no_in _ _) rfl E.r1_3
  | 4, hn => exact tx1_4_ok.run hv ((tc1_ok hn (by omega)).cmp2 hv E.y1 rfl rfl (by kernel_rfl)) hw (no_in _ _) rfl E.r1_4
  | 5, hn => exact tx1_5_ok.run hv ((tc1_ok hn (by omega)).cmp2 hv E.y1 rfl rfl (by kernel_rfl)) hw (no_in _ _) rfl E.r1_5
  | 6, hn => exact tx1_6_ok.run hv ((tc1_ok hn (by omega)).cmp2 hv E.y1 rfl rfl (by kernel_rfl)) hw (no_in _ _) rfl E.r1_6
  | 7, hn => exact tx1_7_ok.run hv ((tc1_ok hn (by omega)).cmp2 hv E.y1 rfl rfl (by kernel_rfl)) hw (no_in _ _) rfl E.r1_7
  | 8, hn => exact tx1_8_ok.run hv ((tc1_ok hn (by omega)).cmp2 hv E.y1 rfl rfl (by kernel_rfl)) hw (no_in _ _) rfl E.r1_8
  | 9, hn => exact tx1_9_ok.run hv ((tc1_ok hn (by omega)).cmp2 hv E.y1 rfl rfl (by kernel_rfl)) hw (no_in _ _) rfl E.r1_9
  | 10, hn => exact tx1_10_ok.run hv ((tc1_ok hn (by omega)).cmp2 hv E.y1 rfl rfl (by kernel_rfl)) hw (no_in _ _) rfl E.r1_10
  | 11, hn => exact tx1_11_ok.run hv ((tc1_ok hn (by omega)).cmp2 hv E.y1 rfl rfl (by kernel_rfl)) hw (no_in _ _) rfl E.r1_11
  | 12, hn => exact tx1_12_ok.run hv ((tc1_ok hn (by omega)).cmp2 hv E.y1 rfl rfl (by kernel_rfl)) hw (no_in _ _) rfl E.r1_12
  | 13, hn => exact tx1_13_ok.run hv ((tc1_ok hn (by omega)).cmp2 hv E.y1 rfl rfl (by kernel_rfl)) hw (no_in _ _) rfl E.r1_13
  | 14, hn => exact tx1_14_ok.run hv ((tc1_ok hn (by omega)).cmp2 hv E.y1 rfl rfl (by kernel_rfl)) hw (no_in _ _) rfl E.r1_14
  | 15, hn => exact tx1_15_ok.run hv ((tc1_ok hn (by omega)).cmp2 hv E.y1 rfl rfl (by kernel_rfl)) hw (no_in _ _) rfl E.r1_15
  | 16, hn => exact tx1_16_ok.run hv ((tc1_ok hn (by omega)).cmp2 hv E.y1 rfl rfl (by kernel_rfl)) hw (no_in _ _) rfl E.r1_16
  | 17, hn => exact tx1_17_ok.run hv ((tc1_ok hn (by omega)).cmp2 hv E.y1 rfl rfl (by kernel_rfl)) hw (no_in _ _) rfl E.r1_17
  | 18, hn => exact tx1_18_ok.run hv ((tc1_ok hn (by omega)).cmp2 hv E.y1 rfl rfl (by kernel_rfl)) hw (no_in _ _) rfl E.r1_18
  | 19, hn => exact tx1_19_ok.run hv ((tc1_ok hn (by omega)).cmp2 hv E.y1 rfl rfl (by kernel_rfl)) hw (no_in _ _) rfl E.r1_19
  | 20, hn => exact tx1_20_ok.run hv ((tc1_ok hn (by omega)).cmp2 hv E.y1 rfl rfl (by kernel_rfl)) hw (no_in _ _) rfl E.r1_20
  | 21, hn => exact tx1_21_ok.run hv ((tc1_ok hn (by omega)).cmp2 hv E.y1 rfl rfl (by kernel_rfl)) hw (no_in _ _) rfl E.r1_21
  | 22, hn => exact tx1_22_ok.run hv ((tc1_ok hn (by omega)).cmp2 hv E.y1 rfl rfl (by kernel_rfl)) hw (no_in _ _) rfl E.r1_22
  | 23, hn => exact tx1_23_ok.run hv ((tc1_ok hn (by omega)).cmp2 hv E.y1 rfl rfl (by kernel_rfl)) hw (no_in _ _) rfl E.r1_23
  | 24, hn => exact tx1_24_ok.run hv ((tc1_ok hn (by omega)).cmp2 hv E.y1 rfl rfl (by kernel_rfl)) hw (no_in _ _) rfl E.r1_24
  | 25, hn => exact tx1_25_ok.run hv ((tc1_ok hn (by omega)).cmp2 hv E.y1 rfl rfl (by kernel_rfl)) hw (no_in _ _) rfl E.r1_25
  | 26, hn => exact tx1_26_ok.run hv ((tc1_ok hn (by omega)).cmp2 hv E.y1 rfl rfl (by kernel_rfl)) hw (no_in _ _) rfl E.r1_26
  | 27, hn => exact tx1_27_ok.run hv ((tc1_ok hn (by omega)).cmp2 hv E.y1 rfl rfl (by kernel_rfl)) hw (no_in _ _) rfl E.r1_27
  | 28, hn => exact tx1_28_ok.run hv ((tc1_ok hn (by omega)).cmp2 hv E.y1 rfl rfl (by kernel_rfl)) hw (no_in _ _) rfl E.r1_28
  | 29, hn => exact tx1_29_ok.run hv ((tc1_ok hn (by omega)).cmp2 hv E.y1 rfl rfl (by kernel_rfl)) hw (no_in _ _) rfl E.r1_29
  | n + 30, hn => exact absurd hn (by omega)
theorem t2 (E : Ev2) {a b i : Int} (ha : Sn.I5 a) (hb : Sn.I5 b) (hi : Sn.I5 i) {n : Nat} (hn : n < 30) (x y z : Int) {w : World} (hw : Lw w) : RunIs ⟨(flat (dgN (nvF a b i n x y z)) lx2).toArray⟩ (.slice none 0 0) 2 (n + 1) w 0 0 ((n * (n + 1) / 2 : Nat) : Int) [] 0 := by
  have hv := nv_ok (n := n) (x := x) (y := y) (z := z) ha hb hi (by omega)
  match n, hn with
  | 0, hn => exact tx2_0_ok.run hv (tx2_0_ok.cmp hv E.y2_0) hw (no_in _ _) rfl E.r2_0
  | 1, hn => exact tx2_1_ok.run hv (tx2_1_ok.cmp hv E.y2_1) hw (no_in _ _) rfl E.r2_1
  | 2, hn => exact tx2_2_ok.run hv (tx2_2_ok.cmp hv E.y2_2) hw (no_in _ _) rfl E.r2_2
  | 3, hn => exact tx2_3_ok.run hv (tx2_3_ok.cmp hv E.y2_3) hw (no_in _ _) rfl E.r2_3
  | 4, hn => exact tx2_4_ok.run hv (tx2_4_ok.cmp hv E.y2_4) hw (no_in _ _) rfl E.r2_4
  | 5, hn => exact tx2_5_ok.run hv ((tc2_ok hn (by omega)).cmp2 hv E.y2 rfl rfl (by kernel_rfl)) hw (no_in _ _) rfl E.r2_5
  | 6, hn => exact tx2_6_ok.run hv ((tc2_ok hn (by omega)).cmp2 hv E.y2 rfl rfl (by kernel_rfl)) hw (no_in _ _) rfl E.r2_6
  | 7, hn => exact tx2_7_ok.run hv ((tc2_ok hn (by omega)).cmp2 hv E.y2 rfl rfl (by kernel_rfl)) hw (no_in _ _) rfl E.r2_7
  | 8, hn => exact tx2_8_ok.run hv ((tc2_ok hn (by omega)).cmp2 hv E.y2 rfl rfl (by kernel_rfl)) hw (no_in _ _) rfl E.r2_8
  | 9, hn => exact tx2_9_ok.run hv ((tc2_ok hn (by omega)).cmp2 hv E.y2 rfl rfl (by kernel_rfl)) hw (no_in _ _) rfl E.r2_9
  | 10, hn => exact tx2_10_ok.run hv ((tc2_ok hn (by omega)).cmp2 hv E.y2 rfl rfl (by kernel_rfl)) hw (no_in _ _) rfl E.r2_10
  | 11, hn => exact tx2_11_ok.run hv ((tc2_ok hn (by omega)).cmp2 hv E.y2 rfl rfl (by kernel_rfl)) hw (no_in _ _) rfl E.r2_11
  | 12, hn => exact tx2_12_ok.run hv ((tc2_ok hn (by omega)).cmp2 hv E.y2 rfl rfl (by kernel_rfl)) hw (no_in _ _) rfl E.r2_12
  | 13, hn => exact tx2_13_ok.run hv ((tc2_ok hn (by omega)).cmp2 hv E.y2 rfl rfl (by kernel_rfl)) hw (no_in _ _) rfl E.r2_13
  | 14, hn => exact tx2_14_ok.run hv ((tc2_ok hn (by omega)).cmp2 hv E.y2 rfl rfl (by kernel_rfl)) hw (no_in _ _) rfl E.r2_14
  | 15, hn => exact tx2_15_ok.run hv ((tc2_ok hn (by omega)).cmp2 hv E.y2 rfl rfl (by kernel_rfl)) hw (no_in _ _) rfl E.r2_15
  | 16, hn => exact tx2_16_ok.run hv ((tc2_ok hn (by omega)).cmp2 hv E.y2 rfl rfl (by kernel_rfl)) hw (no_in _ _) rfl E.r2_16
  | 17, hn => exact tx2_17_ok.run hv ((tc2_ok hn (by omega)).cmp2 hv E.y2 rfl rfl (by kernel_rfl)) hw (no_in _ _) rfl E.r2_17
  | 18, hn => exact tx2_18_ok.run hv ((tc2_ok hn (by omega)).cmp2 hv E.y2 rfl rfl (by kernel_rfl)) hw (no_in _ _) rfl E.r2_18
  | 19, hn => exact tx2_19_ok.run hv ((tc2_ok hn (by omega)).cmp2 hv E.y2 rfl rfl (by kernel_rfl)) hw (no_in _ _) rfl E.r2_19
  | 20, hn => exact tx2_20_ok.run hv ((tc2_ok hn (by omega)).cmp2 hv E.y2 rfl rfl (by kernel_rfl)) hw (no_in _ _) rfl E.r2_20
  | 21, hn => exact tx2_21_ok.run hv ((tc2_ok hn (by omega)).cmp2 hv E.y2 rfl rfl (by kernel_rfl)) hw (no_in _ _) rfl E.r2_21
  | 22, hn => exact tx2_22_ok.run hv ((tc2_ok hn (by omega)).cmp2 hv E.y2 rfl rfl (by kernel_rfl)) hw (no_in _ _) rfl E.r2_22
  | 23, hn => exact tx2_23_ok.run hv ((tc2_ok hn (by omega)).cmp2 hv E.y2 rfl rfl (by kernel_rfl)) hw (no_in _ _) rfl E.r2_23
  | 24, hn => exact tx2_24_ok.run hv ((tc2_ok hn (by omega)).cmp2 hv E.y2 rfl rfl (by kernel_rfl)) hw (no_in _ _) rfl E.r2_24
  | 25, hn => exact tx2_25_ok.run hv ((tc2_ok hn (by omega)).cmp2 hv E.y2 rfl rfl (by kernel_rfl)) hw (no_in _ _) rfl E.r2_25
  | 26, hn => exact tx2_26_ok.run hv ((tc2_ok hn (by omega)).cmp2 hv E.y2 rfl rfl (by kernel_rfl)) hw (no_in _ _) rfl E.r2_26
  | 27, hn => exact tx2_27_ok.run hv ((tc2_ok hn (by omega)).cmp2 hv E.y2 rfl rfl (by kernel_rfl)) hw (no_in _ _) rfl E.r2_27
  | 28, hn => exact tx2_28_ok.run hv ((tc2_ok hn (by omega)).cmp2 hv E.y2 rfl rfl (by kernel_rfl)) hw (no_in _ _) rfl E.r2_28
  | 29, hn => exact tx2_29_ok.run hv ((tc2_ok hn (by omega)).cmp2 hv E.y2 rfl rfl (by kernel_rfl)) hw (no_in _ _) rfl E.r2_29
  | n + 30, hn => exact absurd hn (by omega)
theorem t3 (E : Ev3) {a b i : Int} (ha : Sn.I5 a) (hb : Sn.I5 b) (hi : Sn.I5 i) {n : Nat} (hn : n < 30) (x y z : Int) {w : World} (hw : Lw w) {k : Nat} (h2 : 2 ≤ k) (k0 : w.cell? ⟨k, 0, none⟩ = some (.int .i64 x)) (k1 : w.cell? ⟨k, 1, none⟩ = some (.int .i64 y)) : RunIs ⟨(flat (dgN (nvF a b i n x y z)) lx3).toArray⟩ (.slice (some ⟨k, 0, none⟩) 2 2) 32 2 w 0 0 (Sn.wv (Sn.wv x - Sn.wv y)) [] 2 := by
  have hv := nv_ok (n := n) (x := x) (y := y) (z := z) ha hb hi (by omega)
  match n, hn with
  | 0, hn => have h := tx3_0_ok.run hv ((tc3_ok hn (by omega)).cmp2 hv E.y3 rfl rfl (by kernel_rfl)) hw (in2 (u := 5) (v := 6) h2 rfl rfl k0 k1) rfl E.r3_0; rw [val3 (p := mkP c0 (nvF a b i 0 x y z) lx3 tx3_0) rfl rfl] at h; exact h
  | 1, hn => have h := tx3_1_ok.run hv ((tc3_ok hn (by omega)).cmp2 hv E.y3 rfl rfl (by kernel_rfl)) hw (in2 (u := 5) (v := 6) h2 rfl rfl k0 k1) rfl E.r3_1; rw [val3 (p := mkP c0 (nvF a b i 1 x y z) lx3 tx3_1) rfl rfl] at h; exact h
  | 2, hn => have h := tx3_2_ok.run hv ((tc3_ok hn (by omega)).cmp2 hv E.y3 rfl rfl (by kernel_rfl)) hw (in2 (u := 5) (v := 6) h2 rfl rfl k0 k1) rfl E.r3_2; rw [val3 (p := mkP c0 (nvF a b i 2 x y z) lx3 tx3_2) rfl rfl] at h; exact h
  | 3, hn => have h := tx3_3_ok.run hv ((tc3_ok hn (by omega)).cmp2 hv E.y3 rfl rfl (by kernel_rfl)) hw (in2 (u := 5) (v := 6) h2 rfl rfl k0 k1) rfl E.r3_3; rw [val3 (p := mkP c0 (nvF a b i 3 x y z) lx3 tx3_3) rfl rfl] at h; exact h
  | 4, hn => have h := tx3_4_ok.run hv ((tc3_ok hn (by omega)).cmp2 hv E.y3 rfl rfl (by kernel_rfl)) hw (in2 (u := 5) (v := 6) h2 rfl rfl k0 k1) rfl E.r3_4; rw [val3 (p := mkP c0 (nvF a b i 4 x y z) lx3 tx3_4) rfl rfl] at h; exact h
  | 5, hn => have h := tx3_5_ok.run hv ((tc3_ok hn (by omega)).cmp2 hv E.y3 rfl rfl (by kernel_rfl)) hw (in2 (u := 5) (v := 6) h2 rfl rfl k0 k1) rfl E.r3_5; rw [val3 (p := mkP c0 (nvF a b i 5 x y z) lx3 tx3_5) rfl rfl] at h; exact h
  | 6, hn => have h := tx3_6_ok.run hv ((tc3_ok hn (by omega)).cmp2 hv E.y3 rfl rfl (by kernel_rfl)) hw (in2 (u := 5) (v := 6) h2 rfl rfl k0 k1) rfl E.r3_6; rw [val3 (p := mkP c0 (nvF a b i 6 x y z) lx3 tx3_6) rfl rfl] at h; exact h
  | 7, hn => have h := tx3_7_ok.run hv ((tc3_ok hn (by omega)).cmp2 hv E.y3 rfl rfl (by kernel_rfl)) hw (in2 (u := 5) (v := 6) h2 rfl rfl k0 k1) rfl E.r3_7; rw [val3 (p := mkP c0 (nvF a b i 7 x y z) lx3 tx3_7) rfl rfl] at h; exact h
  | 8, hn => have h := tx3_8_ok.run hv ((tc3_ok hn (by omega)).cmp2 hv E.y3 rfl rfl (by kernel_rfl)) hw (in2 (u := 5) (v := 6) h2 rfl rfl k0 k1) rfl E.r3_8; rw [val3 (p := mkP c0 (nvF a b i 8 x y z) lx3 tx3_8) rfl rfl] at h; exact h
  | 9, hn => have h := tx3_9_ok.run hv ((tc3_ok hn (by omega)).cmp2 hv E.y3 rfl rfl (by kernel_rfl)) hw (in2 (u := 5) (v := 6) h2 rfl rfl k0 k1) rfl E.r3_9; rw [val3 (p := mkP c0 (nvF a b i 9 x y z) lx3 tx3_9) rfl rfl] at h; exact h
  | 10, hn => have h := tx3_10_ok.run hv ((tc3_ok hn (by omega)).cmp2 hv E.y3 rfl rfl (by kernel_rfl)) hw (in2 (u := 5) (v := 6) h2 rfl rfl k0 k1) rfl E.r3_10; rw [val3 (p := mkP c0 (nvF a b i 10 x y z) lx3 tx3_10) rfl rfl] at h; exact h
  | 11, hn => have h := tx3_11_ok.run hv ((tc3_ok hn (by omega)).cmp2 hv E.y3 rfl rfl (by kernel_rfl)) hw (in2 (u := 5) (v := 6) h2 rfl rfl k0 k1) rfl E.r3_11; rw [val3 (p := mkP c0 (nvF a b i 11 x y z) lx3 tx3_11) rfl rfl] at h; exact h
  | 12, hn => have h := tx3_12_ok.run hv ((tc3_ok hn (by omega)).cmp2 hv E.y3 rfl rfl (by kernel_rfl)) hw (in2 (u := 5) (v := 6) h2 rfl rfl k0 k1) rfl E.r3_12; rw [val3 (p := mkP c0 (nvF a b i 12 x y z) lx3 tx3_12) rfl rfl] at h; exact h
  | 13, hn => have h := tx3_13_ok.run hv ((tc3_ok hn (by omega)).cmp2 hv E.y3 rfl rfl (by kernel_rfl)) hw (in2 (u := 5) (v := 6) h2 rfl rfl k0 k1) rfl E.r3_13; rw [val3 (p := mkP c0 (nvF a b i 13 x y z) lx3 tx3_13) rfl rfl] at h; exact h
  | 14, hn => have h := tx3_14_ok.run hv ((tc3_ok hn (by omega)).cmp2 hv E.y3 rfl rfl (by kernel_rfl)) hw (in2 (u := 5) (v := 6) h2 rfl rfl k0 k1) rfl E.r3_14; rw [val3 (p := mkP c0 (nvF a b i 14 x y z) lx3 tx3_14) rfl rfl] at h; exact h
  | 15, hn => have h := tx3_15_ok.run hv ((tc3_ok hn (by omega)).cmp2 hv E.y3 rfl rfl (by kernel_rfl)) hw (in2 (u := 5) (v := 6) h2 rfl rfl k0 k1) rfl E.r3_15; rw [val3 (p := mkP c0 (nvF a b i 15 x y z) lx3 tx3_15) rfl rfl] at h; exact h
  | 16, hn => have h := tx3_16_ok.run hv ((tc3_ok hn (by omega)).cmp2 hv E.y3 rfl rfl (by kernel_rfl)) hw (in2 (u := 5) (v := 6) h2 rfl rfl k0 k1) rfl E.r3_16; rw [val3 (p := mkP c0 (nvF a b i 16 x y z) lx3 tx3_16) rfl rfl] at h; exact h
  | 17, hn => have h := tx3_17_ok.run hv ((tc3_ok hn (by omega)).cmp2 hv E.y3 rfl rfl (by kernel_rfl)) hw (in2 (u := 5) (v := 6) h2 rfl rfl k0 k1) rfl E.r3_17; rw [val3 (p := mkP c0 (nvF a b i 17 x y z) lx3 tx3_17) rfl rfl] at h; exact h
  | 18, hn => have h := tx3_18_ok.run hv ((tc3_ok hn (by omega)).cmp2 hv E.y3 rfl rfl (by kernel_rfl)) hw (in2 (u := 5) (v := 6) h2 rfl rfl k0 k1) rfl E.r3_18; rw [val3 (p := mkP c0 (nvF a b i 18 x y z) lx3 tx3_18) rfl rfl] at h; exact h
  | 19, hn => have h := tx3_19_ok.run hv ((tc3_ok hn (by omega)).cmp2 hv E.y3 rfl rfl (by kernel_rfl)) hw (in2 (u := 5) (v := 6) h2 rfl rfl k0 k1) rfl E.r3_19; rw [val3 (p := mkP c0 (nvF a b i 19 x y z) lx3 tx3_19) rfl rfl] at h; exact h
  | 20, hn => have h := tx3_20_ok.run hv ((tc3_ok hn (by omega)).cmp2 hv E.y3 rfl rfl (by kernel_rfl)) hw (in2 (u := 5) (v := 6) h2 rfl rfl k0 k1) rfl E.r3_20; rw [val3 (p := mkP c0 (nvF a b i 20 x y z) lx3 tx3_20) rfl rfl] at h; exact h
  | 21, hn => have h := tx3_21_ok.run hv ((tc3_ok hn (by omega)).cmp2 hv E.y3 rfl rfl (by kernel_rfl)) hw (in2 (u := 5) (v := 6) h2 rfl rfl k0 k1) rfl E.r3_21; rw [val3 (p := mkP c0 (nvF a b i 21 x y z) lx3 tx3_21) rfl rfl] at h; exact h
  | 22, hn => have h := tx3_22_ok.run hv ((tc3_ok hn (by omega)).cmp2 hv E.y3 rfl rfl (by kernel_rfl)) hw (in2 (u := 5) (v := 6) h2 rfl rfl k0 k1) rfl E.r3_22; rw [val3 (p := mkP c0 (nvF a b i 22 x y z) lx3 tx3_22) rfl rfl] at h; exact h
  | 23, hn => have h := tx3_23_ok.run hv ((tc3_ok hn (by omega)).cmp2 hv E.y3 rfl rfl (by kernel_rfl)) hw (in2 (u := 5) (v := 6) h2 rfl rfl k0 k1) rfl E.r3_23; rw [val3 (p := mkP c0 (nvF a b i 23 x y z) lx3 tx3_23) rfl rfl] at h; exact h
  | 24, hn => have h := tx3_24_ok.run hv ((tc3_ok hn (by omega)).cmp2 hv E.y3 rfl rfl (by kernel_rfl)) hw (in2 (u := 5) (v := 6) h2 rfl rfl k0 k1) rfl E.r3_24; rw [val3 (p := mkP c0 (nvF a b i 24 x y z) lx3 tx3_24) rfl rfl] at h; exact h
  | 25, hn => have h := tx3_25_ok.run hv ((tc3_ok hn (by omega)).cmp2 hv E.y3 rfl rfl (by kernel_rfl)) hw (in2 (u := 5) (v := 6) h2 rfl rfl k0 k1) rfl E.r3_25; rw [val3 (p := mkP c0 (nvF a b i 25 x y z) lx3 tx3_25) rfl rfl] at h; exact h
  | 26, hn => have h := tx3_26_ok.run hv ((tc3_ok hn (by omega)).cmp2 hv E.y3 rfl rfl (by kernel_rfl)) hw (in2 (u := 5) (v := 6) h2 rfl rfl k0 k1) rfl E.r3_26; rw [val3 (p := mkP c0 (nvF a b i 26 x y z) lx3 tx3_26) rfl rfl] at h; exact h
  | 27, hn => have h := tx3_27_ok.run hv ((tc3_ok hn (by omega)).cmp2 hv E.y3 rfl rfl (by kernel_rfl)) hw (in2 (u := 5) (v := 6) h2 rfl rfl k0 k1) rfl E.r3_27; rw [val3 (p := mkP c0 (nvF a b i 27 x y z) lx3 tx3_27) rfl rfl] at h; exact h
  | 28, hn => have h := tx3_28_ok.run hv ((tc3_ok hn (by omega)).cmp2 hv E.y3 rfl rfl (by kernel_rfl)) hw (in2 (u := 5) (v := 6) h2 rfl rfl k0 k1) rfl E.r3_28; rw [val3 (p := mkP c0 (nvF a b i 28 x y z) lx3 tx3_28) rfl rfl] at h; exact h
  | 29, hn => have h := tx3_29_ok.run hv ((tc3_ok hn (by omega)).cmp2 hv E.y3 rfl rfl (by kernel_rfl)) hw (in2 (u := 5) (v := 6) h2 rfl rfl k0 k1) rfl E.r3_29; rw [val3 (p := mkP c0 (nvF a b i 29 x y z) lx3 tx3_29) rfl rfl] at h; exact h
  | n + 30, hn => exact absurd hn (by omega)
theorem t5 (E : Ev5) {a b i : Int} (ha : Sn.I5 a) (hb : Sn.I5 b) (hi : Sn.I5 i) {n : Nat} (hn : n < 30) (x y z : Int) {w : World} (hw : Lw w) {k : Nat} (h2 : 2 ≤ k) (k0 : w.cell? ⟨k, 0, none⟩ = some (.int .i64 y)) (k1 : w.cell? ⟨k, 1, none⟩ = some (.int .i64 x)) : RunIs ⟨(flat (dgN (nvF a b i n x y z)) lx5).toArray⟩ (.slice (some ⟨k, 0, none⟩) 2 2) 40 2 w 0 0 (itv x y n) [] 2 := by
  have hv := nv_ok (n := n) (x := x) (y := y) (z := z) ha hb hi (by omega)
  match n, hn with
  | 0, hn => have h := tx5_0_ok.run hv ((tc5_ok hn (by omega)).cmp2 hv E.y5 rfl rfl (by kernel_rfl)) hw (in2 (u := 6) (v := 5) h2 rfl rfl k0 k1) rfl E.r5_0; rw [val5_0 (p := mkP c0 (nvF a b i 0 x y z) lx5 tx5_0) rfl rfl] at h; exact h
  | 1, hn => have h := tx5_1_ok.run hv ((tc5_ok hn (by omega)).cmp2 hv E.y5 rfl rfl (by kernel_rfl)) hw (in2 (u := 6) (v := 5) h2 rfl rfl k0 k1) rfl E.r5_1; rw [val5_1 (p := mkP c0 (nvF a b i 1 x y z) lx5 tx5_1) rfl rfl] at h; exact h
  | 2, hn => have h := tx5_2_ok.run hv ((tc5_ok hn (by omega)).cmp2 hv E.y5 rfl rfl (by kernel_rfl)) hw (in2 (u := 6) (v := 5) h2 rfl rfl k0 k1) rfl E.r5_2; rw [val5_2 (p := mkP c0 (nvF a b i 2 x y z) lx5 tx5_2) rfl rfl] at h; exact h
  | 3, hn => have h := tx5_3_ok.run hv ((tc5_ok hn (by omega)).cmp2 hv E.y5 rfl rfl (by kernel_rfl)) hw (in2 (u := 6) (v := 5) h2 rfl rfl k0 k1) rfl E.r5_3; rw [val5_3 (p := mkP c0 (nvF a b i 3 x y z) lx5 tx5_3) rfl rfl] at h; exact h
  | 4, hn => have h := tx5_4_ok.run hv ((tc5_ok hn (by omega)).cmp2 hv E.y5 rfl rfl (by kernel_rfl)) hw (in2 (u := 6) (v := 5) h2 rfl rfl k0 k1) rfl E.r5_4; rw [val5_4 (p := mkP c0 (nvF a b i 4 x y z) lx5 tx5_4) rfl rfl] at h; exact h
  | 5, hn => have h := tx5_5_ok.run hv ((tc5_ok hn (by omega)).cmp2 hv E.y5 rfl rfl (by kernel_rfl)) hw (in2 (u := 6) (v := 5) h2 rfl rfl k0 k1) rfl E.r5_5; rw [val5_5 (p := mkP c0 (nvF a b i 5 x y z) lx5 tx5_5) rfl rfl] at h; exact h
  | 6, hn => have h := tx5_6_ok.run hv ((tc5_ok hn (by omega)).cmp2 hv E.y5 rfl rfl (by kernel_rfl)) hw (in2 (u := 6) (v := 5) h2 rfl rfl k0 k1) rfl E.r5_6; rw [val5_6 (p := mkP c0 (nvF a b i 6 x y z) lx5 tx5_6) rfl rfl] at h; exact h
  | 7, hn => have h := tx5_7_ok.run hv ((tc5_ok hn (by omega)).cmp2 hv E.y5 rfl rfl (by kernel_rfl)) hw (in2 (u := 6) (v := 5) h2 rfl rfl k0 k1) rfl E.r5_7; rw [val5_7 (p := mkP c0 (nvF a b i 7 x y z) lx5 tx5_7) rfl rfl] at h; exact h
  | 8, hn => have h := tx5_8_ok.run hv ((tc5_ok hn (by omega)).cmp2 hv E.y5 rfl rfl (by kernel_rfl)) hw (in2 (u := 6) (v := 5) h2 rfl rfl k0 k1) rfl E.r5_8; rw [val5_8 (p := mkP c0 (nvF a b i 8 x y z) lx5 tx5_8) rfl rfl] at h; exact h
  | 9, hn => have h := tx5_9_ok.run hv ((tc5_ok hn (by omega)).cmp2 hv E.y5 rfl rfl (by kernel_rfl)) hw (in2 (u := 6) (v := 5) h2 rfl rfl k0 k1) rfl E.r5_9; rw [val5_9 (p := mkP c0 (nvF a b i 9 x y z) lx5 tx5_9) rfl rfl] at h; exact h
  | 10, hn => have h := tx5_10_ok.run hv ((tc5_ok hn (by omega)).cmp2 hv E.y5 rfl rfl (by kernel_rfl)) hw (in2 (u := 6) (v := 5) h2 rfl rfl k0 k1) rfl E.r5_10; rw [val5_10 (p := mkP c0 (nvF a b i 10 x y z) lx5 tx5_10) rfl rfl] at h; exact h
  | 11, hn => have h := tx5_11_ok.run hv ((tc5_ok hn (by omega)).cmp2 hv E.y5 rfl rfl (by kernel_rfl)) hw (in2 (u := 6) (v := 5) h2 rfl rfl k0 k1) rfl E.r5_11; rw [val5_11 (p := mkP c0 (nvF a b i 11 x y z) lx5 tx5_11) rfl rfl] at h; exact h
  | 12, hn => have h := tx5_12_ok.run hv ((tc5_ok hn (by omega)).cmp2 hv E.y5 rfl rfl (by kernel_rfl)) hw (in2 (u := 6) (v := 5) h2 rfl rfl k0 k1) rfl E.r5_12; rw [val5_12 (p := mkP c0 (nvF a b i 12 x y z) lx5 tx5_12) rfl rfl] at h; exact h
  | 13, hn => have h := tx5_13_ok.run hv ((tc5_ok hn (by omega)).cmp2 hv E.y5 rfl rfl (by kernel_rfl)) hw (in2 (u := 6) (v := 5) h2 rfl rfl k0 k1) rfl E.r5_13; rw [val5_13 (p := mkP c0 (nvF a b i 13 x y z) lx5 tx5_13) rfl rfl] at h; exact h
  | 14, hn => have h := tx5_14_ok.run hv ((tc5_ok hn (by omega)).cmp2 hv E.y5 rfl rfl (by kernel_rfl)) hw (in2 (u := 6) (v := 5) h2 rfl rfl k0 k1) rfl E.r5_14; rw [val5_14 (p := mkP c0 (nvF a b i 14 x y z) lx5 tx5_14) rfl rfl] at h; exact h
  | 15, hn => have h := tx5_15_ok.run hv ((tc5_ok hn (by omega)).cmp2 hv E.y5 rfl rfl (by kernel_rfl)) hw (in2 (u := 6) (v := 5) h2 rfl rfl k0 k1) rfl E.r5_15; rw [val5_15 (p := mkP c0 (nvF a b i 15 x y z) lx5 tx5_15) rfl rfl] at h; exact h
  | 16, hn => have h := tx5_16_ok.run hv ((tc5_ok hn (by omega)).cmp2 hv E.y5 rfl rfl (by kernel_rfl)) hw (in2 (u := 6) (v := 5) h2 rfl rfl k0 k1) rfl E.r5_16; rw [val5_16 (p := mkP c0 (nvF a b i 16 x y z) lx5 tx5_16) rfl rfl] at h; exact h
  | 17, hn => have h := tx5_17_ok.run hv ((tc5_ok hn (by omega)).cmp2 hv E.y5 rfl rfl (by kernel_rfl)) hw (in2 (u := 6) (v := 5) h2 rfl rfl k0 k1) rfl E.r5_17; rw [val5_17 (p := mkP c0 (nvF a b i 17 x y z) lx5 tx5_17) rfl rfl] at h; exact h
  | 18, hn => have h := tx5_18_ok.run hv ((tc5_ok hn (by omega)).cmp2 hv E.y5 rfl rfl (by kernel_rfl)) hw (in2 (u := 6) (v := 5) h2 rfl rfl k0 k1) rfl E.r5_18; rw [val5_18 (p := mkP c0 (nvF a b i 18 x y z) lx5 tx5_18) rfl rfl] at h; exact h
  | 19, hn => have h := tx5_19_ok.run hv ((tc5_ok hn (by omega)).cmp2 hv E.y5 rfl rfl (by kernel_rfl)) hw (in2 (u := 6) (v := 5) h2 rfl rfl k0 k1) rfl E.r5_19; rw [val5_19 (p := mkP c0 (nvF a b i 19 x y z) lx5 tx5_19) rfl rfl] at h; exact h
  | 20, hn => have h := tx5_20_ok.run hv ((tc5_ok hn (by omega)).cmp2 hv E.y5 rfl rfl (by kernel_rfl)) hw (in2 (u := 6) (v := 5) h2 rfl rfl k0 k1) rfl E.r5_20; rw [val5_20 (p := mkP c0 (nvF a b i 20 x y z) lx5 tx5_20) rfl rfl] at h; exact h
  | 21, hn => have h := tx5_21_ok.run hv ((tc5_ok hn (by omega)).cmp2 hv E.y5 rfl rfl (by kernel_rfl)) hw (in2 (u := 6) (v := 5) h2 rfl rfl k0 k1) rfl E.r5_21; rw [val5_21 (p := mkP c0 (nvF a b i 21 x y z) lx5 tx5_21) rfl rfl] at h; exact h
  | 22, hn => have h := tx5_22_ok.run hv ((tc5_ok hn (by omega)).cmp2 hv E.y5 rfl rfl (by kernel_rfl)) hw (in2 (u := 6) (v := 5) h2 rfl rfl k0 k1) rfl E.r5_22; rw [val5_22 (p := mkP c0 (nvF a b i 22 x y z) lx5 tx5_22) rfl rfl] at h; exact h
  | 23, hn => have h := tx5_23_ok.run hv ((tc5_ok hn (by omega)).cmp2 hv E.y5 rfl rfl (by kernel_rfl)) hw (in2 (u := 6) (v := 5) h2 rfl rfl k0 k1) rfl E.r5_23; rw [val5_23 (p := mkP c0 (nvF a b i 23 x y z) lx5 tx5_23) rfl rfl] at h; exact h
  | 24, hn => have h := tx5_24_ok.run hv ((tc5_ok hn (by omega)).cmp2 hv E.y5 rfl rfl (by kernel_rfl)) hw (in2 (u := 6) (v := 5) h2 rfl rfl k0 k1) rfl E.r5_24; rw [val5_24 (p := mkP c0 (nvF a b i 24 x y z) lx5 tx5_24) rfl rfl] at h; exact h
  | 25, hn => have h := tx5_25_ok.run hv ((tc5_ok hn (by omega)).cmp2 hv E.y5 rfl rfl (by kernel_rfl)) hw (in2 (u := 6) (v := 5) h2 rfl rfl k0 k1) rfl E.r5_25; rw [val5_25 (p := mkP c0 (nvF a b i 25 x y z) lx5 tx5_25) rfl rfl] at h; exact h
  | 26, hn => have h := tx5_26_ok.run hv ((tc5_ok hn (by omega)).cmp2 hv E.y5 rfl rfl (by kernel_rfl)) hw (in2 (u := 6) (v := 5) h2 rfl rfl k0 k1) rfl E.r5_26; rw [val5_26 (p := mkP c0 (nvF a b i 26 x y z) lx5 tx5_26) rfl rfl] at h; exact h
  | 27, hn => have h := tx5_27_ok.run hv ((tc5_ok hn (by omega)).cmp2 hv E.y5 rfl rfl (by kernel_rfl)) hw (in2 (u := 6) (v := 5) h2 rfl rfl k0 k1) rfl E.r5_27; rw [val5_27 (p := mkP c0 (nvF a b i 27 x y z) lx5 tx5_27) rfl rfl] at h; exact h
  | 28, hn => have h := tx5_28_ok.run hv ((tc5_ok hn (by omega)).cmp2 hv E.y5 rfl rfl (by kernel_rfl)) hw (in2 (u := 6) (v := 5) h2 rfl rfl k0 k1) rfl E.r5_28; rw [val5_28 (p := mkP c0 (nvF a b i 28 x y z) lx5 tx5_28) rfl rfl] at h; exact h
  | 29, hn => have h := tx5_29_ok.run hv ((tc5_ok hn (by omega)).cmp2 hv E.y5 rfl rfl (by kernel_rfl)) hw (in2 (u := 6) (v := 5) h2 rfl rfl k0 k1) rfl E.r5_29; rw [val5_29 (p := mkP c0 (nvF a b i 29 x y z) lx5 tx5_29) rfl rfl] at h; exact h
  | n + 30, hn => exact absurd hn (by omega)
theorem t7 (E : Ev7) {a b i : Int} (ha : Sn.I5 a) (hb : Sn.I5 b) (hi : Sn.I5 i) {n : Nat} (hn : n < 30) (x y z : Int) {w : World} (hw : Lw w) : RunIs ⟨(flat (dgN (nvF a b i n x y z)) lx7).toArray⟩ (.slice none 0 0) 2 1 w 0 0 (trn n) [] 0 := by
  have hv := nv_ok (n := n) (x := x) (y := y) (z := z) ha hb hi (by omega)
  match n, hn with
  | 0, hn => exact tx7_0_ok.run hv (tx7_0_ok.cmp hv E.y7_0) hw (no_in _ _) rfl E.r7_0
  | 1, hn => exact tx7_1_ok.run hv (tx7_1_ok.cmp hv E.y7_1) hw (no_in _ _) rfl E.r7_1
  | 2, hn => exact tx7_2_ok.run hv (tx7_2_ok.cmp hv E.y7_2) hw (no_in _ _) rfl E.r7_2
  | 3, hn => exact tx7_3_ok.run hv ((tc7_ok hn (by omega)).cmp2 hv E.y7 rfl rfl (by kernel_rfl)) hw (no_in _ _) rfl E.r7_3
  | 4, hn => exact tx7_4_ok.run hv ((tc7_ok hn (by omega)).cmp2 hv E.y7 rfl rfl (by kernel_rfl)) hw (no_in _ _) rfl E.r7_4
  | 5, hn => exact tx7_5_ok.run hv ((tc7_ok hn (by omega)).cmp2 hv E.y7 rfl rfl (by kernel_rfl)) hw (no_in _ _) rfl E.r7_5
  | 6, hn => exact tx7_6_ok.run hv ((tc7_ok hn (by omega)).cmp2 hv E.y7 rfl rfl (by kernel_rfl)) hw (no_in _ _) rfl E.r7_6
  | 7, hn => exact tx7_7_ok.run hv ((tc7_ok hn (by omega)).cmp2 hv E.y7 rfl rfl (by kernel_rfl)) hw (no_in _ _) rfl E.r7_7
  | 8, hn => exact tx7_8_ok.run hv ((tc7_ok hn (by omega)).cmp2 hv E.y7 rfl rfl (by kernel_rfl)) hw (no_in _ _) rfl E.r7_8
  | 9, hn => exact tx7_9_ok.run hv ((tc7_ok hn (by omega)).cmp2 hv E.y7 rfl rfl (by kernel_rfl)) hw (no_in _ _) rfl E.r7_9
  | 10, hn => exact tx7_10_ok.run hv ((tc7_ok hn (by omega)).cmp2 hv E.y7 rfl rfl (by kernel_rfl)) hw (no_in _ _) rfl E.r7_10
  | 11, hn => exact tx7_11_ok.run hv ((tc7_ok hn (by omega)).cmp2 hv E.y7 rfl rfl (by kernel_rfl)) hw (no_in _ _) rfl E.r7_11
  | 12, hn => exact tx7_12_ok.run hv ((tc7_ok hn (by omega)).cmp2 hv E.y7 rfl rfl (by kernel_rfl)) hw (no_in _ _) rfl E.r7_12
  | 13, hn => exact tx7_13_ok.run hv ((tc7_ok hn (by omega)).cmp2 hv E.y7 rfl rfl (by kernel_rfl)) hw (no_in _ _) rfl E.r7_13
  | 14, hn => exact tx7_14_ok.run hv ((tc7_ok hn (by omega)).cmp2 hv E.y7 rfl rfl (by kernel_rfl)) hw (no_in _ _) rfl E.r7_14
  | 15, hn => exact tx7_15_ok.run hv ((tc7_ok hn (by omega)).cmp2 hv E.y7 rfl rfl (by kernel_rfl)) hw (no_in _ _) rfl E.r7_15
  | 16, hn => exact tx7_16_ok.run hv ((tc7_ok hn (by omega)).cmp2 hv E.y7 rfl rfl (by kernel_rfl)) hw (no_in _ _) rfl E.r7_16
  | 17, hn => exact tx7_17_ok.run hv ((tc7_ok hn (by omega)).cmp2 hv E.y7 rfl rfl (by kernel_rfl)) hw (no_in _ _) rfl E.r7_17
  | 18, hn => exact tx7_18_ok.run hv ((tc7_ok hn (by omega)).cmp2 hv E.y7 rfl rfl (by kernel_rfl)) hw (no_in _ _) rfl E.r7_18
  | 19, hn => exact tx7_19_ok.run hv ((tc7_ok hn (by omega)).cmp2 hv E.y7 rfl rfl (by kernel_rfl)) hw (no_in _ _) rfl E.r7_19
  | 20, hn => exact tx7_20_ok.run hv ((tc7_ok hn (by omega)).cmp2 hv E.y7 rfl rfl (by kernel_rfl)) hw (no_in _ _) rfl E.r7_20
  | 21, hn => exact tx7_21_ok.run hv ((tc7_ok hn (by omega)).cmp2 hv E.y7 rfl rfl (by kernel_rfl)) hw (no_in _ _) rfl E.r7_21
  | 22, hn => exact tx7_22_ok.run hv ((tc7_ok hn (by omega)).cmp2 hv E.y7 rfl rfl (by kernel_rfl)) hw (no_in _ _) rfl E.r7_22
  | 23, hn => exact tx7_23_ok.run hv ((tc7_ok hn (by omega)).cmp2 hv E.y7 rfl rfl (by kernel_rfl)) hw (no_in _ _) rfl E.r7_23
  | 24, hn => exact tx7_24_ok.run hv ((tc7_ok hn (by omega)).cmp2 hv E.y7 rfl rfl (by kernel_rfl)) hw (no_in _ _) rfl E.r7_24
  | 25, hn => exact tx7_25_ok.run hv ((tc7_ok hn (by omega)).cmp2 hv E.y7 rfl rfl (by kernel_rfl)) hw (no_in _ _) rfl E.r7_25
  | 26, hn => exact tx7_26_ok.run hv ((tc7_ok hn (by omega)).cmp2 hv E.y7 rfl rfl (by kernel_rfl)) hw (no_in _ _) rfl E.r7_26
  | 27, hn => exact tx7_27_ok.run hv ((tc7_ok hn (by omega)).cmp2 hv E.y7 rfl rfl (by kernel_rfl)) hw (no_in _ _) rfl E.r7_27
  | 28, hn => exact tx7_28_ok.run hv ((tc7_ok hn (by omega)).cmp2 hv E.y7 rfl rfl (by kernel_rfl)) hw (no_in _ _) rfl E.r7_28
  | 29, hn => exact tx7_29_ok.run hv ((tc7_ok hn (by omega)).cmp2 hv E.y7 rfl rfl (by kernel_rfl)) hw (no_in _ _) rfl E.r7_29
  | n + 30, hn => exact absurd hn (by omega)
theorem t12 (E : Ev12) {a b i : Int} (ha : Sn.I5 a) (hb : Sn.I5 b) (hi : Sn.I5 i) {n : Nat} (hn : n < 30) (x y z : Int) {w : World} (hw : Lw w) : ∃ v out rd, RunIs ⟨(flat (dgN (nvF a b i n x y z)) lx12).toArray⟩ (.slice none 0 0) 2 1 w (if n ≤ 16 then 0 else 34) (if n ≤ 16 then 0 else 31) v out rd ∧ (n ≤ 16 → out.length = n) := by
  have hv := nv_ok (n := n) (x := x) (y := y) (z := z) ha hb hi (by omega)
  match n, hn with
  | 0, hn => exact ⟨_, _, _, tx12_0_ok.run hv (tx12_0_ok.cmp hv E.y12_0) hw (no_in _ _) rfl E.r12_0, fun _ => rfl⟩
  | 1, hn => exact ⟨_, _, _, tx12_1_ok.run hv (tx12_1_ok.cmp hv E.y12_1) hw (no_in _ _) rfl E.r12_1, fun _ => rfl⟩
  | 2, hn => exact ⟨_, _, _, tx12_2_ok.run hv (tx12_2_ok.cmp hv E.y12_2) hw (no_in _ _) rfl E.r12_2, fun _ => rfl⟩
  | 3, hn => exact ⟨_, _, _, tx12_3_ok.run hv (tx12_3_ok.cmp hv E.y12_3) hw (no_in _ _) rfl E.r12_3, fun _ => rfl⟩
  | 4, hn => exact ⟨_, _, _, tx12_4_ok.run hv ((tc12_ok hn (by omega)).cmp2 hv E.y12 rfl rfl (by kernel_rfl)) hw (no_in _ _) rfl E.r12_4, fun _ => rfl⟩
  | 5, hn => exact ⟨_, _, _, tx12_5_ok.run hv ((tc12_ok hn (by omega)).cmp2 hv E.y12 rfl rfl (by kernel_rfl)) hw (no_in _ _) rfl E.r12_5, fun _ => rfl⟩
  | 6, hn => exact ⟨_, _, _, tx12_6_ok.run hv ((tc12_ok hn (by omega)).cmp2 hv E.y12 rfl rfl (by kernel_rfl)) hw (no_in _ _) rfl E.r12_6, fun _ => rfl⟩
  | 7, hn => exact ⟨_, _, _, tx12_7_ok.run hv ((tc12_ok hn (by omega)).cmp2 hv E.y12 rfl rfl (by kernel_rfl)) hw (no_in _ _) rfl E.r12_7, fun _ => rfl⟩
  | 8, hn => exact ⟨_, _, _, tx12_8_ok.run hv ((tc12_ok hn (by omega)).cmp2 hv E.y12 rfl rfl (by kernel_rfl)) hw (no_in _ _) rfl E.r12_8, fun _ => rfl⟩
  | 9, hn => exact ⟨_, _, _, tx12_9_ok.run hv ((tc12_ok hn (by omega)).cmp2 hv E.y12 rfl rfl (by kernel_rfl)) hw (no_in _ _) rfl E.r12_9, fun _ => rfl⟩
  | 10, hn => exact ⟨_, _, _, tx12_10_ok.run hv ((tc12_ok hn (by omega)).cmp2 hv E.y12 rfl rfl (by kernel_rfl)) hw (no_in _ _) rfl E.r12_10, fun _ => rfl⟩
  | 11, hn => exact ⟨_, _, _, tx12_11_ok.run hv ((tc12_ok hn (by omega)).cmp2 hv E.y12 rfl rfl (by kernel_rfl)) hw (no_in _ _) rfl E.r12_11, fun _ => rfl⟩
  | 12, hn => exact ⟨_, _, _, tx12_12_ok.run hv ((tc12_ok hn (by omega)).cmp2 hv E.y12 rfl rfl (by kernel_rfl)) hw (no_in _ _) rfl E.r12_12, fun _ => rfl⟩
  | 13, hn => exact ⟨_, _, _, tx12_13_ok.run hv ((tc12_ok hn (by omega)).cmp2 hv E.y12 rfl rfl (by kernel_rfl)) hw (no_in _ _) rfl E.r12_13, fun _ => rfl⟩
  | 14, hn => exact ⟨_, _, _, tx12_14_ok.run hv ((tc12_ok hn (by omega)).cmp2 hv E.y12 rfl rfl (by kernel_rfl)) hw (no_in _ _) rfl E.r12_14, fun _ => rfl⟩
  | 15, hn => exact ⟨_, _, _, tx12_15_ok.run hv ((tc12_ok hn (by omega)).cmp2 hv E.y12 rfl rfl (by kernel_rfl)) hw (no_in _ _) rfl E.r12_15, fun _ => rfl⟩
  | 16, hn => exact ⟨_, _, _, tx12_16_ok.run hv ((tc12_ok hn (by omega)).cmp2 hv E.y12 rfl rfl (by kernel_rfl)) hw (no_in _ _) rfl E.r12_16, fun _ => rfl⟩
  | 17, hn => have h := tx12_17_ok.run hv ((tc12_ok hn (by omega)).cmp2 hv E.y12 rfl rfl (by kernel_rfl)) hw (no_in _ _) rfl E.r12_17; have e : scN (mkP c0 (nvF a b i 17 x y z) lx12 tx12_17) (.y 113) = 31 := v_pl (mkP c0 (nvF a b i 17 x y z) lx12 tx12_17) (i := 13) (by omega); rw [e] at h; exact ⟨_, _, _, h, fun h => absurd h (by omega)⟩
  | 18, hn => have h := tx12_18_ok.run hv ((tc12_ok hn (by omega)).cmp2 hv E.y12 rfl rfl (by kernel_rfl)) hw (no_in _ _) rfl E.r12_18; have e : scN (mkP c0 (nvF a b i 18 x y z) lx12 tx12_18) (.y 113) = 31 := v_pl (mkP c0 (nvF a b i 18 x y z) lx12 tx12_18) (i := 13) (by omega); rw [e] at h; exact ⟨_, _, _, h, fun h => absurd h (by omega)⟩
  | 19, hn => have h := tx12_19_ok.run hv ((tc12_ok hn (by omega)).cmp2 hv E.y12 rfl rfl (by kernel_rfl)) hw (no_in _ _) rfl E.r12_19; have e : scN (mkP c0 (nvF a b i 19 x y z) lx12 tx12_19) (.y 113) = 31 := v_pl (mkP c0 (nvF a b i 19 x y z) lx12 tx12_19) (i := 13) (by omega); rw [e] at h; exact ⟨_, _, _, h, fun h => absurd h (by omega)⟩
  | 20, hn => have h := tx12_20_ok.run hv ((tc12_ok hn (by omega)).cmp2 hv E.y12 rfl rfl (by kernel_rfl)) hw (no_in _ _) rfl E.r12_20; have e : scN (mkP c0 (nvF a b i 20 x y z) lx12 tx12_20) (.y 113) = 31 := v_pl (mkP c0 (nvF a b i 20 x y z) lx12 tx12_20) (i := 13) (by omega); rw [e] at h; exact ⟨_, _, _, h, fun h => absurd h (by omega)⟩
  | 21, hn => have h := tx12_21_ok.run hv ((tc12_ok hn (by omega)).cmp2 hv E.y12 rfl rfl (by kernel_rfl)) hw (no_in _ _) rfl E.r12_21; have e : scN (mkP c0 (nvF a b i 21 x y z) lx12 tx12_21) (.y 113) = 31 := v_pl (mkP c0 (nvF a b i 21 x y z) lx12 tx12_21) (i := 13) (by omega); rw [e] at h; exact ⟨_, _, _, h, fun h => absurd h (by omega)⟩
  | 22, hn => have h := tx12_22_ok.run hv ((tc12_ok hn (by omega)).cmp2 hv E.y12 rfl rfl (by kernel_rfl)) hw (no_in _ _) rfl E.r12_22; have e : scN (mkP c0 (nvF a b i 22 x y z) lx12 tx12_22) (.y 113) = 31 := v_pl (mkP c0 (nvF a b i 22 x y z) lx12 tx12_22) (i := 13) (by omega); rw [e] at h; exact ⟨_, _, _, h, fun h => absurd h (by omega)⟩
  | 23, hn => have h := tx12_23_ok.run hv ((tc12_ok hn (by omega)).cmp2 hv E.y12 rfl rfl (by kernel_rfl)) hw (no_in _ _) rfl E.r12_23; have e : scN (mkP c0 (nvF a b i 23 x y z) lx12 tx12_23) (.y 113) = 31 := v_pl (mkP c0 (nvF a b i 23 x y z) lx12 tx12_23) (i := 13) (by omega); rw [e] at h; exact ⟨_, _, _, h, fun h => absurd h (by omega)⟩
  | 24, hn => have h := tx12_24_ok.run hv ((tc12_ok hn (by omega)).cmp2 hv E.y12 rfl rfl (by kernel_rfl)) hw (no_in _ _) rfl E.r12_24; have e : scN (mkP c0 (nvF a b i 24 x y z) lx12 tx12_24) (.y 113) = 31 := v_pl (mkP c0 (nvF a b i 24 x y z) lx12 tx12_24) (i := 13) (by omega); rw [e] at h; exact ⟨_, _, _, h, fun h => absurd h (by omega)⟩
  | 25, hn => have h := tx12_25_ok.run hv ((tc12_ok hn (by omega)).cmp2 hv E.y12 rfl rfl (by kernel_rfl)) hw (no_in _ _) rfl E.r12_25; have e : scN (mkP c0 (nvF a b i 25 x y z) lx12 tx12_25) (.y 113) = 31 := v_pl (mkP c0 (nvF a b i 25 x y z) lx12 tx12_25) (i := 13) (by omega); rw [e] at h; exact ⟨_, _, _, h, fun h => absurd h (by omega)⟩
  | 26, hn => have h := tx12_26_ok.run hv ((tc12_ok hn (by omega)).cmp2 hv E.y12 rfl rfl (by kernel_rfl)) hw (no_in _ _) rfl E.r12_26; have e : scN (mkP c0 (nvF a b i 26 x y z) lx12 tx12_26) (.y 113) = 31 := v_pl (mkP c0 (nvF a b i 26 x y z) lx12 tx12_26) (i := 13) (by omega); rw [e] at h; exact ⟨_, _, _, h, fun h => absurd h (by omega)⟩
  | 27, hn => have h := tx12_27_ok.run hv ((tc12_ok hn (by omega)).cmp2 hv E.y12 rfl rfl (by kernel_rfl)) hw (no_in _ _) rfl E.r12_27; have e : scN (mkP c0 (nvF a b i 27 x y z) lx12 tx12_27) (.y 113) = 31 := v_pl (mkP c0 (nvF a b i 27 x y z) lx12 tx12_27) (i := 13) (by omega); rw [e] at h; exact ⟨_, _, _, h, fun h => absurd h (by omega)⟩
  | 28, hn => have h := tx12_28_ok.run hv ((tc12_ok hn (by omega)).cmp2 hv E.y12 rfl rfl (by kernel_rfl)) hw (no_in _ _) rfl E.r12_28; have e : scN (mkP c0 (nvF a b i 28 x y z) lx12 tx12_28) (.y 113) = 31 := v_pl (mkP c0 (nvF a b i 28 x y z) lx12 tx12_28) (i := 13) (by omega); rw [e] at h; exact ⟨_, _, _, h, fun h => absurd h (by omega)⟩
  | 29, hn => have h := tx12_29_ok.run hv ((tc12_ok hn (by omega)).cmp2 hv E.y12 rfl rfl (by kernel_rfl)) hw (no_in _ _) rfl E.r12_29; have e : scN (mkP c0 (nvF a b i 29 x y z) lx12 tx12_29) (.y 113) = 31 := v_pl (mkP c0 (nvF a b i 29 x y z) lx12 tx12_29) (i := 13) (by omega); rw [e] at h; exact ⟨_, _, _, h, fun h => absurd h (by omega)⟩
  | n + 30, hn => exact absurd hn (by omega)
end Lo
end Go.Proofs.YtjmifcnfnihhnaaGreatDoor
