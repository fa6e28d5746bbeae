/- LOOPED: all together. Written by wip/genls.py. -/
import Derived.Test.YtjmifcnfnihhnaaGreatDoorZqaa
import Derived.Test.YtjmifcnfnihhnaaGreatDoorZqab
import Derived.Test.YtjmifcnfnihhnaaGreatDoorZqac
import Derived.Test.YtjmifcnfnihhnaaGreatDoorZqad
import Derived.Test.YtjmifcnfnihhnaaGreatDoorZqae
import Derived.Test.YtjmifcnfnihhnaaGreatDoorZqaf
import Derived.Test.YtjmifcnfnihhnaaGreatDoorZqag
import Derived.Test.YtjmifcnfnihhnaaGreatDoorZqah
import Derived.Test.YtjmifcnfnihhnaaGreatDoorZqai
import Derived.Test.YtjmifcnfnihhnaaGreatDoorZqaj
import Derived.Test.YtjmifcnfnihhnaaGreatDoorZqak
import Derived.Test.YtjmifcnfnihhnaaGreatDoorZqal
import Derived.Test.YtjmifcnfnihhnaaGreatDoorZqam
import Derived.Test.YtjmifcnfnihhnaaGreatDoorZqan
import Derived.Test.YtjmifcnfnihhnaaGreatDoorZqao
import Derived.Test.YtjmifcnfnihhnaaGreatDoorZqap
import Derived.Test.YtjmifcnfnihhnaaGreatDoorZqaq
import Derived.Test.YtjmifcnfnihhnaaGreatDoorZqar
import Derived.Test.YtjmifcnfnihhnaaGreatDoorZqas
import Derived.Test.YtjmifcnfnihhnaaGreatDoorZqat
import Derived.Test.YtjmifcnfnihhnaaGreatDoorZuaa
import Derived.Test.YtjmifcnfnihhnaaGreatDoorZuab
import Derived.Test.YtjmifcnfnihhnaaGreatDoorZuac
import Derived.Test.YtjmifcnfnihhnaaGreatDoorZuad
import Derived.Test.YtjmifcnfnihhnaaGreatDoorZuae
import Derived.Test.YtjmifcnfnihhnaaGreatDoorZuaf
import Derived.Test.YtjmifcnfnihhnaaGreatDoorZuag
import Derived.Test.YtjmifcnfnihhnaaGreatDoorZuah
import Derived.Test.YtjmifcnfnihhnaaGreatDoorZuai
import Derived.Test.YtjmifcnfnihhnaaGreatDoorZuaj
import Derived.Test.YtjmifcnfnihhnaaGreatDoorZuak
import Derived.Test.YtjmifcnfnihhnaaGreatDoorZual
import Derived.Test.YtjmifcnfnihhnaaGreatDoorLpQ
set_option linter.unusedVariables false
set_option linter.unusedSimpArgs false
namespace Go.Proofs.YtjmifcnfnihhnaaGreatDoor
namespace Lo
open Go.RowKit Sm
theorem ev1 : Ev1 := ⟨y1, y1_0, r1_0, y1_1, r1_1, y1_2, r1_2, r1_3, r1_4, r1_5, r1_6, r1_7, r1_8, r1_9, r1_10, r1_11, r1_12, r1_13, r1_14, r1_15, r1_16, r1_17, r1_18, r1_19, r1_20, r1_21, r1_22, r1_23, r1_24, r1_25, r1_26, r1_27, r1_28, r1_29⟩
theorem ev2 : Ev2 := ⟨y2, y2_0, r2_0, y2_1, r2_1, y2_2, r2_2, y2_3, r2_3, y2_4, r2_4, r2_5, r2_6, r2_7, r2_8, r2_9, r2_10, r2_11, r2_12, r2_13, r2_14, r2_15, r2_16, r2_17, r2_18, r2_19, r2_20, r2_21, r2_22, r2_23, r2_24, r2_25, r2_26, r2_27, r2_28, r2_29⟩
theorem ev3 : Ev3 := ⟨y3, r3_0, r3_1, r3_2, r3_3, r3_4, r3_5, r3_6, r3_7, r3_8, r3_9, r3_10, r3_11, r3_12, r3_13, r3_14, r3_15, r3_16, r3_17, r3_18, r3_19, r3_20, r3_21, r3_22, r3_23, r3_24, r3_25, r3_26, r3_27, r3_28, r3_29⟩
theorem ev5 : Ev5 := ⟨y5, r5_0, r5_1, r5_2, r5_3, r5_4, r5_5, r5_6, r5_7, r5_8, r5_9, r5_10, r5_11, r5_12, r5_13, r5_14, r5_15, r5_16, r5_17, r5_18, r5_19, r5_20, r5_21, r5_22, r5_23, r5_24, r5_25, r5_26, r5_27, r5_28, r5_29⟩
theorem ev7 : Ev7 := ⟨y7, y7_0, r7_0, y7_1, r7_1, y7_2, r7_2, r7_3, r7_4, r7_5, r7_6, r7_7, r7_8, r7_9, r7_10, r7_11, r7_12, r7_13, r7_14, r7_15, r7_16, r7_17, r7_18, r7_19, r7_20, r7_21, r7_22, r7_23, r7_24, r7_25, r7_26, r7_27, r7_28, r7_29⟩
theorem ev12 : Ev12 := ⟨y12, y12_0, r12_0, y12_1, r12_1, y12_2, r12_2, y12_3, r12_3, r12_4, r12_5, r12_6, r12_7, r12_8, r12_9, r12_10, r12_11, r12_12, r12_13, r12_14, r12_15, r12_16, r12_17, r12_18, r12_19, r12_20, r12_21, r12_22, r12_23, r12_24, r12_25, r12_26, r12_27, r12_28, r12_29⟩
theorem ev4_00 : Ev4_00 := ⟨y4_00, r4_00⟩
theorem ev4_01 : Ev4_01 := ⟨y4_01, r4_01⟩
theorem ev4_10 : Ev4_10 := ⟨y4_10, r4_10⟩
theorem ev4_11 : Ev4_11 := ⟨y4_11, r4_11⟩
theorem ev8_00 : Ev8_00 := ⟨y8_00, r8_00⟩
theorem ev8_01 : Ev8_01 := ⟨y8_01, r8_01⟩
theorem ev8_10 : Ev8_10 := ⟨y8_10, r8_10⟩
theorem ev8_11 : Ev8_11 := ⟨y8_11, r8_11⟩
theorem ev9 : Ev9 := ⟨y9, r9⟩
theorem ev10 : Ev10 := ⟨y10, r10⟩
theorem ev11 : Ev11 := ⟨y11, r11⟩
theorem ev13_00 : Ev13_00 := ⟨y13_00, r13_00⟩
theorem ev13_01 : Ev13_01 := ⟨y13_01, r13_01⟩
theorem ev13_10 : Ev13_10 := ⟨y13_10, r13_10⟩
theorem ev13_11 : Ev13_11 := ⟨y13_11, r13_11⟩
theorem ev14 : Ev14 := ⟨y14, r14⟩
theorem ev15_000 : Ev15_000 := ⟨y15_000_0, r15_000_0, y15_000_1, r15_000_1, y15_000_2, r15_000_2, y15_000_3, r15_000_3, y15_000_4, r15_000_4, y15_000_2_0, r15_000_2_0, y15_000_4_3, r15_000_4_3⟩
theorem ev15_001 : Ev15_001 := ⟨y15_001_0, r15_001_0, y15_001_1, r15_001_1, y15_001_2, r15_001_2, y15_001_3, r15_001_3, y15_001_4, r15_001_4⟩
theorem ev15_010 : Ev15_010 := ⟨y15_010_0, r15_010_0, y15_010_1, r15_010_1, y15_010_2, r15_010_2, y15_010_3, r15_010_3, y15_010_4, r15_010_4, y15_010_2_0, r15_010_2_0, y15_010_4_3, r15_010_4_3⟩
theorem ev15_011 : Ev15_011 := ⟨y15_011_0, r15_011_0, y15_011_1, r15_011_1, y15_011_2, r15_011_2, y15_011_3, r15_011_3, y15_011_4, r15_011_4⟩
theorem ev15_100 : Ev15_100 := ⟨y15_100_0, r15_100_0, y15_100_1, r15_100_1, y15_100_2, r15_100_2, y15_100_3, r15_100_3, y15_100_4, r15_100_4, y15_100_2_0, r15_100_2_0, y15_100_4_3, r15_100_4_3⟩
theorem ev15_101 : Ev15_101 := ⟨y15_101_0, r15_101_0, y15_101_1, r15_101_1, y15_101_2, r15_101_2, y15_101_3, r15_101_3, y15_101_4, r15_101_4⟩
theorem ev15_110 : Ev15_110 := ⟨y15_110_0, r15_110_0, y15_110_1, r15_110_1, y15_110_2, r15_110_2, y15_110_3, r15_110_3, y15_110_4, r15_110_4, y15_110_2_0, r15_110_2_0, y15_110_4_3, r15_110_4_3⟩
theorem ev15_111 : Ev15_111 := ⟨y15_111_0, r15_111_0, y15_111_1, r15_111_1, y15_111_2, r15_111_2, y15_111_3, r15_111_3, y15_111_4, r15_111_4⟩
theorem ev16 : Ev16 := ⟨y16, r16_lo, r16_hi, r16_0, r16_1, r16_2, r16_3, r16_4, r16_5, r16_6, r16_7, r16_8, r16_9, r16_10, r16_11, r16_12, r16_13, r16_14, r16_15, r16_16, r16_17, r16_18, r16_19, r16_20, r16_21, r16_22, r16_23, r16_24, r16_25, r16_26, r16_27, r16_28, r16_29, r16_30, r16_31, r16_32⟩
theorem ev6 : Ev6 := ⟨y6, r6⟩
theorem evC : EvC := ⟨ev15_000, ev15_001, ev15_010, ev15_011, ev15_100, ev15_101, ev15_110, ev15_111, ev16⟩
theorem looped_low {x y z : Int} (hx : Sn.I6 x) (hy : Sn.I6 y) (hz : Sn.I6 z) {w : World} (hw : Lw w) : Yes 4 #[.int .i64 x, .int .i64 y, .int .i64 z] w := by
  have h2 : 2 ≤ w.heap.size := by
    obtain ⟨v, h1, _⟩ := hw.t 0 _ rfl
    have : 1 < w.heap.size := Sn.cell_lt h1
    omega
  have ha : Sn.I5 (Sn.wv x) := wv_in x
  have hb : Sn.I5 (Sn.wv y) := wv_in y
  have h0 : Sn.I5 0 := by omega
  obtain ⟨n, hN⟩ : ∃ n, Sn.pk z 30 = n := ⟨_, rfl⟩
  have hn : n < 30 := by rw [← hN]; exact Sn.pk_lt z (by omega)
  exact looped_w hx hy hz (a := Sn.wv x) (b := Sn.wv y) (I := itv x y) rfl (fun j => rfl) rfl rfl hN hn h2 rfl rfl rfl rfl
    (R1 ev1 ha hb h0 hn x y z hw) (R2 ev2 ha hb h0 hn x y z hw)
    (fun W k hW h2 hk k0 k1 => R3 ev3 ha hb h0 hn x y z (lw_on hw hW) h2 hk k0 k1)
    (fun W k hW h2 hk k0 => R4 ev4_00 ev4_01 ev4_10 ev4_11 ha hb h0 hn x y z (lw_on hw hW) h2 hk k0)
    (fun W k hW h2 hk k0 k1 => R5 ev5 ha hb h0 hn x y z (lw_on hw hW) h2 hk k0 k1)
    (R6 ev6 ha hb h0 hn hw) (R7 ev7 ha hb h0 hn x y z hw)
    (R8 ev8_00 ev8_01 ev8_10 ev8_11 ha hb h0 hn x y z hw)
    (fun W k hW h2 hk k0 k1 => R9 ev9 ha hb h0 hn x y z (lw_on hw hW) h2 hk k0 k1)
    (R10 ev10 ha hb h0 hn x y z hw)
    (fun W k hW h2 hk k0 => R11 ev11 ha hb h0 hn x y z (lw_on hw hW) h2 hk k0 W (Below.refl _ _))
    (fun W hW => r12_of (R12 ev12 ha hb h0 hn hw W hW))
    (R13 ev13_00 ev13_01 ev13_10 ev13_11 ha hb h0 hn x y z hw)
    (fun W k hW h2 hk k0 k1 => r14_of ha (R14 ev14 ha hb h0 hn x y z (lw_on hw hW) h2 hk k0 k1))
    (fun W hW => cells_w evC (lw_on hw hW) (Nat.le_trans h2 hW.size) ha hb hz)
end Lo
end Go.Proofs.YtjmifcnfnihhnaaGreatDoor
