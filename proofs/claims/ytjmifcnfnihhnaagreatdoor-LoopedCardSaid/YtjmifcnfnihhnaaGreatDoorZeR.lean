import Derived.Test.YtjmifcnfnihhnaaGreatDoorZeO
import Derived.Test.YtjmifcnfnihhnaaGreatDoorZeP
import Derived.Test.YtjmifcnfnihhnaaGreatDoorZeQ
import Derived.KernelRfl
/- LOOPED: the other texts: what they come to. Written by wip/genloop.py. -/
set_option linter.unusedVariables false
set_option linter.unusedSimpArgs false
namespace Go.Proofs.YtjmifcnfnihhnaaGreatDoor
namespace Lo
open Ev Go.RowKit Sm Sl
structure Ev4_00 : Prop where
  y4_00 : isY (compR tx4_00) = true
  r4_00 : isEnd (nI 0) (nI 0) (.y 5013) [] (nI 1) (runR codY tx4_00 [.y 8] 40 2) = true
theorem w3q4_00 : w4_00 = w3s lx4_00 := by kernel_rfl
theorem spa4_00 : spA lx4_00 l4_00 cs4_00 = true := by kernel_rfl
theorem t4_00 (E : Ev4_00) {a b i : Int} (ha : Sn.I5 a) (hb : Sn.I5 b) (hi : Sn.I5 i) (sa : 0 ≤ a) (sb : 0 ≤ b) (n : Nat) (hn : n < 30) (x y z : Int) {w : World} (hw : Lw w) {k : Nat} (h2 : 2 ≤ k) (k0 : w.cell? ⟨k, 0, none⟩ = some (.int .i64 x)) : RunIs ⟨(flat (dgN (nvF a b i n x y z)) lx4_00).toArray⟩ (.slice (some ⟨k, 0, none⟩) 1 1) 40 2 w 0 0 (Sn.wv ((Sn.wv ((Sn.wv ((Sn.wv ((Sn.wv x) * (3))) - b)) * (3))) - a)) [] 1 := by
  have hv : Nv (nvF a b i n x y z) := nv_ok ha hb hi (by omega)
  have hg : goodD (mkP c0 (nvF a b i n x y z) lx4_00 tx4_00).ds 0 = true := by kernel_rfl
  have e4 : scN (mkP c0 (nvF a b i n x y z) lx4_00 tx4_00) (.y 4) = a := (v_nv _ (by omega)).trans (NN_pos sa)
  have e5 : scN (mkP c0 (nvF a b i n x y z) lx4_00 tx4_00) (.y 5) = b := (v_nv _ (by omega)).trans (NN_pos sb)
  have e8 : scN (mkP c0 (nvF a b i n x y z) lx4_00 tx4_00) (.y 8) = x := v_nv _ (by omega)
  have e5001 : scN (mkP c0 (nvF a b i n x y z) lx4_00 tx4_00) (.y 5001) = Sn.wv x := by refine (v_in (x := .y 8) (i := 0) (j := 1) hg rfl rfl).trans ?_; rw [e8]; all_goals rfl
  have e5004 : scN (mkP c0 (nvF a b i n x y z) lx4_00 tx4_00) (.y 5004) = Sn.wv ((Sn.wv x) * (3)) := by refine (v_op (c := 2) (x := .y 5001) (y := nI 3) (k := 2) (i := 3) (j := 4) (by omega) hg rfl rfl rfl).trans ?_; rw [e5001]; all_goals rfl
  have e5007 : scN (mkP c0 (nvF a b i n x y z) lx4_00 tx4_00) (.y 5007) = Sn.wv ((Sn.wv ((Sn.wv x) * (3))) - b) := by refine (v_op (c := 1) (x := .y 5004) (y := .y 5) (k := 5) (i := 6) (j := 7) (by omega) hg rfl rfl rfl).trans ?_; rw [e5004, e5]; all_goals rfl
  have e5010 : scN (mkP c0 (nvF a b i n x y z) lx4_00 tx4_00) (.y 5010) = Sn.wv ((Sn.wv ((Sn.wv ((Sn.wv x) * (3))) - b)) * (3)) := by refine (v_op (c := 2) (x := .y 5007) (y := nI 3) (k := 8) (i := 9) (j := 10) (by omega) hg rfl rfl rfl).trans ?_; rw [e5007]; all_goals rfl
  have e5013 : scN (mkP c0 (nvF a b i n x y z) lx4_00 tx4_00) (.y 5013) = Sn.wv ((Sn.wv ((Sn.wv ((Sn.wv ((Sn.wv x) * (3))) - b)) * (3))) - a) := by refine (v_op (c := 1) (x := .y 5010) (y := .y 4) (k := 11) (i := 12) (j := 13) (by omega) hg rfl rfl rfl).trans ?_; rw [e5010, e4]; all_goals rfl
  have T : Txt (nvF a b i n x y z) lx4_00 tx4_00 [] := txt_n spa4_00 hg w3q4_00 rfl cv0 rfl
  have h : RunIs ⟨(flat (dgN (nvF a b i n x y z)) lx4_00).toArray⟩ (.slice (some ⟨k, 0, none⟩) 1 1) 40 2 w 0 0 (scN (mkP c0 (nvF a b i n x y z) lx4_00 tx4_00) (.y 5013)) [] 1 := T.run hv (T.cmp hv E.y4_00) hw (in1 (u := 5) h2 rfl k0) rfl E.r4_00
  rw [e5013] at h
  exact h
structure Ev4_01 : Prop where
  y4_01 : isY (compR tx4_01) = true
  r4_01 : isEnd (nI 0) (nI 0) (.y 5019) [] (nI 1) (runR codY tx4_01 [.y 8] 40 2) = true
theorem w3q4_01 : w4_01 = w3s lx4_01 := by kernel_rfl
theorem spa4_01 : spA lx4_01 l4_01 cs4_01 = true := by kernel_rfl
theorem t4_01 (E : Ev4_01) {a b i : Int} (ha : Sn.I5 a) (hb : Sn.I5 b) (hi : Sn.I5 i) (sa : 0 ≤ a) (sb : b < 0) (n : Nat) (hn : n < 30) (x y z : Int) {w : World} (hw : Lw w) {k : Nat} (h2 : 2 ≤ k) (k0 : w.cell? ⟨k, 0, none⟩ = some (.int .i64 x)) : RunIs ⟨(flat (dgN (nvF a b i n x y z)) lx4_01).toArray⟩ (.slice (some ⟨k, 0, none⟩) 1 1) 40 2 w 0 0 (Sn.wv ((Sn.wv ((Sn.wv ((Sn.wv ((Sn.wv x) * (3))) - b)) * (3))) - a)) [] 1 := by
  have hv : Nv (nvF a b i n x y z) := nv_ok ha hb hi (by omega)
  have hg : goodD (mkP c0 (nvF a b i n x y z) lx4_01 tx4_01).ds 0 = true := by kernel_rfl
  have e4 : scN (mkP c0 (nvF a b i n x y z) lx4_01 tx4_01) (.y 4) = a := (v_nv _ (by omega)).trans (NN_pos sa)
  have e5 : scN (mkP c0 (nvF a b i n x y z) lx4_01 tx4_01) (.y 5) = NN b := v_nv _ (by omega)
  have e8 : scN (mkP c0 (nvF a b i n x y z) lx4_01 tx4_01) (.y 8) = x := v_nv _ (by omega)
  have e5005 : scN (mkP c0 (nvF a b i n x y z) lx4_01 tx4_01) (.y 5005) = b := v_sgn (k0 := 0) (k1 := 1) (k2 := 2) (k3 := 3) (k4 := 4) (k5 := 5) hg rfl rfl rfl rfl rfl rfl sb hb e5
  have e5007 : scN (mkP c0 (nvF a b i n x y z) lx4_01 tx4_01) (.y 5007) = Sn.wv x := by refine (v_in (x := .y 8) (i := 6) (j := 7) hg rfl rfl).trans ?_; rw [e8]; all_goals rfl
  have e5010 : scN (mkP c0 (nvF a b i n x y z) lx4_01 tx4_01) (.y 5010) = Sn.wv ((Sn.wv x) * (3)) := by refine (v_op (c := 2) (x := .y 5007) (y := nI 3) (k := 8) (i := 9) (j := 10) (by omega) hg rfl rfl rfl).trans ?_; rw [e5007]; all_goals rfl
  have e5013 : scN (mkP c0 (nvF a b i n x y z) lx4_01 tx4_01) (.y 5013) = Sn.wv ((Sn.wv ((Sn.wv x) * (3))) - b) := by refine (v_op (c := 1) (x := .y 5010) (y := .y 5005) (k := 11) (i := 12) (j := 13) (by omega) hg rfl rfl rfl).trans ?_; rw [e5010, e5005]; all_goals rfl
  have e5016 : scN (mkP c0 (nvF a b i n x y z) lx4_01 tx4_01) (.y 5016) = Sn.wv ((Sn.wv ((Sn.wv ((Sn.wv x) * (3))) - b)) * (3)) := by refine (v_op (c := 2) (x := .y 5013) (y := nI 3) (k := 14) (i := 15) (j := 16) (by omega) hg rfl rfl rfl).trans ?_; rw [e5013]; all_goals rfl
  have e5019 : scN (mkP c0 (nvF a b i n x y z) lx4_01 tx4_01) (.y 5019) = Sn.wv ((Sn.wv ((Sn.wv ((Sn.wv ((Sn.wv x) * (3))) - b)) * (3))) - a) := by refine (v_op (c := 1) (x := .y 5016) (y := .y 4) (k := 17) (i := 18) (j := 19) (by omega) hg rfl rfl rfl).trans ?_; rw [e5016, e4]; all_goals rfl
  have T : Txt (nvF a b i n x y z) lx4_01 tx4_01 [] := txt_n spa4_01 hg w3q4_01 rfl cv0 rfl
  have h : RunIs ⟨(flat (dgN (nvF a b i n x y z)) lx4_01).toArray⟩ (.slice (some ⟨k, 0, none⟩) 1 1) 40 2 w 0 0 (scN (mkP c0 (nvF a b i n x y z) lx4_01 tx4_01) (.y 5019)) [] 1 := T.run hv (T.cmp hv E.y4_01) hw (in1 (u := 5) h2 rfl k0) rfl E.r4_01
  rw [e5019] at h
  exact h
structure Ev4_10 : Prop where
  y4_10 : isY (compR tx4_10) = true
  r4_10 : isEnd (nI 0) (nI 0) (.y 5019) [] (nI 1) (runR codY tx4_10 [.y 8] 40 2) = true
theorem w3q4_10 : w4_10 = w3s lx4_10 := by kernel_rfl
theorem spa4_10 : spA lx4_10 l4_10 cs4_10 = true := by kernel_rfl
theorem t4_10 (E : Ev4_10) {a b i : Int} (ha : Sn.I5 a) (hb : Sn.I5 b) (hi : Sn.I5 i) (sa : a < 0) (sb : 0 ≤ b) (n : Nat) (hn : n < 30) (x y z : Int) {w : World} (hw : Lw w) {k : Nat} (h2 : 2 ≤ k) (k0 : w.cell? ⟨k, 0, none⟩ = some (.int .i64 x)) : RunIs ⟨(flat (dgN (nvF a b i n x y z)) lx4_10).toArray⟩ (.slice (some ⟨k, 0, none⟩) 1 1) 40 2 w 0 0 (Sn.wv ((Sn.wv ((Sn.wv ((Sn.wv ((Sn.wv x) * (3))) - b)) * (3))) - a)) [] 1 := by
  have hv : Nv (nvF a b i n x y z) := nv_ok ha hb hi (by omega)
  have hg : goodD (mkP c0 (nvF a b i n x y z) lx4_10 tx4_10).ds 0 = true := by kernel_rfl
  have e4 : scN (mkP c0 (nvF a b i n x y z) lx4_10 tx4_10) (.y 4) = NN a := v_nv _ (by omega)
  have e5 : scN (mkP c0 (nvF a b i n x y z) lx4_10 tx4_10) (.y 5) = b := (v_nv _ (by omega)).trans (NN_pos sb)
  have e8 : scN (mkP c0 (nvF a b i n x y z) lx4_10 tx4_10) (.y 8) = x := v_nv _ (by omega)
  have e5005 : scN (mkP c0 (nvF a b i n x y z) lx4_10 tx4_10) (.y 5005) = a := v_sgn (k0 := 0) (k1 := 1) (k2 := 2) (k3 := 3) (k4 := 4) (k5 := 5) hg rfl rfl rfl rfl rfl rfl sa ha e4
  have e5007 : scN (mkP c0 (nvF a b i n x y z) lx4_10 tx4_10) (.y 5007) = Sn.wv x := by refine (v_in (x := .y 8) (i := 6) (j := 7) hg rfl rfl).trans ?_; rw [e8]; all_goals rfl
  have e5010 : scN (mkP c0 (nvF a b i n x y z) lx4_10 tx4_10) (.y 5010) = Sn.wv ((Sn.wv x) * (3)) := by refine (v_op (c := 2) (x := .y 5007) (y := nI 3) (k := 8) (i := 9) (j := 10) (by omega) hg rfl rfl rfl).trans ?_; rw [e5007]; all_goals rfl
  have e5013 : scN (mkP c0 (nvF a b i n x y z) lx4_10 tx4_10) (.y 5013) = Sn.wv ((Sn.wv ((Sn.wv x) * (3))) - b) := by refine (v_op (c := 1) (x := .y 5010) (y := .y 5) (k := 11) (i := 12) (j := 13) (by omega) hg rfl rfl rfl).trans ?_; rw [e5010, e5]; all_goals rfl
  have e5016 : scN (mkP c0 (nvF a b i n x y z) lx4_10 tx4_10) (.y 5016) = Sn.wv ((Sn.wv ((Sn.wv ((Sn.wv x) * (3))) - b)) * (3)) := by refine (v_op (c := 2) (x := .y 5013) (y := nI 3) (k := 14) (i := 15) (j := 16) (by omega) hg rfl rfl rfl).trans ?_; rw [e5013]; all_goals rfl
  have e5019 : scN (mkP c0 (nvF a b i n x y z) lx4_10 tx4_10) (.y 5019) = Sn.wv ((Sn.wv ((Sn.wv ((Sn.wv ((Sn.wv x) * (3))) - b)) * (3))) - a) := by refine (v_op (c := 1) (x := .y 5016) (y := .y 5005) (k := 17) (i := 18) (j := 19) (by omega) hg rfl rfl rfl).trans ?_; rw [e5016, e5005]; all_goals rfl
  have T : Txt (nvF a b i n x y z) lx4_10 tx4_10 [] := txt_n spa4_10 hg w3q4_10 rfl cv0 rfl
  have h : RunIs ⟨(flat (dgN (nvF a b i n x y z)) lx4_10).toArray⟩ (.slice (some ⟨k, 0, none⟩) 1 1) 40 2 w 0 0 (scN (mkP c0 (nvF a b i n x y z) lx4_10 tx4_10) (.y 5019)) [] 1 := T.run hv (T.cmp hv E.y4_10) hw (in1 (u := 5) h2 rfl k0) rfl E.r4_10
  rw [e5019] at h
  exact h
structure Ev4_11 : Prop where
  y4_11 : isY (compR tx4_11) = true
  r4_11 : isEnd (nI 0) (nI 0) (.y 5025) [] (nI 1) (runR codY tx4_11 [.y 8] 40 2) = true
theorem w3q4_11 : w4_11 = w3s lx4_11 := by kernel_rfl
theorem spa4_11 : spA lx4_11 l4_11 cs4_11 = true := by kernel_rfl
theorem t4_11 (E : Ev4_11) {a b i : Int} (ha : Sn.I5 a) (hb : Sn.I5 b) (hi : Sn.I5 i) (sa : a < 0) (sb : b < 0) (n : Nat) (hn : n < 30) (x y z : Int) {w : World} (hw : Lw w) {k : Nat} (h2 : 2 ≤ k) (k0 : w.cell? ⟨k, 0, none⟩ = some (.int .i64 x)) : RunIs ⟨(flat (dgN (nvF a b i n x y z)) lx4_11).toArray⟩ (.slice (some ⟨k, 0, none⟩) 1 1) 40 2 w 0 0 (Sn.wv ((Sn.wv ((Sn.wv ((Sn.wv ((Sn.wv x) * (3))) - b)) * (3))) - a)) [] 1 := by
  have hv : Nv (nvF a b i n x y z) := nv_ok ha hb hi (by omega)
  have hg : goodD (mkP c0 (nvF a b i n x y z) lx4_11 tx4_11).ds 0 = true := by kernel_rfl
  have e4 : scN (mkP c0 (nvF a b i n x y z) lx4_11 tx4_11) (.y 4) = NN a := v_nv _ (by omega)
  have e5 : scN (mkP c0 (nvF a b i n x y z) lx4_11 tx4_11) (.y 5) = NN b := v_nv _ (by omega)
  have e8 : scN (mkP c0 (nvF a b i n x y z) lx4_11 tx4_11) (.y 8) = x := v_nv _ (by omega)
  have e5005 : scN (mkP c0 (nvF a b i n x y z) lx4_11 tx4_11) (.y 5005) = a := v_sgn (k0 := 0) (k1 := 1) (k2 := 2) (k3 := 3) (k4 := 4) (k5 := 5) hg rfl rfl rfl rfl rfl rfl sa ha e4
  have e5011 : scN (mkP c0 (nvF a b i n x y z) lx4_11 tx4_11) (.y 5011) = b := v_sgn (k0 := 6) (k1 := 7) (k2 := 8) (k3 := 9) (k4 := 10) (k5 := 11) hg rfl rfl rfl rfl rfl rfl sb hb e5
  have e5013 : scN (mkP c0 (nvF a b i n x y z) lx4_11 tx4_11) (.y 5013) = Sn.wv x := by refine (v_in (x := .y 8) (i := 12) (j := 13) hg rfl rfl).trans ?_; rw [e8]; all_goals rfl
  have e5016 : scN (mkP c0 (nvF a b i n x y z) lx4_11 tx4_11) (.y 5016) = Sn.wv ((Sn.wv x) * (3)) := by refine (v_op (c := 2) (x := .y 5013) (y := nI 3) (k := 14) (i := 15) (j := 16) (by omega) hg rfl rfl rfl).trans ?_; rw [e5013]; all_goals rfl
  have e5019 : scN (mkP c0 (nvF a b i n x y z) lx4_11 tx4_11) (.y 5019) = Sn.wv ((Sn.wv ((Sn.wv x) * (3))) - b) := by refine (v_op (c := 1) (x := .y 5016) (y := .y 5011) (k := 17) (i := 18) (j := 19) (by omega) hg rfl rfl rfl).trans ?_; rw [e5016, e5011]; all_goals rfl
  have e5022 : scN (mkP c0 (nvF a b i n x y z) lx4_11 tx4_11) (.y 5022) = Sn.wv ((Sn.wv ((Sn.wv ((Sn.wv x) * (3))) - b)) * (3)) := by refine (v_op (c := 2) (x := .y 5019) (y := nI 3) (k := 20) (i := 21) (j := 22) (by omega) hg rfl rfl rfl).trans ?_; rw [e5019]; all_goals rfl
  have e5025 : scN (mkP c0 (nvF a b i n x y z) lx4_11 tx4_11) (.y 5025) = Sn.wv ((Sn.wv ((Sn.wv ((Sn.wv ((Sn.wv x) * (3))) - b)) * (3))) - a) := by refine (v_op (c := 1) (x := .y 5022) (y := .y 5005) (k := 23) (i := 24) (j := 25) (by omega) hg rfl rfl rfl).trans ?_; rw [e5022, e5005]; all_goals rfl
  have T : Txt (nvF a b i n x y z) lx4_11 tx4_11 [] := txt_n spa4_11 hg w3q4_11 rfl cv0 rfl
  have h : RunIs ⟨(flat (dgN (nvF a b i n x y z)) lx4_11).toArray⟩ (.slice (some ⟨k, 0, none⟩) 1 1) 40 2 w 0 0 (scN (mkP c0 (nvF a b i n x y z) lx4_11 tx4_11) (.y 5025)) [] 1 := T.run hv (T.cmp hv E.y4_11) hw (in1 (u := 5) h2 rfl k0) rfl E.r4_11
  rw [e5025] at h
  exact h
structure Ev8_00 : Prop where
  y8_00 : isY (compR tx8_00) = true
  r8_00 : isEnd (nI 0) (nI 0) (.y 5002) [.y 4, .y 5] (nI 0) (runR codY tx8_00 [] 0 1) = true
theorem w3q8_00 : w8_00 = w3s lx8_00 := by kernel_rfl
theorem spa8_00 : spA lx8_00 l8_00 cs8_00 = true := by kernel_rfl
theorem t8_00 (E : Ev8_00) {a b i : Int} (ha : Sn.I5 a) (hb : Sn.I5 b) (hi : Sn.I5 i) (sa : 0 ≤ a) (sb : 0 ≤ b) (n : Nat) (hn : n < 30) (x y z : Int) {w : World} (hw : Lw w) : RunIs ⟨(flat (dgN (nvF a b i n x y z)) lx8_00).toArray⟩ (.slice none 0 0) 0 1 w 0 0 (Sn.wv (b - a)) [a, b] 0 := by
  have hv : Nv (nvF a b i n x y z) := nv_ok ha hb hi (by omega)
  have hg : goodD (mkP c0 (nvF a b i n x y z) lx8_00 tx8_00).ds 0 = true := by kernel_rfl
  have e4 : scN (mkP c0 (nvF a b i n x y z) lx8_00 tx8_00) (.y 4) = a := (v_nv _ (by omega)).trans (NN_pos sa)
  have e5 : scN (mkP c0 (nvF a b i n x y z) lx8_00 tx8_00) (.y 5) = b := (v_nv _ (by omega)).trans (NN_pos sb)
  have e5002 : scN (mkP c0 (nvF a b i n x y z) lx8_00 tx8_00) (.y 5002) = Sn.wv (b - a) := by refine (v_op (c := 1) (x := .y 5) (y := .y 4) (k := 0) (i := 1) (j := 2) (by omega) hg rfl rfl rfl).trans ?_; rw [e5, e4]; all_goals rfl
  have T : Txt (nvF a b i n x y z) lx8_00 tx8_00 [] := txt_n spa8_00 hg w3q8_00 rfl cv0 rfl
  have h : RunIs ⟨(flat (dgN (nvF a b i n x y z)) lx8_00).toArray⟩ (.slice none 0 0) 0 1 w 0 0 (scN (mkP c0 (nvF a b i n x y z) lx8_00 tx8_00) (.y 5002)) [scN (mkP c0 (nvF a b i n x y z) lx8_00 tx8_00) (.y 4), scN (mkP c0 (nvF a b i n x y z) lx8_00 tx8_00) (.y 5)] 0 := T.run hv (T.cmp hv E.y8_00) hw (no_in _ _) rfl E.r8_00
  rw [e5002, e4, e5] at h
  exact h
structure Ev8_01 : Prop where
  y8_01 : isY (compR tx8_01) = true
  r8_01 : isEnd (nI 0) (nI 0) (.y 5008) [.y 4, .y 5005] (nI 0) (runR codY tx8_01 [] 0 1) = true
theorem w3q8_01 : w8_01 = w3s lx8_01 := by kernel_rfl
theorem spa8_01 : spA lx8_01 l8_01 cs8_01 = true := by kernel_rfl
theorem t8_01 (E : Ev8_01) {a b i : Int} (ha : Sn.I5 a) (hb : Sn.I5 b) (hi : Sn.I5 i) (sa : 0 ≤ a) (sb : b < 0) (n : Nat) (hn : n < 30) (x y z : Int) {w : World} (hw : Lw w) : RunIs ⟨(flat (dgN (nvF a b i n x y z)) lx8_01).toArray⟩ (.slice none 0 0) 0 1 w 0 0 (Sn.wv (b - a)) [a, b] 0 := by
  have hv : Nv (nvF a b i n x y z) := nv_ok ha hb hi (by omega)
  have hg : goodD (mkP c0 (nvF a b i n x y z) lx8_01 tx8_01).ds 0 = true := by kernel_rfl
  have e4 : scN (mkP c0 (nvF a b i n x y z) lx8_01 tx8_01) (.y 4) = a := (v_nv _ (by omega)).trans (NN_pos sa)
  have e5 : scN (mkP c0 (nvF a b i n x y z) lx8_01 tx8_01) (.y 5) = NN b := v_nv _ (by omega)
  have e5005 : scN (mkP c0 (nvF a b i n x y z) lx8_01 tx8_01) (.y 5005) = b := v_sgn (k0 := 0) (k1 := 1) (k2 := 2) (k3 := 3) (k4 := 4) (k5 := 5) hg rfl rfl rfl rfl rfl rfl sb hb e5
  have e5008 : scN (mkP c0 (nvF a b i n x y z) lx8_01 tx8_01) (.y 5008) = Sn.wv (b - a) := by refine (v_op (c := 1) (x := .y 5005) (y := .y 4) (k := 6) (i := 7) (j := 8) (by omega) hg rfl rfl rfl).trans ?_; rw [e5005, e4]; all_goals rfl
  have T : Txt (nvF a b i n x y z) lx8_01 tx8_01 [] := txt_n spa8_01 hg w3q8_01 rfl cv0 rfl
  have h : RunIs ⟨(flat (dgN (nvF a b i n x y z)) lx8_01).toArray⟩ (.slice none 0 0) 0 1 w 0 0 (scN (mkP c0 (nvF a b i n x y z) lx8_01 tx8_01) (.y 5008)) [scN (mkP c0 (nvF a b i n x y z) lx8_01 tx8_01) (.y 4), scN (mkP c0 (nvF a b i n x y z) lx8_01 tx8_01) (.y 5005)] 0 := T.run hv (T.cmp hv E.y8_01) hw (no_in _ _) rfl E.r8_01
  rw [e5008, e4, e5005] at h
  exact h
structure Ev8_10 : Prop where
  y8_10 : isY (compR tx8_10) = true
  r8_10 : isEnd (nI 0) (nI 0) (.y 5008) [.y 5005, .y 5] (nI 0) (runR codY tx8_10 [] 0 1) = true
theorem w3q8_10 : w8_10 = w3s lx8_10 := by kernel_rfl
theorem spa8_10 : spA lx8_10 l8_10 cs8_10 = true := by kernel_rfl
theorem t8_10 (E : Ev8_10) {a b i : Int} (ha : Sn.I5 a) (hb : Sn.I5 b) (hi : Sn.I5 i) (sa : a < 0) (sb : 0 ≤ b) (n : Nat) (hn : n < 30) (x y z : Int) {w : World} (hw : Lw w) : RunIs ⟨(flat (dgN (nvF a b i n x y z)) lx8_10).toArray⟩ (.slice none 0 0) 0 1 w 0 0 (Sn.wv (b - a)) [a, b] 0 := by
  have hv : Nv (nvF a b i n x y z) := nv_ok ha hb hi (by omega)
  have hg : goodD (mkP c0 (nvF a b i n x y z) lx8_10 tx8_10).ds 0 = true := by kernel_rfl
  have e4 : scN (mkP c0 (nvF a b i n x y z) lx8_10 tx8_10) (.y 4) = NN a := v_nv _ (by omega)
  have e5 : scN (mkP c0 (nvF a b i n x y z) lx8_10 tx8_10) (.y 5) = b := (v_nv _ (by omega)).trans (NN_pos sb)
  have e5005 : scN (mkP c0 (nvF a b i n x y z) lx8_10 tx8_10) (.y 5005) = a := v_sgn (k0 := 0) (k1 := 1) (k2 := 2) (k3 := 3) (k4 := 4) (k5 := 5) hg rfl rfl rfl rfl rfl rfl sa ha e4
  have e5008 : scN (mkP c0 (nvF a b i n x y z) lx8_10 tx8_10) (.y 5008) = Sn.wv (b - a) := by refine (v_op (c := 1) (x := .y 5) (y := .y 5005) (k := 6) (i := 7) (j := 8) (by omega) hg rfl rfl rfl).trans ?_; rw [e5, e5005]; all_goals rfl
  have T : Txt (nvF a b i n x y z) lx8_10 tx8_10 [] := txt_n spa8_10 hg w3q8_10 rfl cv0 rfl
  have h : RunIs ⟨(flat (dgN (nvF a b i n x y z)) lx8_10).toArray⟩ (.slice none 0 0) 0 1 w 0 0 (scN (mkP c0 (nvF a b i n x y z) lx8_10 tx8_10) (.y 5008)) [scN (mkP c0 (nvF a b i n x y z) lx8_10 tx8_10) (.y 5005), scN (mkP c0 (nvF a b i n x y z) lx8_10 tx8_10) (.y 5)] 0 := T.run hv (T.cmp hv E.y8_10) hw (no_in _ _) rfl E.r8_10
  rw [e5008, e5005, e5] at h
  exact h
structure Ev8_11 : Prop where
  y8_11 : isY (compR tx8_11) = true
  r8_11 : isEnd (nI 0) (nI 0) (.y 5014) [.y 5005, .y 5011] (nI 0) (runR codY tx8_11 [] 0 1) = true
theorem w3q8_11 : w8_11 = w3s lx8_11 := by kernel_rfl
theorem spa8_11 : spA lx8_11 l8_11 cs8_11 = true := by kernel_rfl
theorem t8_11 (E : Ev8_11) {a b i : Int} (ha : Sn.I5 a) (hb : Sn.I5 b) (hi : Sn.I5 i) (sa : a < 0) (sb : b < 0) (n : Nat) (hn : n < 30) (x y z : Int) {w : World} (hw : Lw w) : RunIs ⟨(flat (dgN (nvF a b i n x y z)) lx8_11).toArray⟩ (.slice none 0 0) 0 1 w 0 0 (Sn.wv (b - a)) [a, b] 0 := by
  have hv : Nv (nvF a b i n x y z) := nv_ok ha hb hi (by omega)
  have hg : goodD (mkP c0 (nvF a b i n x y z) lx8_11 tx8_11).ds 0 = true := by kernel_rfl
  have e4 : scN (mkP c0 (nvF a b i n x y z) lx8_11 tx8_11) (.y 4) = NN a := v_nv _ (by omega)
  have e5 : scN (mkP c0 (nvF a b i n x y z) lx8_11 tx8_11) (.y 5) = NN b := v_nv _ (by omega)
  have e5005 : scN (mkP c0 (nvF a b i n x y z) lx8_11 tx8_11) (.y 5005) = a := v_sgn (k0 := 0) (k1 := 1) (k2 := 2) (k3 := 3) (k4 := 4) (k5 := 5) hg rfl rfl rfl rfl rfl rfl sa ha e4
  have e5011 : scN (mkP c0 (nvF a b i n x y z) lx8_11 tx8_11) (.y 5011) = b := v_sgn (k0 := 6) (k1 := 7) (k2 := 8) (k3 := 9) (k4 := 10) (k5 := 11) hg rfl rfl rfl rfl rfl rfl sb hb e5
  have e5014 : scN (mkP c0 (nvF a b i n x y z) lx8_11 tx8_11) (.y 5014) = Sn.wv (b - a) := by refine (v_op (c := 1) (x := .y 5011) (y := .y 5005) (k := 12) (i := 13) (j := 14) (by omega) hg rfl rfl rfl).trans ?_; rw [e5011, e5005]; all_goals rfl
  have T : Txt (nvF a b i n x y z) lx8_11 tx8_11 [] := txt_n spa8_11 hg w3q8_11 rfl cv0 rfl
  have h : RunIs ⟨(flat (dgN (nvF a b i n x y z)) lx8_11).toArray⟩ (.slice none 0 0) 0 1 w 0 0 (scN (mkP c0 (nvF a b i n x y z) lx8_11 tx8_11) (.y 5014)) [scN (mkP c0 (nvF a b i n x y z) lx8_11 tx8_11) (.y 5005), scN (mkP c0 (nvF a b i n x y z) lx8_11 tx8_11) (.y 5011)] 0 := T.run hv (T.cmp hv E.y8_11) hw (no_in _ _) rfl E.r8_11
  rw [e5014, e5005, e5011] at h
  exact h
structure Ev9 : Prop where
  y9 : isY (compR tx9) = true
  r9 : isEnd (nI 0) (nI 0) (.y 5006) [nI 0, nI 1, nI 2] (nI 2) (runR codY tx9 [.y 8, .y 9] 40 2) = true
theorem w3q9 : w9 = w3s lx9 := by kernel_rfl
theorem spa9 : spA lx9 l9 cs9 = true := by kernel_rfl
theorem t9 (E : Ev9) {a b i : Int} (ha : Sn.I5 a) (hb : Sn.I5 b) (hi : Sn.I5 i) (n : Nat) (hn : n < 30) (x y z : Int) {w : World} (hw : Lw w) {k : Nat} (h2 : 2 ≤ k) (k0 : w.cell? ⟨k, 0, none⟩ = some (.int .i64 x)) (k1 : w.cell? ⟨k, 1, none⟩ = some (.int .i64 y)) : RunIs ⟨(flat (dgN (nvF a b i n x y z)) lx9).toArray⟩ (.slice (some ⟨k, 0, none⟩) 2 2) 40 2 w 0 0 (Sn.wv ((Sn.wv x) - (Sn.wv y))) [0, 1, 2] 2 := by
  have hv : Nv (nvF a b i n x y z) := nv_ok ha hb hi (by omega)
  have hg : goodD (mkP c0 (nvF a b i n x y z) lx9 tx9).ds 0 = true := by kernel_rfl
  have e8 : scN (mkP c0 (nvF a b i n x y z) lx9 tx9) (.y 8) = x := v_nv _ (by omega)
  have e9 : scN (mkP c0 (nvF a b i n x y z) lx9 tx9) (.y 9) = y := v_nv _ (by omega)
  have e5001 : scN (mkP c0 (nvF a b i n x y z) lx9 tx9) (.y 5001) = Sn.wv x := by refine (v_in (x := .y 8) (i := 0) (j := 1) hg rfl rfl).trans ?_; rw [e8]; all_goals rfl
  have e5003 : scN (mkP c0 (nvF a b i n x y z) lx9 tx9) (.y 5003) = Sn.wv y := by refine (v_in (x := .y 9) (i := 2) (j := 3) hg rfl rfl).trans ?_; rw [e9]; all_goals rfl
  have e5006 : scN (mkP c0 (nvF a b i n x y z) lx9 tx9) (.y 5006) = Sn.wv ((Sn.wv x) - (Sn.wv y)) := by refine (v_op (c := 1) (x := .y 5001) (y := .y 5003) (k := 4) (i := 5) (j := 6) (by omega) hg rfl rfl rfl).trans ?_; rw [e5001, e5003]; all_goals rfl
  have T : Txt (nvF a b i n x y z) lx9 tx9 [] := txt_n spa9 hg w3q9 rfl cv0 rfl
  have h : RunIs ⟨(flat (dgN (nvF a b i n x y z)) lx9).toArray⟩ (.slice (some ⟨k, 0, none⟩) 2 2) 40 2 w 0 0 (scN (mkP c0 (nvF a b i n x y z) lx9 tx9) (.y 5006)) [scN (mkP c0 (nvF a b i n x y z) lx9 tx9) (nI 0), scN (mkP c0 (nvF a b i n x y z) lx9 tx9) (nI 1), scN (mkP c0 (nvF a b i n x y z) lx9 tx9) (nI 2)] 2 := T.run hv (T.cmp hv E.y9) hw (in2 (u := 5) (v := 6) h2 rfl rfl k0 k1) rfl E.r9
  rw [e5006] at h
  exact h
structure Ev10 : Prop where
  y10 : isY (compR tx10) = true
  r10 : isEnd (nI 0) (nI 0) (nI 78) [nI 1, nI 2, nI 3, nI 4, nI 5, nI 6, nI 7, nI 8, nI 9] (nI 0) (runR codY tx10 [] 20 1) = true
theorem w3q10 : w10 = w3s lx10 := by kernel_rfl
theorem spa10 : spA lx10 l10 cs10 = true := by kernel_rfl
theorem t10 (E : Ev10) {a b i : Int} (ha : Sn.I5 a) (hb : Sn.I5 b) (hi : Sn.I5 i) (n : Nat) (hn : n < 30) (x y z : Int) {w : World} (hw : Lw w) : RunIs ⟨(flat (dgN (nvF a b i n x y z)) lx10).toArray⟩ (.slice none 0 0) 20 1 w 0 0 (78) [1, 2, 3, 4, 5, 6, 7, 8, 9] 0 := by
  have hv : Nv (nvF a b i n x y z) := nv_ok ha hb hi (by omega)
  have hg : goodD (mkP c0 (nvF a b i n x y z) lx10 tx10).ds 0 = true := by kernel_rfl
  have T : Txt (nvF a b i n x y z) lx10 tx10 [] := txt_n spa10 hg w3q10 rfl cv0 rfl
  exact T.run hv (T.cmp hv E.y10) hw (no_in _ _) rfl E.r10
structure Ev11 : Prop where
  y11 : isY (compR tx11) = true
  r11 : isEnd (nI 33) (.y 102) (nI 0) [] (nI 1) (runR codY tx11 [.y 8] 0 1) = true
theorem w3q11 : w11 = w3s lx11 := by kernel_rfl
theorem spa11 : spA lx11 l11 cs11 = true := by kernel_rfl
theorem t11 (E : Ev11) {a b i : Int} (ha : Sn.I5 a) (hb : Sn.I5 b) (hi : Sn.I5 i) (n : Nat) (hn : n < 30) (x y z : Int) {w : World} (hw : Lw w) {k : Nat} (h2 : 2 ≤ k) (k0 : w.cell? ⟨k, 0, none⟩ = some (.int .i64 x)) : RunIs ⟨(flat (dgN (nvF a b i n x y z)) lx11).toArray⟩ (.slice (some ⟨k, 0, none⟩) 1 1) 0 1 w 33 5 (0) [] 1 := by
  have hv : Nv (nvF a b i n x y z) := nv_ok ha hb hi (by omega)
  have hg : goodD (mkP c0 (nvF a b i n x y z) lx11 tx11).ds 0 = true := by kernel_rfl
  have T : Txt (nvF a b i n x y z) lx11 tx11 [] := txt_n spa11 hg w3q11 rfl cv0 rfl
  exact T.run hv (T.cmp hv E.y11) hw (in1 (u := 5) h2 rfl k0) rfl E.r11
structure Ev13_00 : Prop where
  y13_00 : isY (compR tx13_00) = true
  r13_00 : isEnd (nI 0) (nI 0) (.y 5002) [] (nI 0) (runR codY tx13_00 [] 0 1) = true
theorem w3q13_00 : w13_00 = w3s lx13_00 := by kernel_rfl
theorem t13_00 (E : Ev13_00) {a b i : Int} (ha : Sn.I5 a) (hb : Sn.I5 b) (hi : Sn.I5 i) (sa : 0 ≤ a) (sb : 0 ≤ b) (n : Nat) (hn : n < 30) (x y z : Int) {w : World} (hw : Lw w) : RunIs ⟨(flat (dgN (nvF a b i n x y z)) lx13_00).toArray⟩ (.slice none 0 0) 0 1 w 0 0 (Sn.wv (a - b)) [] 0 := by
  have hv : Nv (nvF a b i n x y z) := nv_ok ha hb hi (by omega)
  have hg : goodD (mkP c0 (nvF a b i n x y z) lx13_00 tx13_00).ds 0 = true := by kernel_rfl
  have e4 : scN (mkP c0 (nvF a b i n x y z) lx13_00 tx13_00) (.y 4) = a := (v_nv _ (by omega)).trans (NN_pos sa)
  have e5 : scN (mkP c0 (nvF a b i n x y z) lx13_00 tx13_00) (.y 5) = b := (v_nv _ (by omega)).trans (NN_pos sb)
  have e5002 : scN (mkP c0 (nvF a b i n x y z) lx13_00 tx13_00) (.y 5002) = Sn.wv (a - b) := by refine (v_op (c := 1) (x := .y 4) (y := .y 5) (k := 0) (i := 1) (j := 2) (by omega) hg rfl rfl rfl).trans ?_; rw [e4, e5]; all_goals rfl
  have T : Txt (nvF a b i n x y z) lx13_00 tx13_00 [] := by
    refine txt_c (by kernel_rfl) hg rfl w3q13_00 rfl cv0 (fun c hc => ?_) (fun u hu => ?_)
    · cases hc
    · rw [List.mem_singleton.1 hu]
      show Sn.I5 (scN (mkP c0 (nvF a b i n x y z) lx13_00 tx13_00) (.y 5002))
      rw [e5002]
      exact wv_in _
  have h : RunIs ⟨(flat (dgN (nvF a b i n x y z)) lx13_00).toArray⟩ (.slice none 0 0) 0 1 w 0 0 (scN (mkP c0 (nvF a b i n x y z) lx13_00 tx13_00) (.y 5002)) [] 0 := T.run hv (T.cmp hv E.y13_00) hw (no_in _ _) rfl E.r13_00
  rw [e5002] at h
  exact h
structure Ev13_01 : Prop where
  y13_01 : isY (compR tx13_01) = true
  r13_01 : isEnd (nI 0) (nI 0) (.y 5008) [] (nI 0) (runR codY tx13_01 [] 0 1) = true
theorem w3q13_01 : w13_01 = w3s lx13_01 := by kernel_rfl
theorem t13_01 (E : Ev13_01) {a b i : Int} (ha : Sn.I5 a) (hb : Sn.I5 b) (hi : Sn.I5 i) (sa : 0 ≤ a) (sb : b < 0) (n : Nat) (hn : n < 30) (x y z : Int) {w : World} (hw : Lw w) : RunIs ⟨(flat (dgN (nvF a b i n x y z)) lx13_01).toArray⟩ (.slice none 0 0) 0 1 w 0 0 (Sn.wv (a - b)) [] 0 := by
  have hv : Nv (nvF a b i n x y z) := nv_ok ha hb hi (by omega)
  have hg : goodD (mkP c0 (nvF a b i n x y z) lx13_01 tx13_01).ds 0 = true := by kernel_rfl
  have e4 : scN (mkP c0 (nvF a b i n x y z) lx13_01 tx13_01) (.y 4) = a := (v_nv _ (by omega)).trans (NN_pos sa)
  have e5 : scN (mkP c0 (nvF a b i n x y z) lx13_01 tx13_01) (.y 5) = NN b := v_nv _ (by omega)
  have e5005 : scN (mkP c0 (nvF a b i n x y z) lx13_01 tx13_01) (.y 5005) = b := v_sgn (k0 := 0) (k1 := 1) (k2 := 2) (k3 := 3) (k4 := 4) (k5 := 5) hg rfl rfl rfl rfl rfl rfl sb hb e5
  have e5008 : scN (mkP c0 (nvF a b i n x y z) lx13_01 tx13_01) (.y 5008) = Sn.wv (a - b) := by refine (v_op (c := 1) (x := .y 4) (y := .y 5005) (k := 6) (i := 7) (j := 8) (by omega) hg rfl rfl rfl).trans ?_; rw [e4, e5005]; all_goals rfl
  have T : Txt (nvF a b i n x y z) lx13_01 tx13_01 [] := by
    refine txt_c (by kernel_rfl) hg rfl w3q13_01 rfl cv0 (fun c hc => ?_) (fun u hu => ?_)
    · cases hc
    · rw [List.mem_singleton.1 hu]
      show Sn.I5 (scN (mkP c0 (nvF a b i n x y z) lx13_01 tx13_01) (.y 5008))
      rw [e5008]
      exact wv_in _
  have h : RunIs ⟨(flat (dgN (nvF a b i n x y z)) lx13_01).toArray⟩ (.slice none 0 0) 0 1 w 0 0 (scN (mkP c0 (nvF a b i n x y z) lx13_01 tx13_01) (.y 5008)) [] 0 := T.run hv (T.cmp hv E.y13_01) hw (no_in _ _) rfl E.r13_01
  rw [e5008] at h
  exact h
structure Ev13_10 : Prop where
  y13_10 : isY (compR tx13_10) = true
  r13_10 : isEnd (nI 0) (nI 0) (.y 5008) [] (nI 0) (runR codY tx13_10 [] 0 1) = true
theorem w3q13_10 : w13_10 = w3s lx13_10 := by kernel_rfl
theorem t13_10 (E : Ev13_10) {a b i : Int} (ha : Sn.I5 a) (hb : Sn.I5 b) (hi : Sn.I5 i) (sa : a < 0) (sb : 0 ≤ b) (n : Nat) (hn : n < 30) (x y z : Int) {w : World} (hw : Lw w) : RunIs ⟨(flat (dgN (nvF a b i n x y z)) lx13_10).toArray⟩ (.slice none 0 0) 0 1 w 0 0 (Sn.wv (a - b)) [] 0 := by
  have hv : Nv (nvF a b i n x y z) := nv_ok ha hb hi (by omega)
  have hg : goodD (mkP c0 (nvF a b i n x y z) lx13_10 tx13_10).ds 0 = true := by kernel_rfl
  have e4 : scN (mkP c0 (nvF a b i n x y z) lx13_10 tx13_10) (.y 4) = NN a := v_nv _ (by omega)
  have e5 : scN (mkP c0 (nvF a b i n x y z) lx13_10 tx13_10) (.y 5) = b := (v_nv _ (by omega)).trans (NN_pos sb)
  have e5005 : scN (mkP c0 (nvF a b i n x y z) lx13_10 tx13_10) (.y 5005) = a := v_sgn (k0 := 0) (k1 := 1) (k2 := 2) (k3 := 3) (k4 := 4) (k5 := 5) hg rfl rfl rfl rfl rfl rfl sa ha e4
  have e5008 : scN (mkP c0 (nvF a b i n x y z) lx13_10 tx13_10) (.y 5008) = Sn.wv (a - b) := by refine (v_op (c := 1) (x := .y 5005) (y := .y 5) (k := 6) (i := 7) (j := 8) (by omega) hg rfl rfl rfl).trans ?_; rw [e5005, e5]; all_goals rfl
  have T : Txt (nvF a b i n x y z) lx13_10 tx13_10 [] := by
    refine txt_c (by kernel_rfl) hg rfl w3q13_10 rfl cv0 (fun c hc => ?_) (fun u hu => ?_)
    · cases hc
    · rw [List.mem_singleton.1 hu]
      show Sn.I5 (scN (mkP c0 (nvF a b i n x y z) lx13_10 tx13_10) (.y 5008))
      rw [e5008]
      exact wv_in _
  have h : RunIs ⟨(flat (dgN (nvF a b i n x y z)) lx13_10).toArray⟩ (.slice none 0 0) 0 1 w 0 0 (scN (mkP c0 (nvF a b i n x y z) lx13_10 tx13_10) (.y 5008)) [] 0 := T.run hv (T.cmp hv E.y13_10) hw (no_in _ _) rfl E.r13_10
  rw [e5008] at h
  exact h
structure Ev13_11 : Prop where
  y13_11 : isY (compR tx13_11) = true
  r13_11 : isEnd (nI 0) (nI 0) (.y 5014) [] (nI 0) (runR codY tx13_11 [] 0 1) = true
theorem w3q13_11 : w13_11 = w3s lx13_11 := by kernel_rfl
theorem t13_11 (E : Ev13_11) {a b i : Int} (ha : Sn.I5 a) (hb : Sn.I5 b) (hi : Sn.I5 i) (sa : a < 0) (sb : b < 0) (n : Nat) (hn : n < 30) (x y z : Int) {w : World} (hw : Lw w) : RunIs ⟨(flat (dgN (nvF a b i n x y z)) lx13_11).toArray⟩ (.slice none 0 0) 0 1 w 0 0 (Sn.wv (a - b)) [] 0 := by
  have hv : Nv (nvF a b i n x y z) := nv_ok ha hb hi (by omega)
  have hg : goodD (mkP c0 (nvF a b i n x y z) lx13_11 tx13_11).ds 0 = true := by kernel_rfl
  have e4 : scN (mkP c0 (nvF a b i n x y z) lx13_11 tx13_11) (.y 4) = NN a := v_nv _ (by omega)
  have e5 : scN (mkP c0 (nvF a b i n x y z) lx13_11 tx13_11) (.y 5) = NN b := v_nv _ (by omega)
  have e5005 : scN (mkP c0 (nvF a b i n x y z) lx13_11 tx13_11) (.y 5005) = a := v_sgn (k0 := 0) (k1 := 1) (k2 := 2) (k3 := 3) (k4 := 4) (k5 := 5) hg rfl rfl rfl rfl rfl rfl sa ha e4
  have e5011 : scN (mkP c0 (nvF a b i n x y z) lx13_11 tx13_11) (.y 5011) = b := v_sgn (k0 := 6) (k1 := 7) (k2 := 8) (k3 := 9) (k4 := 10) (k5 := 11) hg rfl rfl rfl rfl rfl rfl sb hb e5
  have e5014 : scN (mkP c0 (nvF a b i n x y z) lx13_11 tx13_11) (.y 5014) = Sn.wv (a - b) := by refine (v_op (c := 1) (x := .y 5005) (y := .y 5011) (k := 12) (i := 13) (j := 14) (by omega) hg rfl rfl rfl).trans ?_; rw [e5005, e5011]; all_goals rfl
  have T : Txt (nvF a b i n x y z) lx13_11 tx13_11 [] := by
    refine txt_c (by kernel_rfl) hg rfl w3q13_11 rfl cv0 (fun c hc => ?_) (fun u hu => ?_)
    · cases hc
    · rw [List.mem_singleton.1 hu]
      show Sn.I5 (scN (mkP c0 (nvF a b i n x y z) lx13_11 tx13_11) (.y 5014))
      rw [e5014]
      exact wv_in _
  have h : RunIs ⟨(flat (dgN (nvF a b i n x y z)) lx13_11).toArray⟩ (.slice none 0 0) 0 1 w 0 0 (scN (mkP c0 (nvF a b i n x y z) lx13_11 tx13_11) (.y 5014)) [] 0 := T.run hv (T.cmp hv E.y13_11) hw (no_in _ _) rfl E.r13_11
  rw [e5014] at h
  exact h
structure Ev14 : Prop where
  y14 : isY (compR tx14) = true
  r14 : isEnd (nI 0) (nI 0) (.y 5027) [] (nI 2) (runR codY tx14 [.y 8, .y 9] 0 1) = true
theorem w3q14 : w14 = w3s lx14 := by kernel_rfl
theorem spa14 : spA lx14 l14 cs14 = true := by kernel_rfl
theorem t14 (E : Ev14) {a b i : Int} (ha : Sn.I5 a) (hb : Sn.I5 b) (hi : Sn.I5 i) (n : Nat) (hn : n < 30) (x y z : Int) {w : World} (hw : Lw w) {k : Nat} (h2 : 2 ≤ k) (k0 : w.cell? ⟨k, 0, none⟩ = some (.int .i64 x)) (k1 : w.cell? ⟨k, 1, none⟩ = some (.int .i64 y)) : RunIs ⟨(flat (dgN (nvF a b i n x y z)) lx14).toArray⟩ (.slice (some ⟨k, 0, none⟩) 2 2) 0 1 w 0 0 (Sn.wv ((Sn.wv ((Sn.wv ((Sn.wv ((Sn.wv x) - (Sn.wv y))) - (7))) + (Sn.wv ((Sn.wv x) * (Sn.wv y))))) - (Sn.wv (Int.tmod (Sn.wv (Int.tdiv (Sn.wv (Int.tdiv (Sn.wv x) 3)) 2)) 5)))) [] 2 := by
  have hv : Nv (nvF a b i n x y z) := nv_ok ha hb hi (by omega)
  have hg : goodD (mkP c0 (nvF a b i n x y z) lx14 tx14).ds 0 = true := by kernel_rfl
  have e8 : scN (mkP c0 (nvF a b i n x y z) lx14 tx14) (.y 8) = x := v_nv _ (by omega)
  have e9 : scN (mkP c0 (nvF a b i n x y z) lx14 tx14) (.y 9) = y := v_nv _ (by omega)
  have e5001 : scN (mkP c0 (nvF a b i n x y z) lx14 tx14) (.y 5001) = Sn.wv x := by refine (v_in (x := .y 8) (i := 0) (j := 1) hg rfl rfl).trans ?_; rw [e8]; all_goals rfl
  have e5003 : scN (mkP c0 (nvF a b i n x y z) lx14 tx14) (.y 5003) = Sn.wv y := by refine (v_in (x := .y 9) (i := 2) (j := 3) hg rfl rfl).trans ?_; rw [e9]; all_goals rfl
  have e5006 : scN (mkP c0 (nvF a b i n x y z) lx14 tx14) (.y 5006) = Sn.wv ((Sn.wv x) - (Sn.wv y)) := by refine (v_op (c := 1) (x := .y 5001) (y := .y 5003) (k := 4) (i := 5) (j := 6) (by omega) hg rfl rfl rfl).trans ?_; rw [e5001, e5003]; all_goals rfl
  have e5009 : scN (mkP c0 (nvF a b i n x y z) lx14 tx14) (.y 5009) = Sn.wv ((Sn.wv ((Sn.wv x) - (Sn.wv y))) - (7)) := by refine (v_op (c := 1) (x := .y 5006) (y := nI 7) (k := 7) (i := 8) (j := 9) (by omega) hg rfl rfl rfl).trans ?_; rw [e5006]; all_goals rfl
  have e5012 : scN (mkP c0 (nvF a b i n x y z) lx14 tx14) (.y 5012) = Sn.wv ((Sn.wv x) * (Sn.wv y)) := by refine (v_op (c := 2) (x := .y 5001) (y := .y 5003) (k := 10) (i := 11) (j := 12) (by omega) hg rfl rfl rfl).trans ?_; rw [e5001, e5003]; all_goals rfl
  have e5015 : scN (mkP c0 (nvF a b i n x y z) lx14 tx14) (.y 5015) = Sn.wv ((Sn.wv ((Sn.wv ((Sn.wv x) - (Sn.wv y))) - (7))) + (Sn.wv ((Sn.wv x) * (Sn.wv y)))) := by refine (v_op (c := 0) (x := .y 5009) (y := .y 5012) (k := 13) (i := 14) (j := 15) (by omega) hg rfl rfl rfl).trans ?_; rw [e5009, e5012]; all_goals rfl
  have e5018 : scN (mkP c0 (nvF a b i n x y z) lx14 tx14) (.y 5018) = Sn.wv (Int.tdiv (Sn.wv x) 3) := by refine (v_quo (n := 3) (x := .y 5001) (k := 16) (i := 17) (j := 18) hg rfl rfl rfl).trans ?_; rw [e5001]; all_goals rfl
  have e5021 : scN (mkP c0 (nvF a b i n x y z) lx14 tx14) (.y 5021) = Sn.wv (Int.tdiv (Sn.wv (Int.tdiv (Sn.wv x) 3)) 2) := by refine (v_quo (n := 2) (x := .y 5018) (k := 19) (i := 20) (j := 21) hg rfl rfl rfl).trans ?_; rw [e5018]; all_goals rfl
  have e5024 : scN (mkP c0 (nvF a b i n x y z) lx14 tx14) (.y 5024) = Sn.wv (Int.tmod (Sn.wv (Int.tdiv (Sn.wv (Int.tdiv (Sn.wv x) 3)) 2)) 5) := by refine (v_rem (n := 5) (x := .y 5021) (k := 22) (i := 23) (j := 24) hg rfl rfl rfl).trans ?_; rw [e5021]; all_goals rfl
  have e5027 : scN (mkP c0 (nvF a b i n x y z) lx14 tx14) (.y 5027) = Sn.wv ((Sn.wv ((Sn.wv ((Sn.wv ((Sn.wv x) - (Sn.wv y))) - (7))) + (Sn.wv ((Sn.wv x) * (Sn.wv y))))) - (Sn.wv (Int.tmod (Sn.wv (Int.tdiv (Sn.wv (Int.tdiv (Sn.wv x) 3)) 2)) 5))) := by refine (v_op (c := 1) (x := .y 5015) (y := .y 5024) (k := 25) (i := 26) (j := 27) (by omega) hg rfl rfl rfl).trans ?_; rw [e5015, e5024]; all_goals rfl
  have T : Txt (nvF a b i n x y z) lx14 tx14 [] := txt_n spa14 hg w3q14 rfl cv0 rfl
  have h : RunIs ⟨(flat (dgN (nvF a b i n x y z)) lx14).toArray⟩ (.slice (some ⟨k, 0, none⟩) 2 2) 0 1 w 0 0 (scN (mkP c0 (nvF a b i n x y z) lx14 tx14) (.y 5027)) [] 2 := T.run hv (T.cmp hv E.y14) hw (in2 (u := 5) (v := 6) h2 rfl rfl k0 k1) rfl E.r14
  rw [e5027] at h
  exact h
structure Ev15_000 : Prop where
  y15_000_0 : isY (compR tx15_000_0) = true
  r15_000_0 : isEnd (nI 30) (.y 112) (nI 0) [] (nI 0) (runR codY tx15_000_0 [] 2 1) = true
  y15_000_1 : isY (compR tx15_000_1) = true
  r15_000_1 : isEnd (nI 30) (.y 112) (nI 0) [] (nI 0) (runR codY tx15_000_1 [] 4 1) = true
  y15_000_2 : isY (compR tx15_000_2) = true
  r15_000_2 : isEnd (nI 30) (.y 112) (nI 0) [] (nI 0) (runR codY tx15_000_2 [] 6 1) = true
  y15_000_3 : isY (compR tx15_000_3) = true
  r15_000_3 : isEnd (nI 30) (.y 112) (nI 0) [] (nI 0) (runR codY tx15_000_3 [] 8 1) = true
  y15_000_4 : isY (compR tx15_000_4) = true
  r15_000_4 : isEnd (nI 30) (.y 112) (nI 0) [] (nI 0) (runR codY tx15_000_4 [] 10 1) = true
  y15_000_2_0 : isY (compR tx15_000_2_0) = true
  r15_000_2_0 : isEnd (nI 0) (nI 0) (.y 5002) [] (nI 0) (runR codY tx15_000_2_0 [] 6 1) = true
  y15_000_4_3 : isY (compR tx15_000_4_3) = true
  r15_000_4_3 : isEnd (nI 0) (nI 0) (.y 5002) [] (nI 0) (runR codY tx15_000_4_3 [] 10 1) = true
theorem w3q15_000 : w15_000 = w3s lx15_000 := by kernel_rfl
theorem spa15_000 : spA lx15_000 l15_000 cs15_000 = true := by kernel_rfl
theorem t15_000_0 (E : Ev15_000) {a b i : Int} (ha : Sn.I5 a) (hb : Sn.I5 b) (hi : Sn.I5 i) (sa : 0 ≤ a) (sb : 0 ≤ b) (si : 0 ≤ i) (n : Nat) (hn : n < 30) (x y z : Int) {w : World} (hw : Lw w) (sn : 0 ≤ i) : RunIs ⟨(flat (dgN (nvF a b i 0 x y z)) lx15_000).toArray⟩ (.slice none 0 0) 2 1 w 30 (plOf (toks (dgN (nvF a b i 0 x y z)) (nN (nvF a b i 0 x y z)) lx15_000 0) (flat (dgN (nvF a b i 0 x y z)) lx15_000).length 12) (0) [] 0 := by
  have hv : Nv (nvF a b i 0 x y z) := nv_ok ha hb hi (by omega)
  have hg : goodD (mkP c0 (nvF a b i 0 x y z) lx15_000 tx15_000_0).ds 0 = true := by kernel_rfl
  have e6 : scN (mkP c0 (nvF a b i 0 x y z) lx15_000 tx15_000_0) (.y 6) = i := (v_nv _ (by omega)).trans (NN_pos si)
  have T : Txt (nvF a b i 0 x y z) lx15_000 tx15_000_0 [(7, 0)] := by
    refine txt_c spa15_000 hg rfl w3q15_000 rfl (cv7 rfl) (fun c hc => ?_) (fun u hu => ?_)
    · rcases List.mem_cons.1 hc with rfl | hc
      · show cmpI 2 (scN (mkP c0 (nvF a b i 0 x y z) lx15_000 tx15_000_0) (.y 6)) (scN (mkP c0 (nvF a b i 0 x y z) lx15_000 tx15_000_0) (nI 0)) = false
        rw [e6]
        exact decide_eq_false (by show ¬ _ < (0 : Int); omega)
      rcases List.mem_cons.1 hc with rfl | hc
      · show cmpI 5 (scN (mkP c0 (nvF a b i 0 x y z) lx15_000 tx15_000_0) (.y 6)) (scN (mkP c0 (nvF a b i 0 x y z) lx15_000 tx15_000_0) (nI 0)) = true
        rw [e6]
        exact decide_eq_true (by show ((0 : Nat) : Int) ≤ _; omega)
      cases hc
    · cases hu
  exact T.run hv (T.cmp hv E.y15_000_0) hw (no_in _ _) rfl E.r15_000_0
theorem t15_000_1 (E : Ev15_000) {a b i : Int} (ha : Sn.I5 a) (hb : Sn.I5 b) (hi : Sn.I5 i) (sa : 0 ≤ a) (sb : 0 ≤ b) (si : 0 ≤ i) (n : Nat) (hn : n < 30) (x y z : Int) {w : World} (hw : Lw w) (sn : 1 ≤ i) : RunIs ⟨(flat (dgN (nvF a b i 1 x y z)) lx15_000).toArray⟩ (.slice none 0 0) 4 1 w 30 (plOf (toks (dgN (nvF a b i 1 x y z)) (nN (nvF a b i 1 x y z)) lx15_000 0) (flat (dgN (nvF a b i 1 x y z)) lx15_000).length 12) (0) [] 0 := by
  have hv : Nv (nvF a b i 1 x y z) := nv_ok ha hb hi (by omega)
  have hg : goodD (mkP c0 (nvF a b i 1 x y z) lx15_000 tx15_000_1).ds 0 = true := by kernel_rfl
  have e6 : scN (mkP c0 (nvF a b i 1 x y z) lx15_000 tx15_000_1) (.y 6) = i := (v_nv _ (by omega)).trans (NN_pos si)
  have T : Txt (nvF a b i 1 x y z) lx15_000 tx15_000_1 [(7, 1)] := by
    refine txt_c spa15_000 hg rfl w3q15_000 rfl (cv7 rfl) (fun c hc => ?_) (fun u hu => ?_)
    · rcases List.mem_cons.1 hc with rfl | hc
      · show cmpI 2 (scN (mkP c0 (nvF a b i 1 x y z) lx15_000 tx15_000_1) (.y 6)) (scN (mkP c0 (nvF a b i 1 x y z) lx15_000 tx15_000_1) (nI 0)) = false
        rw [e6]
        exact decide_eq_false (by show ¬ _ < (0 : Int); omega)
      rcases List.mem_cons.1 hc with rfl | hc
      · show cmpI 5 (scN (mkP c0 (nvF a b i 1 x y z) lx15_000 tx15_000_1) (.y 6)) (scN (mkP c0 (nvF a b i 1 x y z) lx15_000 tx15_000_1) (nI 1)) = true
        rw [e6]
        exact decide_eq_true (by show ((1 : Nat) : Int) ≤ _; omega)
      cases hc
    · cases hu
  exact T.run hv (T.cmp hv E.y15_000_1) hw (no_in _ _) rfl E.r15_000_1
theorem t15_000_2 (E : Ev15_000) {a b i : Int} (ha : Sn.I5 a) (hb : Sn.I5 b) (hi : Sn.I5 i) (sa : 0 ≤ a) (sb : 0 ≤ b) (si : 0 ≤ i) (n : Nat) (hn : n < 30) (x y z : Int) {w : World} (hw : Lw w) (sn : 2 ≤ i) : RunIs ⟨(flat (dgN (nvF a b i 2 x y z)) lx15_000).toArray⟩ (.slice none 0 0) 6 1 w 30 (plOf (toks (dgN (nvF a b i 2 x y z)) (nN (nvF a b i 2 x y z)) lx15_000 0) (flat (dgN (nvF a b i 2 x y z)) lx15_000).length 12) (0) [] 0 := by
  have hv : Nv (nvF a b i 2 x y z) := nv_ok ha hb hi (by omega)
  have hg : goodD (mkP c0 (nvF a b i 2 x y z) lx15_000 tx15_000_2).ds 0 = true := by kernel_rfl
  have e6 : scN (mkP c0 (nvF a b i 2 x y z) lx15_000 tx15_000_2) (.y 6) = i := (v_nv _ (by omega)).trans (NN_pos si)
  have T : Txt (nvF a b i 2 x y z) lx15_000 tx15_000_2 [(7, 2)] := by
    refine txt_c spa15_000 hg rfl w3q15_000 rfl (cv7 rfl) (fun c hc => ?_) (fun u hu => ?_)
    · rcases List.mem_cons.1 hc with rfl | hc
      · show cmpI 2 (scN (mkP c0 (nvF a b i 2 x y z) lx15_000 tx15_000_2) (.y 6)) (scN (mkP c0 (nvF a b i 2 x y z) lx15_000 tx15_000_2) (nI 0)) = false
        rw [e6]
        exact decide_eq_false (by show ¬ _ < (0 : Int); omega)
      rcases List.mem_cons.1 hc with rfl | hc
      · show cmpI 5 (scN (mkP c0 (nvF a b i 2 x y z) lx15_000 tx15_000_2) (.y 6)) (scN (mkP c0 (nvF a b i 2 x y z) lx15_000 tx15_000_2) (nI 2)) = true
        rw [e6]
        exact decide_eq_true (by show ((2 : Nat) : Int) ≤ _; omega)
      cases hc
    · cases hu
  exact T.run hv (T.cmp hv E.y15_000_2) hw (no_in _ _) rfl E.r15_000_2
theorem t15_000_3 (E : Ev15_000) {a b i : Int} (ha : Sn.I5 a) (hb : Sn.I5 b) (hi : Sn.I5 i) (sa : 0 ≤ a) (sb : 0 ≤ b) (si : 0 ≤ i) (n : Nat) (hn : n < 30) (x y z : Int) {w : World} (hw : Lw w) (sn : 3 ≤ i) : RunIs ⟨(flat (dgN (nvF a b i 3 x y z)) lx15_000).toArray⟩ (.slice none 0 0) 8 1 w 30 (plOf (toks (dgN (nvF a b i 3 x y z)) (nN (nvF a b i 3 x y z)) lx15_000 0) (flat (dgN (nvF a b i 3 x y z)) lx15_000).length 12) (0) [] 0 := by
  have hv : Nv (nvF a b i 3 x y z) := nv_ok ha hb hi (by omega)
  have hg : goodD (mkP c0 (nvF a b i 3 x y z) lx15_000 tx15_000_3).ds 0 = true := by kernel_rfl
  have e6 : scN (mkP c0 (nvF a b i 3 x y z) lx15_000 tx15_000_3) (.y 6) = i := (v_nv _ (by omega)).trans (NN_pos si)
  have T : Txt (nvF a b i 3 x y z) lx15_000 tx15_000_3 [(7, 3)] := by
    refine txt_c spa15_000 hg rfl w3q15_000 rfl (cv7 rfl) (fun c hc => ?_) (fun u hu => ?_)
    · rcases List.mem_cons.1 hc with rfl | hc
      · show cmpI 2 (scN (mkP c0 (nvF a b i 3 x y z) lx15_000 tx15_000_3) (.y 6)) (scN (mkP c0 (nvF a b i 3 x y z) lx15_000 tx15_000_3) (nI 0)) = false
        rw [e6]
        exact decide_eq_false (by show ¬ _ < (0 : Int); omega)
      rcases List.mem_cons.1 hc with rfl | hc
      · show cmpI 5 (scN (mkP c0 (nvF a b i 3 x y z) lx15_000 tx15_000_3) (.y 6)) (scN (mkP c0 (nvF a b i 3 x y z) lx15_000 tx15_000_3) (nI 3)) = true
        rw [e6]
        exact decide_eq_true (by show ((3 : Nat) : Int) ≤ _; omega)
      cases hc
    · cases hu
  exact T.run hv (T.cmp hv E.y15_000_3) hw (no_in _ _) rfl E.r15_000_3
theorem t15_000_4 (E : Ev15_000) {a b i : Int} (ha : Sn.I5 a) (hb : Sn.I5 b) (hi : Sn.I5 i) (sa : 0 ≤ a) (sb : 0 ≤ b) (si : 0 ≤ i) (n : Nat) (hn : n < 30) (x y z : Int) {w : World} (hw : Lw w) (sn : 4 ≤ i) : RunIs ⟨(flat (dgN (nvF a b i 4 x y z)) lx15_000).toArray⟩ (.slice none 0 0) 10 1 w 30 (plOf (toks (dgN (nvF a b i 4 x y z)) (nN (nvF a b i 4 x y z)) lx15_000 0) (flat (dgN (nvF a b i 4 x y z)) lx15_000).length 12) (0) [] 0 := by
  have hv : Nv (nvF a b i 4 x y z) := nv_ok ha hb hi (by omega)
  have hg : goodD (mkP c0 (nvF a b i 4 x y z) lx15_000 tx15_000_4).ds 0 = true := by kernel_rfl
  have e6 : scN (mkP c0 (nvF a b i 4 x y z) lx15_000 tx15_000_4) (.y 6) = i := (v_nv _ (by omega)).trans (NN_pos si)
  have T : Txt (nvF a b i 4 x y z) lx15_000 tx15_000_4 [(7, 4)] := by
    refine txt_c spa15_000 hg rfl w3q15_000 rfl (cv7 rfl) (fun c hc => ?_) (fun u hu => ?_)
    · rcases List.mem_cons.1 hc with rfl | hc
      · show cmpI 2 (scN (mkP c0 (nvF a b i 4 x y z) lx15_000 tx15_000_4) (.y 6)) (scN (mkP c0 (nvF a b i 4 x y z) lx15_000 tx15_000_4) (nI 0)) = false
        rw [e6]
        exact decide_eq_false (by show ¬ _ < (0 : Int); omega)
      rcases List.mem_cons.1 hc with rfl | hc
      · show cmpI 5 (scN (mkP c0 (nvF a b i 4 x y z) lx15_000 tx15_000_4) (.y 6)) (scN (mkP c0 (nvF a b i 4 x y z) lx15_000 tx15_000_4) (nI 4)) = true
        rw [e6]
        exact decide_eq_true (by show ((4 : Nat) : Int) ≤ _; omega)
      cases hc
    · cases hu
  exact T.run hv (T.cmp hv E.y15_000_4) hw (no_in _ _) rfl E.r15_000_4
theorem t15_000_2_0 (E : Ev15_000) {a b i : Int} (ha : Sn.I5 a) (hb : Sn.I5 b) (hi : Sn.I5 i) (sa : 0 ≤ a) (sb : 0 ≤ b) (n : Nat) (hn : n < 30) (x y z : Int) {w : World} (hw : Lw w) : RunIs ⟨(flat (dgN (nvF a b (0) 2 x y z)) lx15_000).toArray⟩ (.slice none 0 0) 6 1 w 0 0 (Sn.wv (a - b)) [] 0 := by
  have hv : Nv (nvF a b (0) 2 x y z) := nv_ok ha hb (by omega) (by omega)
  have hg : goodD (mkP c0 (nvF a b (0) 2 x y z) lx15_000 tx15_000_2_0).ds 0 = true := by kernel_rfl
  have e4 : scN (mkP c0 (nvF a b (0) 2 x y z) lx15_000 tx15_000_2_0) (.y 4) = a := (v_nv _ (by omega)).trans (NN_pos sa)
  have e5 : scN (mkP c0 (nvF a b (0) 2 x y z) lx15_000 tx15_000_2_0) (.y 5) = b := (v_nv _ (by omega)).trans (NN_pos sb)
  have e5002 : scN (mkP c0 (nvF a b (0) 2 x y z) lx15_000 tx15_000_2_0) (.y 5002) = Sn.wv (a - b) := by have h := v_op (p := mkP c0 (nvF a b (0) 2 x y z) lx15_000 tx15_000_2_0) (c := 1) (x := .y 4) (y := .y 5) (k := 0) (i := 1) (j := 2) (by omega) hg rfl rfl rfl; rw [e4, e5] at h; exact h
  have T : Txt (nvF a b (0) 2 x y z) lx15_000 tx15_000_2_0 [(7, 2), (6, 0)] := by
    refine txt_c (by kernel_rfl) hg rfl w3q15_000 rfl (cv76 rfl rfl) (fun c hc => ?_) (fun u hu => ?_)
    · cases hc
    · rw [List.mem_singleton.1 hu]
      show Sn.I5 (scN (mkP c0 (nvF a b (0) 2 x y z) lx15_000 tx15_000_2_0) (.y 5002))
      rw [e5002]
      exact wv_in _
  have h : RunIs ⟨(flat (dgN (nvF a b (0) 2 x y z)) lx15_000).toArray⟩ (.slice none 0 0) 6 1 w 0 0 (scN (mkP c0 (nvF a b (0) 2 x y z) lx15_000 tx15_000_2_0) (.y 5002)) [] 0 := T.run hv (T.cmp hv E.y15_000_2_0) hw (no_in _ _) rfl E.r15_000_2_0
  rw [e5002] at h
  exact h
theorem t15_000_4_3 (E : Ev15_000) {a b i : Int} (ha : Sn.I5 a) (hb : Sn.I5 b) (hi : Sn.I5 i) (sa : 0 ≤ a) (sb : 0 ≤ b) (n : Nat) (hn : n < 30) (x y z : Int) {w : World} (hw : Lw w) : RunIs ⟨(flat (dgN (nvF a b (3) 4 x y z)) lx15_000).toArray⟩ (.slice none 0 0) 10 1 w 0 0 (Sn.wv (a - b)) [] 0 := by
  have hv : Nv (nvF a b (3) 4 x y z) := nv_ok ha hb (by omega) (by omega)
  have hg : goodD (mkP c0 (nvF a b (3) 4 x y z) lx15_000 tx15_000_4_3).ds 0 = true := by kernel_rfl
  have e4 : scN (mkP c0 (nvF a b (3) 4 x y z) lx15_000 tx15_000_4_3) (.y 4) = a := (v_nv _ (by omega)).trans (NN_pos sa)
  have e5 : scN (mkP c0 (nvF a b (3) 4 x y z) lx15_000 tx15_000_4_3) (.y 5) = b := (v_nv _ (by omega)).trans (NN_pos sb)
  have e5002 : scN (mkP c0 (nvF a b (3) 4 x y z) lx15_000 tx15_000_4_3) (.y 5002) = Sn.wv (a - b) := by have h := v_op (p := mkP c0 (nvF a b (3) 4 x y z) lx15_000 tx15_000_4_3) (c := 1) (x := .y 4) (y := .y 5) (k := 0) (i := 1) (j := 2) (by omega) hg rfl rfl rfl; rw [e4, e5] at h; exact h
  have T : Txt (nvF a b (3) 4 x y z) lx15_000 tx15_000_4_3 [(7, 4), (6, 3)] := by
    refine txt_c (by kernel_rfl) hg rfl w3q15_000 rfl (cv76 rfl rfl) (fun c hc => ?_) (fun u hu => ?_)
    · cases hc
    · rw [List.mem_singleton.1 hu]
      show Sn.I5 (scN (mkP c0 (nvF a b (3) 4 x y z) lx15_000 tx15_000_4_3) (.y 5002))
      rw [e5002]
      exact wv_in _
  have h : RunIs ⟨(flat (dgN (nvF a b (3) 4 x y z)) lx15_000).toArray⟩ (.slice none 0 0) 10 1 w 0 0 (scN (mkP c0 (nvF a b (3) 4 x y z) lx15_000 tx15_000_4_3) (.y 5002)) [] 0 := T.run hv (T.cmp hv E.y15_000_4_3) hw (no_in _ _) rfl E.r15_000_4_3
  rw [e5002] at h
  exact h
structure Ev15_001 : Prop where
  y15_001_0 : isY (compR tx15_001_0) = true
  r15_001_0 : isEnd (nI 30) (.y 117) (nI 0) [] (nI 0) (runR codY tx15_001_0 [] 2 1) = true
  y15_001_1 : isY (compR tx15_001_1) = true
  r15_001_1 : isEnd (nI 30) (.y 117) (nI 0) [] (nI 0) (runR codY tx15_001_1 [] 4 1) = true
  y15_001_2 : isY (compR tx15_001_2) = true
  r15_001_2 : isEnd (nI 30) (.y 117) (nI 0) [] (nI 0) (runR codY tx15_001_2 [] 6 1) = true
  y15_001_3 : isY (compR tx15_001_3) = true
  r15_001_3 : isEnd (nI 30) (.y 117) (nI 0) [] (nI 0) (runR codY tx15_001_3 [] 8 1) = true
  y15_001_4 : isY (compR tx15_001_4) = true
  r15_001_4 : isEnd (nI 30) (.y 117) (nI 0) [] (nI 0) (runR codY tx15_001_4 [] 10 1) = true
theorem w3q15_001 : w15_001 = w3s lx15_001 := by kernel_rfl
theorem spa15_001 : spA lx15_001 l15_001 cs15_001 = true := by kernel_rfl
theorem t15_001_0 (E : Ev15_001) {a b i : Int} (ha : Sn.I5 a) (hb : Sn.I5 b) (hi : Sn.I5 i) (sa : 0 ≤ a) (sb : 0 ≤ b) (si : i < 0) (n : Nat) (hn : n < 30) (x y z : Int) {w : World} (hw : Lw w) : RunIs ⟨(flat (dgN (nvF a b i 0 x y z)) lx15_001).toArray⟩ (.slice none 0 0) 2 1 w 30 (plOf (toks (dgN (nvF a b i 0 x y z)) (nN (nvF a b i 0 x y z)) lx15_001 0) (flat (dgN (nvF a b i 0 x y z)) lx15_001).length 17) (0) [] 0 := by
  have hv : Nv (nvF a b i 0 x y z) := nv_ok ha hb hi (by omega)
  have hg : goodD (mkP c0 (nvF a b i 0 x y z) lx15_001 tx15_001_0).ds 0 = true := by kernel_rfl
  have e6 : scN (mkP c0 (nvF a b i 0 x y z) lx15_001 tx15_001_0) (.y 6) = NN i := v_nv _ (by omega)
  have e5005 : scN (mkP c0 (nvF a b i 0 x y z) lx15_001 tx15_001_0) (.y 5005) = i := v_sgn (k0 := 0) (k1 := 1) (k2 := 2) (k3 := 3) (k4 := 4) (k5 := 5) hg rfl rfl rfl rfl rfl rfl si hi e6
  have T : Txt (nvF a b i 0 x y z) lx15_001 tx15_001_0 [(7, 0)] := by
    refine txt_c spa15_001 hg rfl w3q15_001 rfl (cv7 rfl) (fun c hc => ?_) (fun u hu => ?_)
    · rcases List.mem_cons.1 hc with rfl | hc
      · show cmpI 2 (scN (mkP c0 (nvF a b i 0 x y z) lx15_001 tx15_001_0) (.y 5005)) (scN (mkP c0 (nvF a b i 0 x y z) lx15_001 tx15_001_0) (nI 0)) = true
        rw [e5005]
        exact decide_eq_true (by show _ < (0 : Int); omega)
      cases hc
    · cases hu
  exact T.run hv (T.cmp hv E.y15_001_0) hw (no_in _ _) rfl E.r15_001_0
theorem t15_001_1 (E : Ev15_001) {a b i : Int} (ha : Sn.I5 a) (hb : Sn.I5 b) (hi : Sn.I5 i) (sa : 0 ≤ a) (sb : 0 ≤ b) (si : i < 0) (n : Nat) (hn : n < 30) (x y z : Int) {w : World} (hw : Lw w) : RunIs ⟨(flat (dgN (nvF a b i 1 x y z)) lx15_001).toArray⟩ (.slice none 0 0) 4 1 w 30 (plOf (toks (dgN (nvF a b i 1 x y z)) (nN (nvF a b i 1 x y z)) lx15_001 0) (flat (dgN (nvF a b i 1 x y z)) lx15_001).length 17) (0) [] 0 := by
  have hv : Nv (nvF a b i 1 x y z) := nv_ok ha hb hi (by omega)
  have hg : goodD (mkP c0 (nvF a b i 1 x y z) lx15_001 tx15_001_1).ds 0 = true := by kernel_rfl
  have e6 : scN (mkP c0 (nvF a b i 1 x y z) lx15_001 tx15_001_1) (.y 6) = NN i := v_nv _ (by omega)
  have e5005 : scN (mkP c0 (nvF a b i 1 x y z) lx15_001 tx15_001_1) (.y 5005) = i := v_sgn (k0 := 0) (k1 := 1) (k2 := 2) (k3 := 3) (k4 := 4) (k5 := 5) hg rfl rfl rfl rfl rfl rfl si hi e6
  have T : Txt (nvF a b i 1 x y z) lx15_001 tx15_001_1 [(7, 1)] := by
    refine txt_c spa15_001 hg rfl w3q15_001 rfl (cv7 rfl) (fun c hc => ?_) (fun u hu => ?_)
    · rcases List.mem_cons.1 hc with rfl | hc
      · show cmpI 2 (scN (mkP c0 (nvF a b i 1 x y z) lx15_001 tx15_001_1) (.y 5005)) (scN (mkP c0 (nvF a b i 1 x y z) lx15_001 tx15_001_1) (nI 0)) = true
        rw [e5005]
        exact decide_eq_true (by show _ < (0 : Int); omega)
      cases hc
    · cases hu
  exact T.run hv (T.cmp hv E.y15_001_1) hw (no_in _ _) rfl E.r15_001_1
theorem t15_001_2 (E : Ev15_001) {a b i : Int} (ha : Sn.I5 a) (hb : Sn.I5 b) (hi : Sn.I5 i) (sa : 0 ≤ a) (sb : 0 ≤ b) (si : i < 0) (n : Nat) (hn : n < 30) (x y z : Int) {w : World} (hw : Lw w) : RunIs ⟨(flat (dgN (nvF a b i 2 x y z)) lx15_001).toArray⟩ (.slice none 0 0) 6 1 w 30 (plOf (toks (dgN (nvF a b i 2 x y z)) (nN (nvF a b i 2 x y z)) lx15_001 0) (flat (dgN (nvF a b i 2 x y z)) lx15_001).length 17) (0) [] 0 := by
  have hv : Nv (nvF a b i 2 x y z) := nv_ok ha hb hi (by omega)
  have hg : goodD (mkP c0 (nvF a b i 2 x y z) lx15_001 tx15_001_2).ds 0 = true := by kernel_rfl
  have e6 : scN (mkP c0 (nvF a b i 2 x y z) lx15_001 tx15_001_2) (.y 6) = NN i := v_nv _ (by omega)
  have e5005 : scN (mkP c0 (nvF a b i 2 x y z) lx15_001 tx15_001_2) (.y 5005) = i := v_sgn (k0 := 0) (k1 := 1) (k2 := 2) (k3 := 3) (k4 := 4) (k5 := 5) hg rfl rfl rfl rfl rfl rfl si hi e6
  have T : Txt (nvF a b i 2 x y z) lx15_001 tx15_001_2 [(7, 2)] := by
    refine txt_c spa15_001 hg rfl w3q15_001 rfl (cv7 rfl) (fun c hc => ?_) (fun u hu => ?_)
    · rcases List.mem_cons.1 hc with rfl | hc
      · show cmpI 2 (scN (mkP c0 (nvF a b i 2 x y z) lx15_001 tx15_001_2) (.y 5005)) (scN (mkP c0 (nvF a b i 2 x y z) lx15_001 tx15_001_2) (nI 0)) = true
        rw [e5005]
        exact decide_eq_true (by show _ < (0 : Int); omega)
      cases hc
    · cases hu
  exact T.run hv (T.cmp hv E.y15_001_2) hw (no_in _ _) rfl E.r15_001_2
theorem t15_001_3 (E : Ev15_001) {a b i : Int} (ha : Sn.I5 a) (hb : Sn.I5 b) (hi : Sn.I5 i) (sa : 0 ≤ a) (sb : 0 ≤ b) (si : i < 0) (n : Nat) (hn : n < 30) (x y z : Int) {w : World} (hw : Lw w) : RunIs ⟨(flat (dgN (nvF a b i 3 x y z)) lx15_001).toArray⟩ (.slice none 0 0) 8 1 w 30 (plOf (toks (dgN (nvF a b i 3 x y z)) (nN (nvF a b i 3 x y z)) lx15_001 0) (flat (dgN (nvF a b i 3 x y z)) lx15_001).length 17) (0) [] 0 := by
  have hv : Nv (nvF a b i 3 x y z) := nv_ok ha hb hi (by omega)
  have hg : goodD (mkP c0 (nvF a b i 3 x y z) lx15_001 tx15_001_3).ds 0 = true := by kernel_rfl
  have e6 : scN (mkP c0 (nvF a b i 3 x y z) lx15_001 tx15_001_3) (.y 6) = NN i := v_nv _ (by omega)
  have e5005 : scN (mkP c0 (nvF a b i 3 x y z) lx15_001 tx15_001_3) (.y 5005) = i := v_sgn (k0 := 0) (k1 := 1) (k2 := 2) (k3 := 3) (k4 := 4) (k5 := 5) hg rfl rfl rfl rfl rfl rfl si hi e6
  have T : Txt (nvF a b i 3 x y z) lx15_001 tx15_001_3 [(7, 3)] := by
    refine txt_c spa15_001 hg rfl w3q15_001 rfl (cv7 rfl) (fun c hc => ?_) (fun u hu => ?_)
    · rcases List.mem_cons.1 hc with rfl | hc
      · show cmpI 2 (scN (mkP c0 (nvF a b i 3 x y z) lx15_001 tx15_001_3) (.y 5005)) (scN (mkP c0 (nvF a b i 3 x y z) lx15_001 tx15_001_3) (nI 0)) = true
        rw [e5005]
        exact decide_eq_true (by show _ < (0 : Int); omega)
      cases hc
    · cases hu
  exact T.run hv (T.cmp hv E.y15_001_3) hw (no_in _ _) rfl E.r15_001_3
theorem t15_001_4 (E : Ev15_001) {a b i : Int} (ha : Sn.I5 a) (hb : Sn.I5 b) (hi : Sn.I5 i) (sa : 0 ≤ a) (sb : 0 ≤ b) (si : i < 0) (n : Nat) (hn : n < 30) (x y z : Int) {w : World} (hw : Lw w) : RunIs ⟨(flat (dgN (nvF a b i 4 x y z)) lx15_001).toArray⟩ (.slice none 0 0) 10 1 w 30 (plOf (toks (dgN (nvF a b i 4 x y z)) (nN (nvF a b i 4 x y z)) lx15_001 0) (flat (dgN (nvF a b i 4 x y z)) lx15_001).length 17) (0) [] 0 := by
  have hv : Nv (nvF a b i 4 x y z) := nv_ok ha hb hi (by omega)
  have hg : goodD (mkP c0 (nvF a b i 4 x y z) lx15_001 tx15_001_4).ds 0 = true := by kernel_rfl
  have e6 : scN (mkP c0 (nvF a b i 4 x y z) lx15_001 tx15_001_4) (.y 6) = NN i := v_nv _ (by omega)
  have e5005 : scN (mkP c0 (nvF a b i 4 x y z) lx15_001 tx15_001_4) (.y 5005) = i := v_sgn (k0 := 0) (k1 := 1) (k2 := 2) (k3 := 3) (k4 := 4) (k5 := 5) hg rfl rfl rfl rfl rfl rfl si hi e6
  have T : Txt (nvF a b i 4 x y z) lx15_001 tx15_001_4 [(7, 4)] := by
    refine txt_c spa15_001 hg rfl w3q15_001 rfl (cv7 rfl) (fun c hc => ?_) (fun u hu => ?_)
    · rcases List.mem_cons.1 hc with rfl | hc
      · show cmpI 2 (scN (mkP c0 (nvF a b i 4 x y z) lx15_001 tx15_001_4) (.y 5005)) (scN (mkP c0 (nvF a b i 4 x y z) lx15_001 tx15_001_4) (nI 0)) = true
        rw [e5005]
        exact decide_eq_true (by show _ < (0 : Int); omega)
      cases hc
    · cases hu
  exact T.run hv (T.cmp hv E.y15_001_4) hw (no_in _ _) rfl E.r15_001_4
structure Ev15_010 : Prop where
  y15_010_0 : isY (compR tx15_010_0) = true
  r15_010_0 : isEnd (nI 30) (.y 112) (nI 0) [] (nI 0) (runR codY tx15_010_0 [] 2 1) = true
  y15_010_1 : isY (compR tx15_010_1) = true
  r15_010_1 : isEnd (nI 30) (.y 112) (nI 0) [] (nI 0) (runR codY tx15_010_1 [] 4 1) = true
  y15_010_2 : isY (compR tx15_010_2) = true
  r15_010_2 : isEnd (nI 30) (.y 112) (nI 0) [] (nI 0) (runR codY tx15_010_2 [] 6 1) = true
  y15_010_3 : isY (compR tx15_010_3) = true
  r15_010_3 : isEnd (nI 30) (.y 112) (nI 0) [] (nI 0) (runR codY tx15_010_3 [] 8 1) = true
  y15_010_4 : isY (compR tx15_010_4) = true
  r15_010_4 : isEnd (nI 30) (.y 112) (nI 0) [] (nI 0) (runR codY tx15_010_4 [] 10 1) = true
  y15_010_2_0 : isY (compR tx15_010_2_0) = true
  r15_010_2_0 : isEnd (nI 0) (nI 0) (.y 5008) [] (nI 0) (runR codY tx15_010_2_0 [] 6 1) = true
  y15_010_4_3 : isY (compR tx15_010_4_3) = true
  r15_010_4_3 : isEnd (nI 0) (nI 0) (.y 5008) [] (nI 0) (runR codY tx15_010_4_3 [] 10 1) = true
theorem w3q15_010 : w15_010 = w3s lx15_010 := by kernel_rfl
theorem spa15_010 : spA lx15_010 l15_010 cs15_010 = true := by kernel_rfl
theorem t15_010_0 (E : Ev15_010) {a b i : Int} (ha : Sn.I5 a) (hb : Sn.I5 b) (hi : Sn.I5 i) (sa : 0 ≤ a) (sb : b < 0) (si : 0 ≤ i) (n : Nat) (hn : n < 30) (x y z : Int) {w : World} (hw : Lw w) (sn : 0 ≤ i) : RunIs ⟨(flat (dgN (nvF a b i 0 x y z)) lx15_010).toArray⟩ (.slice none 0 0) 2 1 w 30 (plOf (toks (dgN (nvF a b i 0 x y z)) (nN (nvF a b i 0 x y z)) lx15_010 0) (flat (dgN (nvF a b i 0 x y z)) lx15_010).length 12) (0) [] 0 := by
  have hv : Nv (nvF a b i 0 x y z) := nv_ok ha hb hi (by omega)
  have hg : goodD (mkP c0 (nvF a b i 0 x y z) lx15_010 tx15_010_0).ds 0 = true := by kernel_rfl
  have e6 : scN (mkP c0 (nvF a b i 0 x y z) lx15_010 tx15_010_0) (.y 6) = i := (v_nv _ (by omega)).trans (NN_pos si)
  have T : Txt (nvF a b i 0 x y z) lx15_010 tx15_010_0 [(7, 0)] := by
    refine txt_c spa15_010 hg rfl w3q15_010 rfl (cv7 rfl) (fun c hc => ?_) (fun u hu => ?_)
    · rcases List.mem_cons.1 hc with rfl | hc
      · show cmpI 2 (scN (mkP c0 (nvF a b i 0 x y z) lx15_010 tx15_010_0) (.y 6)) (scN (mkP c0 (nvF a b i 0 x y z) lx15_010 tx15_010_0) (nI 0)) = false
        rw [e6]
        exact decide_eq_false (by show ¬ _ < (0 : Int); omega)
      rcases List.mem_cons.1 hc with rfl | hc
      · show cmpI 5 (scN (mkP c0 (nvF a b i 0 x y z) lx15_010 tx15_010_0) (.y 6)) (scN (mkP c0 (nvF a b i 0 x y z) lx15_010 tx15_010_0) (nI 0)) = true
        rw [e6]
        exact decide_eq_true (by show ((0 : Nat) : Int) ≤ _; omega)
      cases hc
    · cases hu
  exact T.run hv (T.cmp hv E.y15_010_0) hw (no_in _ _) rfl E.r15_010_0
theorem t15_010_1 (E : Ev15_010) {a b i : Int} (ha : Sn.I5 a) (hb : Sn.I5 b) (hi : Sn.I5 i) (sa : 0 ≤ a) (sb : b < 0) (si : 0 ≤ i) (n : Nat) (hn : n < 30) (x y z : Int) {w : World} (hw : Lw w) (sn : 1 ≤ i) : RunIs ⟨(flat (dgN (nvF a b i 1 x y z)) lx15_010).toArray⟩ (.slice none 0 0) 4 1 w 30 (plOf (toks (dgN (nvF a b i 1 x y z)) (nN (nvF a b i 1 x y z)) lx15_010 0) (flat (dgN (nvF a b i 1 x y z)) lx15_010).length 12) (0) [] 0 := by
  have hv : Nv (nvF a b i 1 x y z) := nv_ok ha hb hi (by omega)
  have hg : goodD (mkP c0 (nvF a b i 1 x y z) lx15_010 tx15_010_1).ds 0 = true := by kernel_rfl
  have e6 : scN (mkP c0 (nvF a b i 1 x y z) lx15_010 tx15_010_1) (.y 6) = i := (v_nv _ (by omega)).trans (NN_pos si)
  have T : Txt (nvF a b i 1 x y z) lx15_010 tx15_010_1 [(7, 1)] := by
    refine txt_c spa15_010 hg rfl w3q15_010 rfl (cv7 rfl) (fun c hc => ?_) (fun u hu => ?_)
    · rcases List.mem_cons.1 hc with rfl | hc
      · show cmpI 2 (scN (mkP c0 (nvF a b i 1 x y z) lx15_010 tx15_010_1) (.y 6)) (scN (mkP c0 (nvF a b i 1 x y z) lx15_010 tx15_010_1) (nI 0)) = false
        rw [e6]
        exact decide_eq_false (by show ¬ _ < (0 : Int); omega)
      rcases List.mem_cons.1 hc with rfl | hc
      · show cmpI 5 (scN (mkP c0 (nvF a b i 1 x y z) lx15_010 tx15_010_1) (.y 6)) (scN (mkP c0 (nvF a b i 1 x y z) lx15_010 tx15_010_1) (nI 1)) = true
        rw [e6]
        exact decide_eq_true (by show ((1 : Nat) : Int) ≤ _; omega)
      cases hc
    · cases hu
  exact T.run hv (T.cmp hv E.y15_010_1) hw (no_in _ _) rfl E.r15_010_1
theorem t15_010_2 (E : Ev15_010) {a b i : Int} (ha : Sn.I5 a) (hb : Sn.I5 b) (hi : Sn.I5 i) (sa : 0 ≤ a) (sb : b < 0) (si : 0 ≤ i) (n : Nat) (hn : n < 30) (x y z : Int) {w : World} (hw : Lw w) (sn : 2 ≤ i) : RunIs ⟨(flat (dgN (nvF a b i 2 x y z)) lx15_010).toArray⟩ (.slice none 0 0) 6 1 w 30 (plOf (toks (dgN (nvF a b i 2 x y z)) (nN (nvF a b i 2 x y z)) lx15_010 0) (flat (dgN (nvF a b i 2 x y z)) lx15_010).length 12) (0) [] 0 := by
  have hv : Nv (nvF a b i 2 x y z) := nv_ok ha hb hi (by omega)
  have hg : goodD (mkP c0 (nvF a b i 2 x y z) lx15_010 tx15_010_2).ds 0 = true := by kernel_rfl
  have e6 : scN (mkP c0 (nvF a b i 2 x y z) lx15_010 tx15_010_2) (.y 6) = i := (v_nv _ (by omega)).trans (NN_pos si)
  have T : Txt (nvF a b i 2 x y z) lx15_010 tx15_010_2 [(7, 2)] := by
    refine txt_c spa15_010 hg rfl w3q15_010 rfl (cv7 rfl) (fun c hc => ?_) (fun u hu => ?_)
    · rcases List.mem_cons.1 hc with rfl | hc
      · show cmpI 2 (scN (mkP c0 (nvF a b i 2 x y z) lx15_010 tx15_010_2) (.y 6)) (scN (mkP c0 (nvF a b i 2 x y z) lx15_010 tx15_010_2) (nI 0)) = false
        rw [e6]
        exact decide_eq_false (by show ¬ _ < (0 : Int); omega)
      rcases List.mem_cons.1 hc with rfl | hc
      · show cmpI 5 (scN (mkP c0 (nvF a b i 2 x y z) lx15_010 tx15_010_2) (.y 6)) (scN (mkP c0 (nvF a b i 2 x y z) lx15_010 tx15_010_2) (nI 2)) = true
        rw [e6]
        exact decide_eq_true (by show ((2 : Nat) : Int) ≤ _; omega)
      cases hc
    · cases hu
  exact T.run hv (T.cmp hv E.y15_010_2) hw (no_in _ _) rfl E.r15_010_2
theorem t15_010_3 (E : Ev15_010) {a b i : Int} (ha : Sn.I5 a) (hb : Sn.I5 b) (hi : Sn.I5 i) (sa : 0 ≤ a) (sb : b < 0) (si : 0 ≤ i) (n : Nat) (hn : n < 30) (x y z : Int) {w : World} (hw : Lw w) (sn : 3 ≤ i) : RunIs ⟨(flat (dgN (nvF a b i 3 x y z)) lx15_010).toArray⟩ (.slice none 0 0) 8 1 w 30 (plOf (toks (dgN (nvF a b i 3 x y z)) (nN (nvF a b i 3 x y z)) lx15_010 0) (flat (dgN (nvF a b i 3 x y z)) lx15_010).length 12) (0) [] 0 := by
  have hv : Nv (nvF a b i 3 x y z) := nv_ok ha hb hi (by omega)
  have hg : goodD (mkP c0 (nvF a b i 3 x y z) lx15_010 tx15_010_3).ds 0 = true := by kernel_rfl
  have e6 : scN (mkP c0 (nvF a b i 3 x y z) lx15_010 tx15_010_3) (.y 6) = i := (v_nv _ (by omega)).trans (NN_pos si)
  have T : Txt (nvF a b i 3 x y z) lx15_010 tx15_010_3 [(7, 3)] := by
    refine txt_c spa15_010 hg rfl w3q15_010 rfl (cv7 rfl) (fun c hc => ?_) (fun u hu => ?_)
    · rcases List.mem_cons.1 hc with rfl | hc
      · show cmpI 2 (scN (mkP c0 (nvF a b i 3 x y z) lx15_010 tx15_010_3) (.y 6)) (scN (mkP c0 (nvF a b i 3 x y z) lx15_010 tx15_010_3) (nI 0)) = false
        rw [e6]
        exact decide_eq_false (by show ¬ _ < (0 : Int); omega)
      rcases List.mem_cons.1 hc with rfl | hc
      · show cmpI 5 (scN (mkP c0 (nvF a b i 3 x y z) lx15_010 tx15_010_3) (.y 6)) (scN (mkP c0 (nvF a b i 3 x y z) lx15_010 tx15_010_3) (nI 3)) = true
        rw [e6]
        exact decide_eq_true (by show ((3 : Nat) : Int) ≤ _; omega)
      cases hc
    · cases hu
  exact T.run hv (T.cmp hv E.y15_010_3) hw (no_in _ _) rfl E.r15_010_3
theorem t15_010_4 (E : Ev15_010) {a b i : Int} (ha : Sn.I5 a) (hb : Sn.I5 b) (hi : Sn.I5 i) (sa : 0 ≤ a) (sb : b < 0) (si : 0 ≤ i) (n : Nat) (hn : n < 30) (x y z : Int) {w : World} (hw : Lw w) (sn : 4 ≤ i) : RunIs ⟨(flat (dgN (nvF a b i 4 x y z)) lx15_010).toArray⟩ (.slice none 0 0) 10 1 w 30 (plOf (toks (dgN (nvF a b i 4 x y z)) (nN (nvF a b i 4 x y z)) lx15_010 0) (flat (dgN (nvF a b i 4 x y z)) lx15_010).length 12) (0) [] 0 := by
  have hv : Nv (nvF a b i 4 x y z) := nv_ok ha hb hi (by omega)
  have hg : goodD (mkP c0 (nvF a b i 4 x y z) lx15_010 tx15_010_4).ds 0 = true := by kernel_rfl
  have e6 : scN (mkP c0 (nvF a b i 4 x y z) lx15_010 tx15_010_4) (.y 6) = i := (v_nv _ (by omega)).trans (NN_pos si)
  have T : Txt (nvF a b i 4 x y z) lx15_010 tx15_010_4 [(7, 4)] := by
    refine txt_c spa15_010 hg rfl w3q15_010 rfl (cv7 rfl) (fun c hc => ?_) (fun u hu => ?_)
    · rcases List.mem_cons.1 hc with rfl | hc
      · show cmpI 2 (scN (mkP c0 (nvF a b i 4 x y z) lx15_010 tx15_010_4) (.y 6)) (scN (mkP c0 (nvF a b i 4 x y z) lx15_010 tx15_010_4) (nI 0)) = false
        rw [e6]
        exact decide_eq_false (by show ¬ _ < (0 : Int); omega)
      rcases List.mem_cons.1 hc with rfl | hc
      · show cmpI 5 (scN (mkP c0 (nvF a b i 4 x y z) lx15_010 tx15_010_4) (.y 6)) (scN (mkP c0 (nvF a b i 4 x y z) lx15_010 tx15_010_4) (nI 4)) = true
        rw [e6]
        exact decide_eq_true (by show ((4 : Nat) : Int) ≤ _; omega)
      cases hc
    · cases hu
  exact T.run hv (T.cmp hv E.y15_010_4) hw (no_in _ _) rfl E.r15_010_4
theorem t15_010_2_0 (E : Ev15_010) {a b i : Int} (ha : Sn.I5 a) (hb : Sn.I5 b) (hi : Sn.I5 i) (sa : 0 ≤ a) (sb : b < 0) (n : Nat) (hn : n < 30) (x y z : Int) {w : World} (hw : Lw w) : RunIs ⟨(flat (dgN (nvF a b (0) 2 x y z)) lx15_010).toArray⟩ (.slice none 0 0) 6 1 w 0 0 (Sn.wv (a - b)) [] 0 := by
  have hv : Nv (nvF a b (0) 2 x y z) := nv_ok ha hb (by omega) (by omega)
  have hg : goodD (mkP c0 (nvF a b (0) 2 x y z) lx15_010 tx15_010_2_0).ds 0 = true := by kernel_rfl
  have e4 : scN (mkP c0 (nvF a b (0) 2 x y z) lx15_010 tx15_010_2_0) (.y 4) = a := (v_nv _ (by omega)).trans (NN_pos sa)
  have e5 : scN (mkP c0 (nvF a b (0) 2 x y z) lx15_010 tx15_010_2_0) (.y 5) = NN b := v_nv _ (by omega)
  have e5005 : scN (mkP c0 (nvF a b (0) 2 x y z) lx15_010 tx15_010_2_0) (.y 5005) = b := v_sgn (k0 := 0) (k1 := 1) (k2 := 2) (k3 := 3) (k4 := 4) (k5 := 5) hg rfl rfl rfl rfl rfl rfl sb hb e5
  have e5008 : scN (mkP c0 (nvF a b (0) 2 x y z) lx15_010 tx15_010_2_0) (.y 5008) = Sn.wv (a - b) := by have h := v_op (p := mkP c0 (nvF a b (0) 2 x y z) lx15_010 tx15_010_2_0) (c := 1) (x := .y 4) (y := .y 5005) (k := 6) (i := 7) (j := 8) (by omega) hg rfl rfl rfl; rw [e4, e5005] at h; exact h
  have T : Txt (nvF a b (0) 2 x y z) lx15_010 tx15_010_2_0 [(7, 2), (6, 0)] := by
    refine txt_c (by kernel_rfl) hg rfl w3q15_010 rfl (cv76 rfl rfl) (fun c hc => ?_) (fun u hu => ?_)
    · cases hc
    · rw [List.mem_singleton.1 hu]
      show Sn.I5 (scN (mkP c0 (nvF a b (0) 2 x y z) lx15_010 tx15_010_2_0) (.y 5008))
      rw [e5008]
      exact wv_in _
  have h : RunIs ⟨(flat (dgN (nvF a b (0) 2 x y z)) lx15_010).toArray⟩ (.slice none 0 0) 6 1 w 0 0 (scN (mkP c0 (nvF a b (0) 2 x y z) lx15_010 tx15_010_2_0) (.y 5008)) [] 0 := T.run hv (T.cmp hv E.y15_010_2_0) hw (no_in _ _) rfl E.r15_010_2_0
  rw [e5008] at h
  exact h
theorem t15_010_4_3 (E : Ev15_010) {a b i : Int} (ha : Sn.I5 a) (hb : Sn.I5 b) (hi : Sn.I5 i) (sa : 0 ≤ a) (sb : b < 0) (n : Nat) (hn : n < 30) (x y z : Int) {w : World} (hw : Lw w) : RunIs ⟨(flat (dgN (nvF a b (3) 4 x y z)) lx15_010).toArray⟩ (.slice none 0 0) 10 1 w 0 0 (Sn.wv (a - b)) [] 0 := by
  have hv : Nv (nvF a b (3) 4 x y z) := nv_ok ha hb (by omega) (by omega)
  have hg : goodD (mkP c0 (nvF a b (3) 4 x y z) lx15_010 tx15_010_4_3).ds 0 = true := by kernel_rfl
  have e4 : scN (mkP c0 (nvF a b (3) 4 x y z) lx15_010 tx15_010_4_3) (.y 4) = a := (v_nv _ (by omega)).trans (NN_pos sa)
  have e5 : scN (mkP c0 (nvF a b (3) 4 x y z) lx15_010 tx15_010_4_3) (.y 5) = NN b := v_nv _ (by omega)
  have e5005 : scN (mkP c0 (nvF a b (3) 4 x y z) lx15_010 tx15_010_4_3) (.y 5005) = b := v_sgn (k0 := 0) (k1 := 1) (k2 := 2) (k3 := 3) (k4 := 4) (k5 := 5) hg rfl rfl rfl rfl rfl rfl sb hb e5
  have e5008 : scN (mkP c0 (nvF a b (3) 4 x y z) lx15_010 tx15_010_4_3) (.y 5008) = Sn.wv (a - b) := by have h := v_op (p := mkP c0 (nvF a b (3) 4 x y z) lx15_010 tx15_010_4_3) (c := 1) (x := .y 4) (y := .y 5005) (k := 6) (i := 7) (j := 8) (by omega) hg rfl rfl rfl; rw [e4, e5005] at h; exact h
  have T : Txt (nvF a b (3) 4 x y z) lx15_010 tx15_010_4_3 [(7, 4), (6, 3)] := by
    refine txt_c (by kernel_rfl) hg rfl w3q15_010 rfl (cv76 rfl rfl) (fun c hc => ?_) (fun u hu => ?_)
    · cases hc
    · rw [List.mem_singleton.1 hu]
      show Sn.I5 (scN (mkP c0 (nvF a b (3) 4 x y z) lx15_010 tx15_010_4_3) (.y 5008))
      rw [e5008]
      exact wv_in _
  have h : RunIs ⟨(flat (dgN (nvF a b (3) 4 x y z)) lx15_010).toArray⟩ (.slice none 0 0) 10 1 w 0 0 (scN (mkP c0 (nvF a b (3) 4 x y z) lx15_010 tx15_010_4_3) (.y 5008)) [] 0 := T.run hv (T.cmp hv E.y15_010_4_3) hw (no_in _ _) rfl E.r15_010_4_3
  rw [e5008] at h
  exact h
structure Ev15_011 : Prop where
  y15_011_0 : isY (compR tx15_011_0) = true
  r15_011_0 : isEnd (nI 30) (.y 117) (nI 0) [] (nI 0) (runR codY tx15_011_0 [] 2 1) = true
  y15_011_1 : isY (compR tx15_011_1) = true
  r15_011_1 : isEnd (nI 30) (.y 117) (nI 0) [] (nI 0) (runR codY tx15_011_1 [] 4 1) = true
  y15_011_2 : isY (compR tx15_011_2) = true
  r15_011_2 : isEnd (nI 30) (.y 117) (nI 0) [] (nI 0) (runR codY tx15_011_2 [] 6 1) = true
  y15_011_3 : isY (compR tx15_011_3) = true
  r15_011_3 : isEnd (nI 30) (.y 117) (nI 0) [] (nI 0) (runR codY tx15_011_3 [] 8 1) = true
  y15_011_4 : isY (compR tx15_011_4) = true
  r15_011_4 : isEnd (nI 30) (.y 117) (nI 0) [] (nI 0) (runR codY tx15_011_4 [] 10 1) = true
theorem w3q15_011 : w15_011 = w3s lx15_011 := by kernel_rfl
theorem spa15_011 : spA lx15_011 l15_011 cs15_011 = true := by kernel_rfl
theorem t15_011_0 (E : Ev15_011) {a b i : Int} (ha : Sn.I5 a) (hb : Sn.I5 b) (hi : Sn.I5 i) (sa : 0 ≤ a) (sb : b < 0) (si : i < 0) (n : Nat) (hn : n < 30) (x y z : Int) {w : World} (hw : Lw w) : RunIs ⟨(flat (dgN (nvF a b i 0 x y z)) lx15_011).toArray⟩ (.slice none 0 0) 2 1 w 30 (plOf (toks (dgN (nvF a b i 0 x y z)) (nN (nvF a b i 0 x y z)) lx15_011 0) (flat (dgN (nvF a b i 0 x y z)) lx15_011).length 17) (0) [] 0 := by
  have hv : Nv (nvF a b i 0 x y z) := nv_ok ha hb hi (by omega)
  have hg : goodD (mkP c0 (nvF a b i 0 x y z) lx15_011 tx15_011_0).ds 0 = true := by kernel_rfl
  have e6 : scN (mkP c0 (nvF a b i 0 x y z) lx15_011 tx15_011_0) (.y 6) = NN i := v_nv _ (by omega)
  have e5005 : scN (mkP c0 (nvF a b i 0 x y z) lx15_011 tx15_011_0) (.y 5005) = i := v_sgn (k0 := 0) (k1 := 1) (k2 := 2) (k3 := 3) (k4 := 4) (k5 := 5) hg rfl rfl rfl rfl rfl rfl si hi e6
  have T : Txt (nvF a b i 0 x y z) lx15_011 tx15_011_0 [(7, 0)] := by
    refine txt_c spa15_011 hg rfl w3q15_011 rfl (cv7 rfl) (fun c hc => ?_) (fun u hu => ?_)
    · rcases List.mem_cons.1 hc with rfl | hc
      · show cmpI 2 (scN (mkP c0 (nvF a b i 0 x y z) lx15_011 tx15_011_0) (.y 5005)) (scN (mkP c0 (nvF a b i 0 x y z) lx15_011 tx15_011_0) (nI 0)) = true
        rw [e5005]
        exact decide_eq_true (by show _ < (0 : Int); omega)
      cases hc
    · cases hu
  exact T.run hv (T.cmp hv E.y15_011_0) hw (no_in _ _) rfl E.r15_011_0
theorem t15_011_1 (E : Ev15_011) {a b i : Int} (ha : Sn.I5 a) (hb : Sn.I5 b) (hi : Sn.I5 i) (sa : 0 ≤ a) (sb : b < 0) (si : i < 0) (n : Nat) (hn : n < 30) (x y z : Int) {w : World} (hw : Lw w) : RunIs ⟨(flat (dgN (nvF a b i 1 x y z)) lx15_011).toArray⟩ (.slice none 0 0) 4 1 w 30 (plOf (toks (dgN (nvF a b i 1 x y z)) (nN (nvF a b i 1 x y z)) lx15_011 0) (flat (dgN (nvF a b i 1 x y z)) lx15_011).length 17) (0) [] 0 := by
  have hv : Nv (nvF a b i 1 x y z) := nv_ok ha hb hi (by omega)
  have hg : goodD (mkP c0 (nvF a b i 1 x y z) lx15_011 tx15_011_1).ds 0 = true := by kernel_rfl
  have e6 : scN (mkP c0 (nvF a b i 1 x y z) lx15_011 tx15_011_1) (.y 6) = NN i := v_nv _ (by omega)
  have e5005 : scN (mkP c0 (nvF a b i 1 x y z) lx15_011 tx15_011_1) (.y 5005) = i := v_sgn (k0 := 0) (k1 := 1) (k2 := 2) (k3 := 3) (k4 := 4) (k5 := 5) hg rfl rfl rfl rfl rfl rfl si hi e6
  have T : Txt (nvF a b i 1 x y z) lx15_011 tx15_011_1 [(7, 1)] := by
    refine txt_c spa15_011 hg rfl w3q15_011 rfl (cv7 rfl) (fun c hc => ?_) (fun u hu => ?_)
    · rcases List.mem_cons.1 hc with rfl | hc
      · show cmpI 2 (scN (mkP c0 (nvF a b i 1 x y z) lx15_011 tx15_011_1) (.y 5005)) (scN (mkP c0 (nvF a b i 1 x y z) lx15_011 tx15_011_1) (nI 0)) = true
        rw [e5005]
        exact decide_eq_true (by show _ < (0 : Int); omega)
      cases hc
    · cases hu
  exact T.run hv (T.cmp hv E.y15_011_1) hw (no_in _ _) rfl E.r15_011_1
theorem t15_011_2 (E : Ev15_011) {a b i : Int} (ha : Sn.I5 a) (hb : Sn.I5 b) (hi : Sn.I5 i) (sa : 0 ≤ a) (sb : b < 0) (si : i < 0) (n : Nat) (hn : n < 30) (x y z : Int) {w : World} (hw : Lw w) : RunIs ⟨(flat (dgN (nvF a b i 2 x y z)) lx15_011).toArray⟩ (.slice none 0 0) 6 1 w 30 (plOf (toks (dgN (nvF a b i 2 x y z)) (nN (nvF a b i 2 x y z)) lx15_011 0) (flat (dgN (nvF a b i 2 x y z)) lx15_011).length 17) (0) [] 0 := by
  have hv : Nv (nvF a b i 2 x y z) := nv_ok ha hb hi (by omega)
  have hg : goodD (mkP c0 (nvF a b i 2 x y z) lx15_011 tx15_011_2).ds 0 = true := by kernel_rfl
  have e6 : scN (mkP c0 (nvF a b i 2 x y z) lx15_011 tx15_011_2) (.y 6) = NN i := v_nv _ (by omega)
  have e5005 : scN (mkP c0 (nvF a b i 2 x y z) lx15_011 tx15_011_2) (.y 5005) = i := v_sgn (k0 := 0) (k1 := 1) (k2 := 2) (k3 := 3) (k4 := 4) (k5 := 5) hg rfl rfl rfl rfl rfl rfl si hi e6
  have T : Txt (nvF a b i 2 x y z) lx15_011 tx15_011_2 [(7, 2)] := by
    refine txt_c spa15_011 hg rfl w3q15_011 rfl (cv7 rfl) (fun c hc => ?_) (fun u hu => ?_)
    · rcases List.mem_cons.1 hc with rfl | hc
      · show cmpI 2 (scN (mkP c0 (nvF a b i 2 x y z) lx15_011 tx15_011_2) (.y 5005)) (scN (mkP c0 (nvF a b i 2 x y z) lx15_011 tx15_011_2) (nI 0)) = true
        rw [e5005]
        exact decide_eq_true (by show _ < (0 : Int); omega)
      cases hc
    · cases hu
  exact T.run hv (T.cmp hv E.y15_011_2) hw (no_in _ _) rfl E.r15_011_2
theorem t15_011_3 (E : Ev15_011) {a b i : Int} (ha : Sn.I5 a) (hb : Sn.I5 b) (hi : Sn.I5 i) (sa : 0 ≤ a) (sb : b < 0) (si : i < 0) (n : Nat) (hn : n < 30) (x y z : Int) {w : World} (hw : Lw w) : RunIs ⟨(flat (dgN (nvF a b i 3 x y z)) lx15_011).toArray⟩ (.slice none 0 0) 8 1 w 30 (plOf (toks (dgN (nvF a b i 3 x y z)) (nN (nvF a b i 3 x y z)) lx15_011 0) (flat (dgN (nvF a b i 3 x y z)) lx15_011).length 17) (0) [] 0 := by
  have hv : Nv (nvF a b i 3 x y z) := nv_ok ha hb hi (by omega)
  have hg : goodD (mkP c0 (nvF a b i 3 x y z) lx15_011 tx15_011_3).ds 0 = true := by kernel_rfl
  have e6 : scN (mkP c0 (nvF a b i 3 x y z) lx15_011 tx15_011_3) (.y 6) = NN i := v_nv _ (by omega)
  have e5005 : scN (mkP c0 (nvF a b i 3 x y z) lx15_011 tx15_011_3) (.y 5005) = i := v_sgn (k0 := 0) (k1 := 1) (k2 := 2) (k3 := 3) (k4 := 4) (k5 := 5) hg rfl rfl rfl rfl rfl rfl si hi e6
  have T : Txt (nvF a b i 3 x y z) lx15_011 tx15_011_3 [(7, 3)] := by
    refine txt_c spa15_011 hg rfl w3q15_011 rfl (cv7 rfl) (fun c hc => ?_) (fun u hu => ?_)
    · rcases List.mem_cons.1 hc with rfl | hc
      · show cmpI 2 (scN (mkP c0 (nvF a b i 3 x y z) lx15_011 tx15_011_3) (.y 5005)) (scN (mkP c0 (nvF a b i 3 x y z) lx15_011 tx15_011_3) (nI 0)) = true
        rw [e5005]
        exact decide_eq_true (by show _ < (0 : Int); omega)
      cases hc
    · cases hu
  exact T.run hv (T.cmp hv E.y15_011_3) hw (no_in _ _) rfl E.r15_011_3
theorem t15_011_4 (E : Ev15_011) {a b i : Int} (ha : Sn.I5 a) (hb : Sn.I5 b) (hi : Sn.I5 i) (sa : 0 ≤ a) (sb : b < 0) (si : i < 0) (n : Nat) (hn : n < 30) (x y z : Int) {w : World} (hw : Lw w) : RunIs ⟨(flat (dgN (nvF a b i 4 x y z)) lx15_011).toArray⟩ (.slice none 0 0) 10 1 w 30 (plOf (toks (dgN (nvF a b i 4 x y z)) (nN (nvF a b i 4 x y z)) lx15_011 0) (flat (dgN (nvF a b i 4 x y z)) lx15_011).length 17) (0) [] 0 := by
  have hv : Nv (nvF a b i 4 x y z) := nv_ok ha hb hi (by omega)
  have hg : goodD (mkP c0 (nvF a b i 4 x y z) lx15_011 tx15_011_4).ds 0 = true := by kernel_rfl
  have e6 : scN (mkP c0 (nvF a b i 4 x y z) lx15_011 tx15_011_4) (.y 6) = NN i := v_nv _ (by omega)
  have e5005 : scN (mkP c0 (nvF a b i 4 x y z) lx15_011 tx15_011_4) (.y 5005) = i := v_sgn (k0 := 0) (k1 := 1) (k2 := 2) (k3 := 3) (k4 := 4) (k5 := 5) hg rfl rfl rfl rfl rfl rfl si hi e6
  have T : Txt (nvF a b i 4 x y z) lx15_011 tx15_011_4 [(7, 4)] := by
    refine txt_c spa15_011 hg rfl w3q15_011 rfl (cv7 rfl) (fun c hc => ?_) (fun u hu => ?_)
    · rcases List.mem_cons.1 hc with rfl | hc
      · show cmpI 2 (scN (mkP c0 (nvF a b i 4 x y z) lx15_011 tx15_011_4) (.y 5005)) (scN (mkP c0 (nvF a b i 4 x y z) lx15_011 tx15_011_4) (nI 0)) = true
        rw [e5005]
        exact decide_eq_true (by show _ < (0 : Int); omega)
      cases hc
    · cases hu
  exact T.run hv (T.cmp hv E.y15_011_4) hw (no_in _ _) rfl E.r15_011_4
structure Ev15_100 : Prop where
  y15_100_0 : isY (compR tx15_100_0) = true
  r15_100_0 : isEnd (nI 30) (.y 117) (nI 0) [] (nI 0) (runR codY tx15_100_0 [] 2 1) = true
  y15_100_1 : isY (compR tx15_100_1) = true
  r15_100_1 : isEnd (nI 30) (.y 117) (nI 0) [] (nI 0) (runR codY tx15_100_1 [] 4 1) = true
  y15_100_2 : isY (compR tx15_100_2) = true
  r15_100_2 : isEnd (nI 30) (.y 117) (nI 0) [] (nI 0) (runR codY tx15_100_2 [] 6 1) = true
  y15_100_3 : isY (compR tx15_100_3) = true
  r15_100_3 : isEnd (nI 30) (.y 117) (nI 0) [] (nI 0) (runR codY tx15_100_3 [] 8 1) = true
  y15_100_4 : isY (compR tx15_100_4) = true
  r15_100_4 : isEnd (nI 30) (.y 117) (nI 0) [] (nI 0) (runR codY tx15_100_4 [] 10 1) = true
  y15_100_2_0 : isY (compR tx15_100_2_0) = true
  r15_100_2_0 : isEnd (nI 0) (nI 0) (.y 5008) [] (nI 0) (runR codY tx15_100_2_0 [] 6 1) = true
  y15_100_4_3 : isY (compR tx15_100_4_3) = true
  r15_100_4_3 : isEnd (nI 0) (nI 0) (.y 5008) [] (nI 0) (runR codY tx15_100_4_3 [] 10 1) = true
theorem w3q15_100 : w15_100 = w3s lx15_100 := by kernel_rfl
theorem spa15_100 : spA lx15_100 l15_100 cs15_100 = true := by kernel_rfl
theorem t15_100_0 (E : Ev15_100) {a b i : Int} (ha : Sn.I5 a) (hb : Sn.I5 b) (hi : Sn.I5 i) (sa : a < 0) (sb : 0 ≤ b) (si : 0 ≤ i) (n : Nat) (hn : n < 30) (x y z : Int) {w : World} (hw : Lw w) (sn : 0 ≤ i) : RunIs ⟨(flat (dgN (nvF a b i 0 x y z)) lx15_100).toArray⟩ (.slice none 0 0) 2 1 w 30 (plOf (toks (dgN (nvF a b i 0 x y z)) (nN (nvF a b i 0 x y z)) lx15_100 0) (flat (dgN (nvF a b i 0 x y z)) lx15_100).length 17) (0) [] 0 := by
  have hv : Nv (nvF a b i 0 x y z) := nv_ok ha hb hi (by omega)
  have hg : goodD (mkP c0 (nvF a b i 0 x y z) lx15_100 tx15_100_0).ds 0 = true := by kernel_rfl
  have e6 : scN (mkP c0 (nvF a b i 0 x y z) lx15_100 tx15_100_0) (.y 6) = i := (v_nv _ (by omega)).trans (NN_pos si)
  have T : Txt (nvF a b i 0 x y z) lx15_100 tx15_100_0 [(7, 0)] := by
    refine txt_c spa15_100 hg rfl w3q15_100 rfl (cv7 rfl) (fun c hc => ?_) (fun u hu => ?_)
    · rcases List.mem_cons.1 hc with rfl | hc
      · show cmpI 2 (scN (mkP c0 (nvF a b i 0 x y z) lx15_100 tx15_100_0) (.y 6)) (scN (mkP c0 (nvF a b i 0 x y z) lx15_100 tx15_100_0) (nI 0)) = false
        rw [e6]
        exact decide_eq_false (by show ¬ _ < (0 : Int); omega)
      rcases List.mem_cons.1 hc with rfl | hc
      · show cmpI 5 (scN (mkP c0 (nvF a b i 0 x y z) lx15_100 tx15_100_0) (.y 6)) (scN (mkP c0 (nvF a b i 0 x y z) lx15_100 tx15_100_0) (nI 0)) = true
        rw [e6]
        exact decide_eq_true (by show ((0 : Nat) : Int) ≤ _; omega)
      cases hc
    · cases hu
  exact T.run hv (T.cmp hv E.y15_100_0) hw (no_in _ _) rfl E.r15_100_0
theorem t15_100_1 (E : Ev15_100) {a b i : Int} (ha : Sn.I5 a) (hb : Sn.I5 b) (hi : Sn.I5 i) (sa : a < 0) (sb : 0 ≤ b) (si : 0 ≤ i) (n : Nat) (hn : n < 30) (x y z : Int) {w : World} (hw : Lw w) (sn : 1 ≤ i) : RunIs ⟨(flat (dgN (nvF a b i 1 x y z)) lx15_100).toArray⟩ (.slice none 0 0) 4 1 w 30 (plOf (toks (dgN (nvF a b i 1 x y z)) (nN (nvF a b i 1 x y z)) lx15_100 0) (flat (dgN (nvF a b i 1 x y z)) lx15_100).length 17) (0) [] 0 := by
  have hv : Nv (nvF a b i 1 x y z) := nv_ok ha hb hi (by omega)
  have hg : goodD (mkP c0 (nvF a b i 1 x y z) lx15_100 tx15_100_1).ds 0 = true := by kernel_rfl
  have e6 : scN (mkP c0 (nvF a b i 1 x y z) lx15_100 tx15_100_1) (.y 6) = i := (v_nv _ (by omega)).trans (NN_pos si)
  have T : Txt (nvF a b i 1 x y z) lx15_100 tx15_100_1 [(7, 1)] := by
    refine txt_c spa15_100 hg rfl w3q15_100 rfl (cv7 rfl) (fun c hc => ?_) (fun u hu => ?_)
    · rcases List.mem_cons.1 hc with rfl | hc
      · show cmpI 2 (scN (mkP c0 (nvF a b i 1 x y z) lx15_100 tx15_100_1) (.y 6)) (scN (mkP c0 (nvF a b i 1 x y z) lx15_100 tx15_100_1) (nI 0)) = false
        rw [e6]
        exact decide_eq_false (by show ¬ _ < (0 : Int); omega)
      rcases List.mem_cons.1 hc with rfl | hc
      · show cmpI 5 (scN (mkP c0 (nvF a b i 1 x y z) lx15_100 tx15_100_1) (.y 6)) (scN (mkP c0 (nvF a b i 1 x y z) lx15_100 tx15_100_1) (nI 1)) = true
        rw [e6]
        exact decide_eq_true (by show ((1 : Nat) : Int) ≤ _; omega)
      cases hc
    · cases hu
  exact T.run hv (T.cmp hv E.y15_100_1) hw (no_in _ _) rfl E.r15_100_1
theorem t15_100_2 (E : Ev15_100) {a b i : Int} (ha : Sn.I5 a) (hb : Sn.I5 b) (hi : Sn.I5 i) (sa : a < 0) (sb : 0 ≤ b) (si : 0 ≤ i) (n : Nat) (hn : n < 30) (x y z : Int) {w : World} (hw : Lw w) (sn : 2 ≤ i) : RunIs ⟨(flat (dgN (nvF a b i 2 x y z)) lx15_100).toArray⟩ (.slice none 0 0) 6 1 w 30 (plOf (toks (dgN (nvF a b i 2 x y z)) (nN (nvF a b i 2 x y z)) lx15_100 0) (flat (dgN (nvF a b i 2 x y z)) lx15_100).length 17) (0) [] 0 := by
  have hv : Nv (nvF a b i 2 x y z) := nv_ok ha hb hi (by omega)
  have hg : goodD (mkP c0 (nvF a b i 2 x y z) lx15_100 tx15_100_2).ds 0 = true := by kernel_rfl
  have e6 : scN (mkP c0 (nvF a b i 2 x y z) lx15_100 tx15_100_2) (.y 6) = i := (v_nv _ (by omega)).trans (NN_pos si)
  have T : Txt (nvF a b i 2 x y z) lx15_100 tx15_100_2 [(7, 2)] := by
    refine txt_c spa15_100 hg rfl w3q15_100 rfl (cv7 rfl) (fun c hc => ?_) (fun u hu => ?_)
    · rcases List.mem_cons.1 hc with rfl | hc
      · show cmpI 2 (scN (mkP c0 (nvF a b i 2 x y z) lx15_100 tx15_100_2) (.y 6)) (scN (mkP c0 (nvF a b i 2 x y z) lx15_100 tx15_100_2) (nI 0)) = false
        rw [e6]
        exact decide_eq_false (by show ¬ _ < (0 : Int); omega)
      rcases List.mem_cons.1 hc with rfl | hc
      · show cmpI 5 (scN (mkP c0 (nvF a b i 2 x y z) lx15_100 tx15_100_2) (.y 6)) (scN (mkP c0 (nvF a b i 2 x y z) lx15_100 tx15_100_2) (nI 2)) = true
        rw [e6]
        exact decide_eq_true (by show ((2 : Nat) : Int) ≤ _; omega)
      cases hc
    · cases hu
  exact T.run hv (T.cmp hv E.y15_100_2) hw (no_in _ _) rfl E.r15_100_2
theorem t15_100_3 (E : Ev15_100) {a b i : Int} (ha : Sn.I5 a) (hb : Sn.I5 b) (hi : Sn.I5 i) (sa : a < 0) (sb : 0 ≤ b) (si : 0 ≤ i) (n : Nat) (hn : n < 30) (x y z : Int) {w : World} (hw : Lw w) (sn : 3 ≤ i) : RunIs ⟨(flat (dgN (nvF a b i 3 x y z)) lx15_100).toArray⟩ (.slice none 0 0) 8 1 w 30 (plOf (toks (dgN (nvF a b i 3 x y z)) (nN (nvF a b i 3 x y z)) lx15_100 0) (flat (dgN (nvF a b i 3 x y z)) lx15_100).length 17) (0) [] 0 := by
  have hv : Nv (nvF a b i 3 x y z) := nv_ok ha hb hi (by omega)
  have hg : goodD (mkP c0 (nvF a b i 3 x y z) lx15_100 tx15_100_3).ds 0 = true := by kernel_rfl
  have e6 : scN (mkP c0 (nvF a b i 3 x y z) lx15_100 tx15_100_3) (.y 6) = i := (v_nv _ (by omega)).trans (NN_pos si)
  have T : Txt (nvF a b i 3 x y z) lx15_100 tx15_100_3 [(7, 3)] := by
    refine txt_c spa15_100 hg rfl w3q15_100 rfl (cv7 rfl) (fun c hc => ?_) (fun u hu => ?_)
    · rcases List.mem_cons.1 hc with rfl | hc
      · show cmpI 2 (scN (mkP c0 (nvF a b i 3 x y z) lx15_100 tx15_100_3) (.y 6)) (scN (mkP c0 (nvF a b i 3 x y z) lx15_100 tx15_100_3) (nI 0)) = false
        rw [e6]
        exact decide_eq_false (by show ¬ _ < (0 : Int); omega)
      rcases List.mem_cons.1 hc with rfl | hc
      · show cmpI 5 (scN (mkP c0 (nvF a b i 3 x y z) lx15_100 tx15_100_3) (.y 6)) (scN (mkP c0 (nvF a b i 3 x y z) lx15_100 tx15_100_3) (nI 3)) = true
        rw [e6]
        exact decide_eq_true (by show ((3 : Nat) : Int) ≤ _; omega)
      cases hc
    · cases hu
  exact T.run hv (T.cmp hv E.y15_100_3) hw (no_in _ _) rfl E.r15_100_3
theorem t15_100_4 (E : Ev15_100) {a b i : Int} (ha : Sn.I5 a) (hb : Sn.I5 b) (hi : Sn.I5 i) (sa : a < 0) (sb : 0 ≤ b) (si : 0 ≤ i) (n : Nat) (hn : n < 30) (x y z : Int) {w : World} (hw : Lw w) (sn : 4 ≤ i) : RunIs ⟨(flat (dgN (nvF a b i 4 x y z)) lx15_100).toArray⟩ (.slice none 0 0) 10 1 w 30 (plOf (toks (dgN (nvF a b i 4 x y z)) (nN (nvF a b i 4 x y z)) lx15_100 0) (flat (dgN (nvF a b i 4 x y z)) lx15_100).length 17) (0) [] 0 := by
  have hv : Nv (nvF a b i 4 x y z) := nv_ok ha hb hi (by omega)
  have hg : goodD (mkP c0 (nvF a b i 4 x y z) lx15_100 tx15_100_4).ds 0 = true := by kernel_rfl
  have e6 : scN (mkP c0 (nvF a b i 4 x y z) lx15_100 tx15_100_4) (.y 6) = i := (v_nv _ (by omega)).trans (NN_pos si)
  have T : Txt (nvF a b i 4 x y z) lx15_100 tx15_100_4 [(7, 4)] := by
    refine txt_c spa15_100 hg rfl w3q15_100 rfl (cv7 rfl) (fun c hc => ?_) (fun u hu => ?_)
    · rcases List.mem_cons.1 hc with rfl | hc
      · show cmpI 2 (scN (mkP c0 (nvF a b i 4 x y z) lx15_100 tx15_100_4) (.y 6)) (scN (mkP c0 (nvF a b i 4 x y z) lx15_100 tx15_100_4) (nI 0)) = false
        rw [e6]
        exact decide_eq_false (by show ¬ _ < (0 : Int); omega)
      rcases List.mem_cons.1 hc with rfl | hc
      · show cmpI 5 (scN (mkP c0 (nvF a b i 4 x y z) lx15_100 tx15_100_4) (.y 6)) (scN (mkP c0 (nvF a b i 4 x y z) lx15_100 tx15_100_4) (nI 4)) = true
        rw [e6]
        exact decide_eq_true (by show ((4 : Nat) : Int) ≤ _; omega)
      cases hc
    · cases hu
  exact T.run hv (T.cmp hv E.y15_100_4) hw (no_in _ _) rfl E.r15_100_4
theorem t15_100_2_0 (E : Ev15_100) {a b i : Int} (ha : Sn.I5 a) (hb : Sn.I5 b) (hi : Sn.I5 i) (sa : a < 0) (sb : 0 ≤ b) (n : Nat) (hn : n < 30) (x y z : Int) {w : World} (hw : Lw w) : RunIs ⟨(flat (dgN (nvF a b (0) 2 x y z)) lx15_100).toArray⟩ (.slice none 0 0) 6 1 w 0 0 (Sn.wv (a - b)) [] 0 := by
  have hv : Nv (nvF a b (0) 2 x y z) := nv_ok ha hb (by omega) (by omega)
  have hg : goodD (mkP c0 (nvF a b (0) 2 x y z) lx15_100 tx15_100_2_0).ds 0 = true := by kernel_rfl
  have e4 : scN (mkP c0 (nvF a b (0) 2 x y z) lx15_100 tx15_100_2_0) (.y 4) = NN a := v_nv _ (by omega)
  have e5 : scN (mkP c0 (nvF a b (0) 2 x y z) lx15_100 tx15_100_2_0) (.y 5) = b := (v_nv _ (by omega)).trans (NN_pos sb)
  have e5005 : scN (mkP c0 (nvF a b (0) 2 x y z) lx15_100 tx15_100_2_0) (.y 5005) = a := v_sgn (k0 := 0) (k1 := 1) (k2 := 2) (k3 := 3) (k4 := 4) (k5 := 5) hg rfl rfl rfl rfl rfl rfl sa ha e4
  have e5008 : scN (mkP c0 (nvF a b (0) 2 x y z) lx15_100 tx15_100_2_0) (.y 5008) = Sn.wv (a - b) := by have h := v_op (p := mkP c0 (nvF a b (0) 2 x y z) lx15_100 tx15_100_2_0) (c := 1) (x := .y 5005) (y := .y 5) (k := 6) (i := 7) (j := 8) (by omega) hg rfl rfl rfl; rw [e5005, e5] at h; exact h
  have T : Txt (nvF a b (0) 2 x y z) lx15_100 tx15_100_2_0 [(7, 2), (6, 0)] := by
    refine txt_c (by kernel_rfl) hg rfl w3q15_100 rfl (cv76 rfl rfl) (fun c hc => ?_) (fun u hu => ?_)
    · cases hc
    · rw [List.mem_singleton.1 hu]
      show Sn.I5 (scN (mkP c0 (nvF a b (0) 2 x y z) lx15_100 tx15_100_2_0) (.y 5008))
      rw [e5008]
      exact wv_in _
  have h : RunIs ⟨(flat (dgN (nvF a b (0) 2 x y z)) lx15_100).toArray⟩ (.slice none 0 0) 6 1 w 0 0 (scN (mkP c0 (nvF a b (0) 2 x y z) lx15_100 tx15_100_2_0) (.y 5008)) [] 0 := T.run hv (T.cmp hv E.y15_100_2_0) hw (no_in _ _) rfl E.r15_100_2_0
  rw [e5008] at h
  exact h
theorem t15_100_4_3 (E : Ev15_100) {a b i : Int} (ha : Sn.I5 a) (hb : Sn.I5 b) (hi : Sn.I5 i) (sa : a < 0) (sb : 0 ≤ b) (n : Nat) (hn : n < 30) (x y z : Int) {w : World} (hw : Lw w) : RunIs ⟨(flat (dgN (nvF a b (3) 4 x y z)) lx15_100).toArray⟩ (.slice none 0 0) 10 1 w 0 0 (Sn.wv (a - b)) [] 0 := by
  have hv : Nv (nvF a b (3) 4 x y z) := nv_ok ha hb (by omega) (by omega)
  have hg : goodD (mkP c0 (nvF a b (3) 4 x y z) lx15_100 tx15_100_4_3).ds 0 = true := by kernel_rfl
  have e4 : scN (mkP c0 (nvF a b (3) 4 x y z) lx15_100 tx15_100_4_3) (.y 4) = NN a := v_nv _ (by omega)
  have e5 : scN (mkP c0 (nvF a b (3) 4 x y z) lx15_100 tx15_100_4_3) (.y 5) = b := (v_nv _ (by omega)).trans (NN_pos sb)
  have e5005 : scN (mkP c0 (nvF a b (3) 4 x y z) lx15_100 tx15_100_4_3) (.y 5005) = a := v_sgn (k0 := 0) (k1 := 1) (k2 := 2) (k3 := 3) (k4 := 4) (k5 := 5) hg rfl rfl rfl rfl rfl rfl sa ha e4
  have e5008 : scN (mkP c0 (nvF a b (3) 4 x y z) lx15_100 tx15_100_4_3) (.y 5008) = Sn.wv (a - b) := by have h := v_op (p := mkP c0 (nvF a b (3) 4 x y z) lx15_100 tx15_100_4_3) (c := 1) (x := .y 5005) (y := .y 5) (k := 6) (i := 7) (j := 8) (by omega) hg rfl rfl rfl; rw [e5005, e5] at h; exact h
  have T : Txt (nvF a b (3) 4 x y z) lx15_100 tx15_100_4_3 [(7, 4), (6, 3)] := by
    refine txt_c (by kernel_rfl) hg rfl w3q15_100 rfl (cv76 rfl rfl) (fun c hc => ?_) (fun u hu => ?_)
    · cases hc
    · rw [List.mem_singleton.1 hu]
      show Sn.I5 (scN (mkP c0 (nvF a b (3) 4 x y z) lx15_100 tx15_100_4_3) (.y 5008))
      rw [e5008]
      exact wv_in _
  have h : RunIs ⟨(flat (dgN (nvF a b (3) 4 x y z)) lx15_100).toArray⟩ (.slice none 0 0) 10 1 w 0 0 (scN (mkP c0 (nvF a b (3) 4 x y z) lx15_100 tx15_100_4_3) (.y 5008)) [] 0 := T.run hv (T.cmp hv E.y15_100_4_3) hw (no_in _ _) rfl E.r15_100_4_3
  rw [e5008] at h
  exact h
structure Ev15_101 : Prop where
  y15_101_0 : isY (compR tx15_101_0) = true
  r15_101_0 : isEnd (nI 30) (.y 122) (nI 0) [] (nI 0) (runR codY tx15_101_0 [] 2 1) = true
  y15_101_1 : isY (compR tx15_101_1) = true
  r15_101_1 : isEnd (nI 30) (.y 122) (nI 0) [] (nI 0) (runR codY tx15_101_1 [] 4 1) = true
  y15_101_2 : isY (compR tx15_101_2) = true
  r15_101_2 : isEnd (nI 30) (.y 122) (nI 0) [] (nI 0) (runR codY tx15_101_2 [] 6 1) = true
  y15_101_3 : isY (compR tx15_101_3) = true
  r15_101_3 : isEnd (nI 30) (.y 122) (nI 0) [] (nI 0) (runR codY tx15_101_3 [] 8 1) = true
  y15_101_4 : isY (compR tx15_101_4) = true
  r15_101_4 : isEnd (nI 30) (.y 122) (nI 0) [] (nI 0) (runR codY tx15_101_4 [] 10 1) = true
theorem w3q15_101 : w15_101 = w3s lx15_101 := by kernel_rfl
theorem spa15_101 : spA lx15_101 l15_101 cs15_101 = true := by kernel_rfl
theorem t15_101_0 (E : Ev15_101) {a b i : Int} (ha : Sn.I5 a) (hb : Sn.I5 b) (hi : Sn.I5 i) (sa : a < 0) (sb : 0 ≤ b) (si : i < 0) (n : Nat) (hn : n < 30) (x y z : Int) {w : World} (hw : Lw w) : RunIs ⟨(flat (dgN (nvF a b i 0 x y z)) lx15_101).toArray⟩ (.slice none 0 0) 2 1 w 30 (plOf (toks (dgN (nvF a b i 0 x y z)) (nN (nvF a b i 0 x y z)) lx15_101 0) (flat (dgN (nvF a b i 0 x y z)) lx15_101).length 22) (0) [] 0 := by
  have hv : Nv (nvF a b i 0 x y z) := nv_ok ha hb hi (by omega)
  have hg : goodD (mkP c0 (nvF a b i 0 x y z) lx15_101 tx15_101_0).ds 0 = true := by kernel_rfl
  have e6 : scN (mkP c0 (nvF a b i 0 x y z) lx15_101 tx15_101_0) (.y 6) = NN i := v_nv _ (by omega)
  have e5011 : scN (mkP c0 (nvF a b i 0 x y z) lx15_101 tx15_101_0) (.y 5011) = i := v_sgn (k0 := 6) (k1 := 7) (k2 := 8) (k3 := 9) (k4 := 10) (k5 := 11) hg rfl rfl rfl rfl rfl rfl si hi e6
  have T : Txt (nvF a b i 0 x y z) lx15_101 tx15_101_0 [(7, 0)] := by
    refine txt_c spa15_101 hg rfl w3q15_101 rfl (cv7 rfl) (fun c hc => ?_) (fun u hu => ?_)
    · rcases List.mem_cons.1 hc with rfl | hc
      · show cmpI 2 (scN (mkP c0 (nvF a b i 0 x y z) lx15_101 tx15_101_0) (.y 5011)) (scN (mkP c0 (nvF a b i 0 x y z) lx15_101 tx15_101_0) (nI 0)) = true
        rw [e5011]
        exact decide_eq_true (by show _ < (0 : Int); omega)
      cases hc
    · cases hu
  exact T.run hv (T.cmp hv E.y15_101_0) hw (no_in _ _) rfl E.r15_101_0
theorem t15_101_1 (E : Ev15_101) {a b i : Int} (ha : Sn.I5 a) (hb : Sn.I5 b) (hi : Sn.I5 i) (sa : a < 0) (sb : 0 ≤ b) (si : i < 0) (n : Nat) (hn : n < 30) (x y z : Int) {w : World} (hw : Lw w) : RunIs ⟨(flat (dgN (nvF a b i 1 x y z)) lx15_101).toArray⟩ (.slice none 0 0) 4 1 w 30 (plOf (toks (dgN (nvF a b i 1 x y z)) (nN (nvF a b i 1 x y z)) lx15_101 0) (flat (dgN (nvF a b i 1 x y z)) lx15_101).length 22) (0) [] 0 := by
  have hv : Nv (nvF a b i 1 x y z) := nv_ok ha hb hi (by omega)
  have hg : goodD (mkP c0 (nvF a b i 1 x y z) lx15_101 tx15_101_1).ds 0 = true := by kernel_rfl
  have e6 : scN (mkP c0 (nvF a b i 1 x y z) lx15_101 tx15_101_1) (.y 6) = NN i := v_nv _ (by omega)
  have e5011 : scN (mkP c0 (nvF a b i 1 x y z) lx15_101 tx15_101_1) (.y 5011) = i := v_sgn (k0 := 6) (k1 := 7) (k2 := 8) (k3 := 9) (k4 := 10) (k5 := 11) hg rfl rfl rfl rfl rfl rfl si hi e6
  have T : Txt (nvF a b i 1 x y z) lx15_101 tx15_101_1 [(7, 1)] := by
    refine txt_c spa15_101 hg rfl w3q15_101 rfl (cv7 rfl) (fun c hc => ?_) (fun u hu => ?_)
    · rcases List.mem_cons.1 hc with rfl | hc
      · show cmpI 2 (scN (mkP c0 (nvF a b i 1 x y z) lx15_101 tx15_101_1) (.y 5011)) (scN (mkP c0 (nvF a b i 1 x y z) lx15_101 tx15_101_1) (nI 0)) = true
        rw [e5011]
        exact decide_eq_true (by show _ < (0 : Int); omega)
      cases hc
    · cases hu
  exact T.run hv (T.cmp hv E.y15_101_1) hw (no_in _ _) rfl E.r15_101_1
theorem t15_101_2 (E : Ev15_101) {a b i : Int} (ha : Sn.I5 a) (hb : Sn.I5 b) (hi : Sn.I5 i) (sa : a < 0) (sb : 0 ≤ b) (si : i < 0) (n : Nat) (hn : n < 30) (x y z : Int) {w : World} (hw : Lw w) : RunIs ⟨(flat (dgN (nvF a b i 2 x y z)) lx15_101).toArray⟩ (.slice none 0 0) 6 1 w 30 (plOf (toks (dgN (nvF a b i 2 x y z)) (nN (nvF a b i 2 x y z)) lx15_101 0) (flat (dgN (nvF a b i 2 x y z)) lx15_101).length 22) (0) [] 0 := by
  have hv : Nv (nvF a b i 2 x y z) := nv_ok ha hb hi (by omega)
  have hg : goodD (mkP c0 (nvF a b i 2 x y z) lx15_101 tx15_101_2).ds 0 = true := by kernel_rfl
  have e6 : scN (mkP c0 (nvF a b i 2 x y z) lx15_101 tx15_101_2) (.y 6) = NN i := v_nv _ (by omega)
  have e5011 : scN (mkP c0 (nvF a b i 2 x y z) lx15_101 tx15_101_2) (.y 5011) = i := v_sgn (k0 := 6) (k1 := 7) (k2 := 8) (k3 := 9) (k4 := 10) (k5 := 11) hg rfl rfl rfl rfl rfl rfl si hi e6
  have T : Txt (nvF a b i 2 x y z) lx15_101 tx15_101_2 [(7, 2)] := by
    refine txt_c spa15_101 hg rfl w3q15_101 rfl (cv7 rfl) (fun c hc => ?_) (fun u hu => ?_)
    · rcases List.mem_cons.1 hc with rfl | hc
      · show cmpI 2 (scN (mkP c0 (nvF a b i 2 x y z) lx15_101 tx15_101_2) (.y 5011)) (scN (mkP c0 (nvF a b i 2 x y z) lx15_101 tx15_101_2) (nI 0)) = true
        rw [e5011]
        exact decide_eq_true (by show _ < (0 : Int); omega)
      cases hc
    · cases hu
  exact T.run hv (T.cmp hv E.y15_101_2) hw (no_in _ _) rfl E.r15_101_2
theorem t15_101_3 (E : Ev15_101) {a b i : Int} (ha : Sn.I5 a) (hb : Sn.I5 b) (hi : Sn.I5 i) (sa : a < 0) (sb : 0 ≤ b) (si : i < 0) (n : Nat) (hn : n < 30) (x y z : Int) {w : World} (hw : Lw w) : RunIs ⟨(flat (dgN (nvF a b i 3 x y z)) lx15_101).toArray⟩ (.slice none 0 0) 8 1 w 30 (plOf (toks (dgN (nvF a b i 3 x y z)) (nN (nvF a b i 3 x y z)) lx15_101 0) (flat (dgN (nvF a b i 3 x y z)) lx15_101).length 22) (0) [] 0 := by
  have hv : Nv (nvF a b i 3 x y z) := nv_ok ha hb hi (by omega)
  have hg : goodD (mkP c0 (nvF a b i 3 x y z) lx15_101 tx15_101_3).ds 0 = true := by kernel_rfl
  have e6 : scN (mkP c0 (nvF a b i 3 x y z) lx15_101 tx15_101_3) (.y 6) = NN i := v_nv _ (by omega)
  have e5011 : scN (mkP c0 (nvF a b i 3 x y z) lx15_101 tx15_101_3) (.y 5011) = i := v_sgn (k0 := 6) (k1 := 7) (k2 := 8) (k3 := 9) (k4 := 10) (k5 := 11) hg rfl rfl rfl rfl rfl rfl si hi e6
  have T : Txt (nvF a b i 3 x y z) lx15_101 tx15_101_3 [(7, 3)] := by
    refine txt_c spa15_101 hg rfl w3q15_101 rfl (cv7 rfl) (fun c hc => ?_) (fun u hu => ?_)
    · rcases List.mem_cons.1 hc with rfl | hc
      · show cmpI 2 (scN (mkP c0 (nvF a b i 3 x y z) lx15_101 tx15_101_3) (.y 5011)) (scN (mkP c0 (nvF a b i 3 x y z) lx15_101 tx15_101_3) (nI 0)) = true
        rw [e5011]
        exact decide_eq_true (by show _ < (0 : Int); omega)
      cases hc
    · cases hu
  exact T.run hv (T.cmp hv E.y15_101_3) hw (no_in _ _) rfl E.r15_101_3
theorem t15_101_4 (E : Ev15_101) {a b i : Int} (ha : Sn.I5 a) (hb : Sn.I5 b) (hi : Sn.I5 i) (sa : a < 0) (sb : 0 ≤ b) (si : i < 0) (n : Nat) (hn : n < 30) (x y z : Int) {w : World} (hw : Lw w) : RunIs ⟨(flat (dgN (nvF a b i 4 x y z)) lx15_101).toArray⟩ (.slice none 0 0) 10 1 w 30 (plOf (toks (dgN (nvF a b i 4 x y z)) (nN (nvF a b i 4 x y z)) lx15_101 0) (flat (dgN (nvF a b i 4 x y z)) lx15_101).length 22) (0) [] 0 := by
  have hv : Nv (nvF a b i 4 x y z) := nv_ok ha hb hi (by omega)
  have hg : goodD (mkP c0 (nvF a b i 4 x y z) lx15_101 tx15_101_4).ds 0 = true := by kernel_rfl
  have e6 : scN (mkP c0 (nvF a b i 4 x y z) lx15_101 tx15_101_4) (.y 6) = NN i := v_nv _ (by omega)
  have e5011 : scN (mkP c0 (nvF a b i 4 x y z) lx15_101 tx15_101_4) (.y 5011) = i := v_sgn (k0 := 6) (k1 := 7) (k2 := 8) (k3 := 9) (k4 := 10) (k5 := 11) hg rfl rfl rfl rfl rfl rfl si hi e6
  have T : Txt (nvF a b i 4 x y z) lx15_101 tx15_101_4 [(7, 4)] := by
    refine txt_c spa15_101 hg rfl w3q15_101 rfl (cv7 rfl) (fun c hc => ?_) (fun u hu => ?_)
    · rcases List.mem_cons.1 hc with rfl | hc
      · show cmpI 2 (scN (mkP c0 (nvF a b i 4 x y z) lx15_101 tx15_101_4) (.y 5011)) (scN (mkP c0 (nvF a b i 4 x y z) lx15_101 tx15_101_4) (nI 0)) = true
        rw [e5011]
        exact decide_eq_true (by show _ < (0 : Int); omega)
      cases hc
    · cases hu
  exact T.run hv (T.cmp hv E.y15_101_4) hw (no_in _ _) rfl E.r15_101_4
structure Ev15_110 : Prop where
  y15_110_0 : isY (compR tx15_110_0) = true
  r15_110_0 : isEnd (nI 30) (.y 117) (nI 0) [] (nI 0) (runR codY tx15_110_0 [] 2 1) = true
  y15_110_1 : isY (compR tx15_110_1) = true
  r15_110_1 : isEnd (nI 30) (.y 117) (nI 0) [] (nI 0) (runR codY tx15_110_1 [] 4 1) = true
  y15_110_2 : isY (compR tx15_110_2) = true
  r15_110_2 : isEnd (nI 30) (.y 117) (nI 0) [] (nI 0) (runR codY tx15_110_2 [] 6 1) = true
  y15_110_3 : isY (compR tx15_110_3) = true
  r15_110_3 : isEnd (nI 30) (.y 117) (nI 0) [] (nI 0) (runR codY tx15_110_3 [] 8 1) = true
  y15_110_4 : isY (compR tx15_110_4) = true
  r15_110_4 : isEnd (nI 30) (.y 117) (nI 0) [] (nI 0) (runR codY tx15_110_4 [] 10 1) = true
  y15_110_2_0 : isY (compR tx15_110_2_0) = true
  r15_110_2_0 : isEnd (nI 0) (nI 0) (.y 5014) [] (nI 0) (runR codY tx15_110_2_0 [] 6 1) = true
  y15_110_4_3 : isY (compR tx15_110_4_3) = true
  r15_110_4_3 : isEnd (nI 0) (nI 0) (.y 5014) [] (nI 0) (runR codY tx15_110_4_3 [] 10 1) = true
theorem w3q15_110 : w15_110 = w3s lx15_110 := by kernel_rfl
theorem spa15_110 : spA lx15_110 l15_110 cs15_110 = true := by kernel_rfl
theorem t15_110_0 (E : Ev15_110) {a b i : Int} (ha : Sn.I5 a) (hb : Sn.I5 b) (hi : Sn.I5 i) (sa : a < 0) (sb : b < 0) (si : 0 ≤ i) (n : Nat) (hn : n < 30) (x y z : Int) {w : World} (hw : Lw w) (sn : 0 ≤ i) : RunIs ⟨(flat (dgN (nvF a b i 0 x y z)) lx15_110).toArray⟩ (.slice none 0 0) 2 1 w 30 (plOf (toks (dgN (nvF a b i 0 x y z)) (nN (nvF a b i 0 x y z)) lx15_110 0) (flat (dgN (nvF a b i 0 x y z)) lx15_110).length 17) (0) [] 0 := by
  have hv : Nv (nvF a b i 0 x y z) := nv_ok ha hb hi (by omega)
  have hg : goodD (mkP c0 (nvF a b i 0 x y z) lx15_110 tx15_110_0).ds 0 = true := by kernel_rfl
  have e6 : scN (mkP c0 (nvF a b i 0 x y z) lx15_110 tx15_110_0) (.y 6) = i := (v_nv _ (by omega)).trans (NN_pos si)
  have T : Txt (nvF a b i 0 x y z) lx15_110 tx15_110_0 [(7, 0)] := by
    refine txt_c spa15_110 hg rfl w3q15_110 rfl (cv7 rfl) (fun c hc => ?_) (fun u hu => ?_)
    · rcases List.mem_cons.1 hc with rfl | hc
      · show cmpI 2 (scN (mkP c0 (nvF a b i 0 x y z) lx15_110 tx15_110_0) (.y 6)) (scN (mkP c0 (nvF a b i 0 x y z) lx15_110 tx15_110_0) (nI 0)) = false
        rw [e6]
        exact decide_eq_false (by show ¬ _ < (0 : Int); omega)
      rcases List.mem_cons.1 hc with rfl | hc
      · show cmpI 5 (scN (mkP c0 (nvF a b i 0 x y z) lx15_110 tx15_110_0) (.y 6)) (scN (mkP c0 (nvF a b i 0 x y z) lx15_110 tx15_110_0) (nI 0)) = true
        rw [e6]
        exact decide_eq_true (by show ((0 : Nat) : Int) ≤ _; omega)
      cases hc
    · cases hu
  exact T.run hv (T.cmp hv E.y15_110_0) hw (no_in _ _) rfl E.r15_110_0
theorem t15_110_1 (E : Ev15_110) {a b i : Int} (ha : Sn.I5 a) (hb : Sn.I5 b) (hi : Sn.I5 i) (sa : a < 0) (sb : b < 0) (si : 0 ≤ i) (n : Nat) (hn : n < 30) (x y z : Int) {w : World} (hw : Lw w) (sn : 1 ≤ i) : RunIs ⟨(flat (dgN (nvF a b i 1 x y z)) lx15_110).toArray⟩ (.slice none 0 0) 4 1 w 30 (plOf (toks (dgN (nvF a b i 1 x y z)) (nN (nvF a b i 1 x y z)) lx15_110 0) (flat (dgN (nvF a b i 1 x y z)) lx15_110).length 17) (0) [] 0 := by
  have hv : Nv (nvF a b i 1 x y z) := nv_ok ha hb hi (by omega)
  have hg : goodD (mkP c0 (nvF a b i 1 x y z) lx15_110 tx15_110_1).ds 0 = true := by kernel_rfl
  have e6 : scN (mkP c0 (nvF a b i 1 x y z) lx15_110 tx15_110_1) (.y 6) = i := (v_nv _ (by omega)).trans (NN_pos si)
  have T : Txt (nvF a b i 1 x y z) lx15_110 tx15_110_1 [(7, 1)] := by
    refine txt_c spa15_110 hg rfl w3q15_110 rfl (cv7 rfl) (fun c hc => ?_) (fun u hu => ?_)
    · rcases List.mem_cons.1 hc with rfl | hc
      · show cmpI 2 (scN (mkP c0 (nvF a b i 1 x y z) lx15_110 tx15_110_1) (.y 6)) (scN (mkP c0 (nvF a b i 1 x y z) lx15_110 tx15_110_1) (nI 0)) = false
        rw [e6]
        exact decide_eq_false (by show ¬ _ < (0 : Int); omega)
      rcases List.mem_cons.1 hc with rfl | hc
      · show cmpI 5 (scN (mkP c0 (nvF a b i 1 x y z) lx15_110 tx15_110_1) (.y 6)) (scN (mkP c0 (nvF a b i 1 x y z) lx15_110 tx15_110_1) (nI 1)) = true
        rw [e6]
        exact decide_eq_true (by show ((1 : Nat) : Int) ≤ _; omega)
      cases hc
    · cases hu
  exact T.run hv (T.cmp hv E.y15_110_1) hw (no_in _ _) rfl E.r15_110_1
theorem t15_110_2 (E : Ev15_110) {a b i : Int} (ha : Sn.I5 a) (hb : Sn.I5 b) (hi : Sn.I5 i) (sa : a < 0) (sb : b < 0) (si : 0 ≤ i) (n : Nat) (hn : n < 30) (x y z : Int) {w : World} (hw : Lw w) (sn : 2 ≤ i) : RunIs ⟨(flat (dgN (nvF a b i 2 x y z)) lx15_110).toArray⟩ (.slice none 0 0) 6 1 w 30 (plOf (toks (dgN (nvF a b i 2 x y z)) (nN (nvF a b i 2 x y z)) lx15_110 0) (flat (dgN (nvF a b i 2 x y z)) lx15_110).length 17) (0) [] 0 := by
  have hv : Nv (nvF a b i 2 x y z) := nv_ok ha hb hi (by omega)
  have hg : goodD (mkP c0 (nvF a b i 2 x y z) lx15_110 tx15_110_2).ds 0 = true := by kernel_rfl
  have e6 : scN (mkP c0 (nvF a b i 2 x y z) lx15_110 tx15_110_2) (.y 6) = i := (v_nv _ (by omega)).trans (NN_pos si)
  have T : Txt (nvF a b i 2 x y z) lx15_110 tx15_110_2 [(7, 2)] := by
    refine txt_c spa15_110 hg rfl w3q15_110 rfl (cv7 rfl) (fun c hc => ?_) (fun u hu => ?_)
    · rcases List.mem_cons.1 hc with rfl | hc
      · show cmpI 2 (scN (mkP c0 (nvF a b i 2 x y z) lx15_110 tx15_110_2) (.y 6)) (scN (mkP c0 (nvF a b i 2 x y z) lx15_110 tx15_110_2) (nI 0)) = false
        rw [e6]
        exact decide_eq_false (by show ¬ _ < (0 : Int); omega)
      rcases List.mem_cons.1 hc with rfl | hc
      · show cmpI 5 (scN (mkP c0 (nvF a b i 2 x y z) lx15_110 tx15_110_2) (.y 6)) (scN (mkP c0 (nvF a b i 2 x y z) lx15_110 tx15_110_2) (nI 2)) = true
        rw [e6]
        exact decide_eq_true (by show ((2 : Nat) : Int) ≤ _; omega)
      cases hc
    · cases hu
  exact T.run hv (T.cmp hv E.y15_110_2) hw (no_in _ _) rfl E.r15_110_2
theorem t15_110_3 (E : Ev15_110) {a b i : Int} (ha : Sn.I5 a) (hb : Sn.I5 b) (hi : Sn.I5 i) (sa : a < 0) (sb : b < 0) (si : 0 ≤ i) (n : Nat) (hn : n < 30) (x y z : Int) {w : World} (hw : Lw w) (sn : 3 ≤ i) : RunIs ⟨(flat (dgN (nvF a b i 3 x y z)) lx15_110).toArray⟩ (.slice none 0 0) 8 1 w 30 (plOf (toks (dgN (nvF a b i 3 x y z)) (nN (nvF a b i 3 x y z)) lx15_110 0) (flat (dgN (nvF a b i 3 x y z)) lx15_110).length 17) (0) [] 0 := by
  have hv : Nv (nvF a b i 3 x y z) := nv_ok ha hb hi (by omega)
  have hg : goodD (mkP c0 (nvF a b i 3 x y z) lx15_110 tx15_110_3).ds 0 = true := by kernel_rfl
  have e6 : scN (mkP c0 (nvF a b i 3 x y z) lx15_110 tx15_110_3) (.y 6) = i := (v_nv _ (by omega)).trans (NN_pos si)
  have T : Txt (nvF a b i 3 x y z) lx15_110 tx15_110_3 [(7, 3)] := by
    refine txt_c spa15_110 hg rfl w3q15_110 rfl (cv7 rfl) (fun c hc => ?_) (fun u hu => ?_)
    · rcases List.mem_cons.1 hc with rfl | hc
      · show cmpI 2 (scN (mkP c0 (nvF a b i 3 x y z) lx15_110 tx15_110_3) (.y 6)) (scN (mkP c0 (nvF a b i 3 x y z) lx15_110 tx15_110_3) (nI 0)) = false
        rw [e6]
        exact decide_eq_false (by show ¬ _ < (0 : Int); omega)
      rcases List.mem_cons.1 hc with rfl | hc
      · show cmpI 5 (scN (mkP c0 (nvF a b i 3 x y z) lx15_110 tx15_110_3) (.y 6)) (scN (mkP c0 (nvF a b i 3 x y z) lx15_110 tx15_110_3) (nI 3)) = true
        rw [e6]
        exact decide_eq_true (by show ((3 : Nat) : Int) ≤ _; omega)
      cases hc
    · cases hu
  exact T.run hv (T.cmp hv E.y15_110_3) hw (no_in _ _) rfl E.r15_110_3
theorem t15_110_4 (E : Ev15_110) {a b i : Int} (ha : Sn.I5 a) (hb : Sn.I5 b) (hi : Sn.I5 i) (sa : a < 0) (sb : b < 0) (si : 0 ≤ i) (n : Nat) (hn : n < 30) (x y z : Int) {w : World} (hw : Lw w) (sn : 4 ≤ i) : RunIs ⟨(flat (dgN (nvF a b i 4 x y z)) lx15_110).toArray⟩ (.slice none 0 0) 10 1 w 30 (plOf (toks (dgN (nvF a b i 4 x y z)) (nN (nvF a b i 4 x y z)) lx15_110 0) (flat (dgN (nvF a b i 4 x y z)) lx15_110).length 17) (0) [] 0 := by
  have hv : Nv (nvF a b i 4 x y z) := nv_ok ha hb hi (by omega)
  have hg : goodD (mkP c0 (nvF a b i 4 x y z) lx15_110 tx15_110_4).ds 0 = true := by kernel_rfl
  have e6 : scN (mkP c0 (nvF a b i 4 x y z) lx15_110 tx15_110_4) (.y 6) = i := (v_nv _ (by omega)).trans (NN_pos si)
  have T : Txt (nvF a b i 4 x y z) lx15_110 tx15_110_4 [(7, 4)] := by
    refine txt_c spa15_110 hg rfl w3q15_110 rfl (cv7 rfl) (fun c hc => ?_) (fun u hu => ?_)
    · rcases List.mem_cons.1 hc with rfl | hc
      · show cmpI 2 (scN (mkP c0 (nvF a b i 4 x y z) lx15_110 tx15_110_4) (.y 6)) (scN (mkP c0 (nvF a b i 4 x y z) lx15_110 tx15_110_4) (nI 0)) = false
        rw [e6]
        exact decide_eq_false (by show ¬ _ < (0 : Int); omega)
      rcases List.mem_cons.1 hc with rfl | hc
      · show cmpI 5 (scN (mkP c0 (nvF a b i 4 x y z) lx15_110 tx15_110_4) (.y 6)) (scN (mkP c0 (nvF a b i 4 x y z) lx15_110 tx15_110_4) (nI 4)) = true
        rw [e6]
        exact decide_eq_true (by show ((4 : Nat) : Int) ≤ _; omega)
      cases hc
    · cases hu
  exact T.run hv (T.cmp hv E.y15_110_4) hw (no_in _ _) rfl E.r15_110_4
theorem t15_110_2_0 (E : Ev15_110) {a b i : Int} (ha : Sn.I5 a) (hb : Sn.I5 b) (hi : Sn.I5 i) (sa : a < 0) (sb : b < 0) (n : Nat) (hn : n < 30) (x y z : Int) {w : World} (hw : Lw w) : RunIs ⟨(flat (dgN (nvF a b (0) 2 x y z)) lx15_110).toArray⟩ (.slice none 0 0) 6 1 w 0 0 (Sn.wv (a - b)) [] 0 := by
  have hv : Nv (nvF a b (0) 2 x y z) := nv_ok ha hb (by omega) (by omega)
  have hg : goodD (mkP c0 (nvF a b (0) 2 x y z) lx15_110 tx15_110_2_0).ds 0 = true := by kernel_rfl
  have e4 : scN (mkP c0 (nvF a b (0) 2 x y z) lx15_110 tx15_110_2_0) (.y 4) = NN a := v_nv _ (by omega)
  have e5 : scN (mkP c0 (nvF a b (0) 2 x y z) lx15_110 tx15_110_2_0) (.y 5) = NN b := v_nv _ (by omega)
  have e5005 : scN (mkP c0 (nvF a b (0) 2 x y z) lx15_110 tx15_110_2_0) (.y 5005) = a := v_sgn (k0 := 0) (k1 := 1) (k2 := 2) (k3 := 3) (k4 := 4) (k5 := 5) hg rfl rfl rfl rfl rfl rfl sa ha e4
  have e5011 : scN (mkP c0 (nvF a b (0) 2 x y z) lx15_110 tx15_110_2_0) (.y 5011) = b := v_sgn (k0 := 6) (k1 := 7) (k2 := 8) (k3 := 9) (k4 := 10) (k5 := 11) hg rfl rfl rfl rfl rfl rfl sb hb e5
  have e5014 : scN (mkP c0 (nvF a b (0) 2 x y z) lx15_110 tx15_110_2_0) (.y 5014) = Sn.wv (a - b) := by have h := v_op (p := mkP c0 (nvF a b (0) 2 x y z) lx15_110 tx15_110_2_0) (c := 1) (x := .y 5005) (y := .y 5011) (k := 12) (i := 13) (j := 14) (by omega) hg rfl rfl rfl; rw [e5005, e5011] at h; exact h
  have T : Txt (nvF a b (0) 2 x y z) lx15_110 tx15_110_2_0 [(7, 2), (6, 0)] := by
    refine txt_c (by kernel_rfl) hg rfl w3q15_110 rfl (cv76 rfl rfl) (fun c hc => ?_) (fun u hu => ?_)
    · cases hc
    · rw [List.mem_singleton.1 hu]
      show Sn.I5 (scN (mkP c0 (nvF a b (0) 2 x y z) lx15_110 tx15_110_2_0) (.y 5014))
      rw [e5014]
      exact wv_in _
  have h : RunIs ⟨(flat (dgN (nvF a b (0) 2 x y z)) lx15_110).toArray⟩ (.slice none 0 0) 6 1 w 0 0 (scN (mkP c0 (nvF a b (0) 2 x y z) lx15_110 tx15_110_2_0) (.y 5014)) [] 0 := T.run hv (T.cmp hv E.y15_110_2_0) hw (no_in _ _) rfl E.r15_110_2_0
  rw [e5014] at h
  exact h
theorem t15_110_4_3 (E : Ev15_110) {a b i : Int} (ha : Sn.I5 a) (hb : Sn.I5 b) (hi : Sn.I5 i) (sa : a < 0) (sb : b < 0) (n : Nat) (hn : n < 30) (x y z : Int) {w : World} (hw : Lw w) : RunIs ⟨(flat (dgN (nvF a b (3) 4 x y z)) lx15_110).toArray⟩ (.slice none 0 0) 10 1 w 0 0 (Sn.wv (a - b)) [] 0 := by
  have hv : Nv (nvF a b (3) 4 x y z) := nv_ok ha hb (by omega) (by omega)
  have hg : goodD (mkP c0 (nvF a b (3) 4 x y z) lx15_110 tx15_110_4_3).ds 0 = true := by kernel_rfl
  have e4 : scN (mkP c0 (nvF a b (3) 4 x y z) lx15_110 tx15_110_4_3) (.y 4) = NN a := v_nv _ (by omega)
  have e5 : scN (mkP c0 (nvF a b (3) 4 x y z) lx15_110 tx15_110_4_3) (.y 5) = NN b := v_nv _ (by omega)
  have e5005 : scN (mkP c0 (nvF a b (3) 4 x y z) lx15_110 tx15_110_4_3) (.y 5005) = a := v_sgn (k0 := 0) (k1 := 1) (k2 := 2) (k3 := 3) (k4 := 4) (k5 := 5) hg rfl rfl rfl rfl rfl rfl sa ha e4
  have e5011 : scN (mkP c0 (nvF a b (3) 4 x y z) lx15_110 tx15_110_4_3) (.y 5011) = b := v_sgn (k0 := 6) (k1 := 7) (k2 := 8) (k3 := 9) (k4 := 10) (k5 := 11) hg rfl rfl rfl rfl rfl rfl sb hb e5
  have e5014 : scN (mkP c0 (nvF a b (3) 4 x y z) lx15_110 tx15_110_4_3) (.y 5014) = Sn.wv (a - b) := by have h := v_op (p := mkP c0 (nvF a b (3) 4 x y z) lx15_110 tx15_110_4_3) (c := 1) (x := .y 5005) (y := .y 5011) (k := 12) (i := 13) (j := 14) (by omega) hg rfl rfl rfl; rw [e5005, e5011] at h; exact h
  have T : Txt (nvF a b (3) 4 x y z) lx15_110 tx15_110_4_3 [(7, 4), (6, 3)] := by
    refine txt_c (by kernel_rfl) hg rfl w3q15_110 rfl (cv76 rfl rfl) (fun c hc => ?_) (fun u hu => ?_)
    · cases hc
    · rw [List.mem_singleton.1 hu]
      show Sn.I5 (scN (mkP c0 (nvF a b (3) 4 x y z) lx15_110 tx15_110_4_3) (.y 5014))
      rw [e5014]
      exact wv_in _
  have h : RunIs ⟨(flat (dgN (nvF a b (3) 4 x y z)) lx15_110).toArray⟩ (.slice none 0 0) 10 1 w 0 0 (scN (mkP c0 (nvF a b (3) 4 x y z) lx15_110 tx15_110_4_3) (.y 5014)) [] 0 := T.run hv (T.cmp hv E.y15_110_4_3) hw (no_in _ _) rfl E.r15_110_4_3
  rw [e5014] at h
  exact h
structure Ev15_111 : Prop where
  y15_111_0 : isY (compR tx15_111_0) = true
  r15_111_0 : isEnd (nI 30) (.y 122) (nI 0) [] (nI 0) (runR codY tx15_111_0 [] 2 1) = true
  y15_111_1 : isY (compR tx15_111_1) = true
  r15_111_1 : isEnd (nI 30) (.y 122) (nI 0) [] (nI 0) (runR codY tx15_111_1 [] 4 1) = true
  y15_111_2 : isY (compR tx15_111_2) = true
  r15_111_2 : isEnd (nI 30) (.y 122) (nI 0) [] (nI 0) (runR codY tx15_111_2 [] 6 1) = true
  y15_111_3 : isY (compR tx15_111_3) = true
  r15_111_3 : isEnd (nI 30) (.y 122) (nI 0) [] (nI 0) (runR codY tx15_111_3 [] 8 1) = true
  y15_111_4 : isY (compR tx15_111_4) = true
  r15_111_4 : isEnd (nI 30) (.y 122) (nI 0) [] (nI 0) (runR codY tx15_111_4 [] 10 1) = true
theorem w3q15_111 : w15_111 = w3s lx15_111 := by kernel_rfl
theorem spa15_111 : spA lx15_111 l15_111 cs15_111 = true := by kernel_rfl
theorem t15_111_0 (E : Ev15_111) {a b i : Int} (ha : Sn.I5 a) (hb : Sn.I5 b) (hi : Sn.I5 i) (sa : a < 0) (sb : b < 0) (si : i < 0) (n : Nat) (hn : n < 30) (x y z : Int) {w : World} (hw : Lw w) : RunIs ⟨(flat (dgN (nvF a b i 0 x y z)) lx15_111).toArray⟩ (.slice none 0 0) 2 1 w 30 (plOf (toks (dgN (nvF a b i 0 x y z)) (nN (nvF a b i 0 x y z)) lx15_111 0) (flat (dgN (nvF a b i 0 x y z)) lx15_111).length 22) (0) [] 0 := by
  have hv : Nv (nvF a b i 0 x y z) := nv_ok ha hb hi (by omega)
  have hg : goodD (mkP c0 (nvF a b i 0 x y z) lx15_111 tx15_111_0).ds 0 = true := by kernel_rfl
  have e6 : scN (mkP c0 (nvF a b i 0 x y z) lx15_111 tx15_111_0) (.y 6) = NN i := v_nv _ (by omega)
  have e5011 : scN (mkP c0 (nvF a b i 0 x y z) lx15_111 tx15_111_0) (.y 5011) = i := v_sgn (k0 := 6) (k1 := 7) (k2 := 8) (k3 := 9) (k4 := 10) (k5 := 11) hg rfl rfl rfl rfl rfl rfl si hi e6
  have T : Txt (nvF a b i 0 x y z) lx15_111 tx15_111_0 [(7, 0)] := by
    refine txt_c spa15_111 hg rfl w3q15_111 rfl (cv7 rfl) (fun c hc => ?_) (fun u hu => ?_)
    · rcases List.mem_cons.1 hc with rfl | hc
      · show cmpI 2 (scN (mkP c0 (nvF a b i 0 x y z) lx15_111 tx15_111_0) (.y 5011)) (scN (mkP c0 (nvF a b i 0 x y z) lx15_111 tx15_111_0) (nI 0)) = true
        rw [e5011]
        exact decide_eq_true (by show _ < (0 : Int); omega)
      cases hc
    · cases hu
  exact T.run hv (T.cmp hv E.y15_111_0) hw (no_in _ _) rfl E.r15_111_0
theorem t15_111_1 (E : Ev15_111) {a b i : Int} (ha : Sn.I5 a) (hb : Sn.I5 b) (hi : Sn.I5 i) (sa : a < 0) (sb : b < 0) (si : i < 0) (n : Nat) (hn : n < 30) (x y z : Int) {w : World} (hw : Lw w) : RunIs ⟨(flat (dgN (nvF a b i 1 x y z)) lx15_111).toArray⟩ (.slice none 0 0) 4 1 w 30 (plOf (toks (dgN (nvF a b i 1 x y z)) (nN (nvF a b i 1 x y z)) lx15_111 0) (flat (dgN (nvF a b i 1 x y z)) lx15_111).length 22) (0) [] 0 := by
  have hv : Nv (nvF a b i 1 x y z) := nv_ok ha hb hi (by omega)
  have hg : goodD (mkP c0 (nvF a b i 1 x y z) lx15_111 tx15_111_1).ds 0 = true := by kernel_rfl
  have e6 : scN (mkP c0 (nvF a b i 1 x y z) lx15_111 tx15_111_1) (.y 6) = NN i := v_nv _ (by omega)
  have e5011 : scN (mkP c0 (nvF a b i 1 x y z) lx15_111 tx15_111_1) (.y 5011) = i := v_sgn (k0 := 6) (k1 := 7) (k2 := 8) (k3 := 9) (k4 := 10) (k5 := 11) hg rfl rfl rfl rfl rfl rfl si hi e6
  have T : Txt (nvF a b i 1 x y z) lx15_111 tx15_111_1 [(7, 1)] := by
    refine txt_c spa15_111 hg rfl w3q15_111 rfl (cv7 rfl) (fun c hc => ?_) (fun u hu => ?_)
    · rcases List.mem_cons.1 hc with rfl | hc
      · show cmpI 2 (scN (mkP c0 (nvF a b i 1 x y z) lx15_111 tx15_111_1) (.y 5011)) (scN (mkP c0 (nvF a b i 1 x y z) lx15_111 tx15_111_1) (nI 0)) = true
        rw [e5011]
        exact decide_eq_true (by show _ < (0 : Int); omega)
      cases hc
    · cases hu
  exact T.run hv (T.cmp hv E.y15_111_1) hw (no_in _ _) rfl E.r15_111_1
theorem t15_111_2 (E : Ev15_111) {a b i : Int} (ha : Sn.I5 a) (hb : Sn.I5 b) (hi : Sn.I5 i) (sa : a < 0) (sb : b < 0) (si : i < 0) (n : Nat) (hn : n < 30) (x y z : Int) {w : World} (hw : Lw w) : RunIs ⟨(flat (dgN (nvF a b i 2 x y z)) lx15_111).toArray⟩ (.slice none 0 0) 6 1 w 30 (plOf (toks (dgN (nvF a b i 2 x y z)) (nN (nvF a b i 2 x y z)) lx15_111 0) (flat (dgN (nvF a b i 2 x y z)) lx15_111).length 22) (0) [] 0 := by
  have hv : Nv (nvF a b i 2 x y z) := nv_ok ha hb hi (by omega)
  have hg : goodD (mkP c0 (nvF a b i 2 x y z) lx15_111 tx15_111_2).ds 0 = true := by kernel_rfl
  have e6 : scN (mkP c0 (nvF a b i 2 x y z) lx15_111 tx15_111_2) (.y 6) = NN i := v_nv _ (by omega)
  have e5011 : scN (mkP c0 (nvF a b i 2 x y z) lx15_111 tx15_111_2) (.y 5011) = i := v_sgn (k0 := 6) (k1 := 7) (k2 := 8) (k3 := 9) (k4 := 10) (k5 := 11) hg rfl rfl rfl rfl rfl rfl si hi e6
  have T : Txt (nvF a b i 2 x y z) lx15_111 tx15_111_2 [(7, 2)] := by
    refine txt_c spa15_111 hg rfl w3q15_111 rfl (cv7 rfl) (fun c hc => ?_) (fun u hu => ?_)
    · rcases List.mem_cons.1 hc with rfl | hc
      · show cmpI 2 (scN (mkP c0 (nvF a b i 2 x y z) lx15_111 tx15_111_2) (.y 5011)) (scN (mkP c0 (nvF a b i 2 x y z) lx15_111 tx15_111_2) (nI 0)) = true
        rw [e5011]
        exact decide_eq_true (by show _ < (0 : Int); omega)
      cases hc
    · cases hu
  exact T.run hv (T.cmp hv E.y15_111_2) hw (no_in _ _) rfl E.r15_111_2
theorem t15_111_3 (E : Ev15_111) {a b i : Int} (ha : Sn.I5 a) (hb : Sn.I5 b) (hi : Sn.I5 i) (sa : a < 0) (sb : b < 0) (si : i < 0) (n : Nat) (hn : n < 30) (x y z : Int) {w : World} (hw : Lw w) : RunIs ⟨(flat (dgN (nvF a b i 3 x y z)) lx15_111).toArray⟩ (.slice none 0 0) 8 1 w 30 (plOf (toks (dgN (nvF a b i 3 x y z)) (nN (nvF a b i 3 x y z)) lx15_111 0) (flat (dgN (nvF a b i 3 x y z)) lx15_111).length 22) (0) [] 0 := by
  have hv : Nv (nvF a b i 3 x y z) := nv_ok ha hb hi (by omega)
  have hg : goodD (mkP c0 (nvF a b i 3 x y z) lx15_111 tx15_111_3).ds 0 = true := by kernel_rfl
  have e6 : scN (mkP c0 (nvF a b i 3 x y z) lx15_111 tx15_111_3) (.y 6) = NN i := v_nv _ (by omega)
  have e5011 : scN (mkP c0 (nvF a b i 3 x y z) lx15_111 tx15_111_3) (.y 5011) = i := v_sgn (k0 := 6) (k1 := 7) (k2 := 8) (k3 := 9) (k4 := 10) (k5 := 11) hg rfl rfl rfl rfl rfl rfl si hi e6
  have T : Txt (nvF a b i 3 x y z) lx15_111 tx15_111_3 [(7, 3)] := by
    refine txt_c spa15_111 hg rfl w3q15_111 rfl (cv7 rfl) (fun c hc => ?_) (fun u hu => ?_)
    · rcases List.mem_cons.1 hc with rfl | hc
      · show cmpI 2 (scN (mkP c0 (nvF a b i 3 x y z) lx15_111 tx15_111_3) (.y 5011)) (scN (mkP c0 (nvF a b i 3 x y z) lx15_111 tx15_111_3) (nI 0)) = true
        rw [e5011]
        exact decide_eq_true (by show _ < (0 : Int); omega)
      cases hc
    · cases hu
  exact T.run hv (T.cmp hv E.y15_111_3) hw (no_in _ _) rfl E.r15_111_3
theorem t15_111_4 (E : Ev15_111) {a b i : Int} (ha : Sn.I5 a) (hb : Sn.I5 b) (hi : Sn.I5 i) (sa : a < 0) (sb : b < 0) (si : i < 0) (n : Nat) (hn : n < 30) (x y z : Int) {w : World} (hw : Lw w) : RunIs ⟨(flat (dgN (nvF a b i 4 x y z)) lx15_111).toArray⟩ (.slice none 0 0) 10 1 w 30 (plOf (toks (dgN (nvF a b i 4 x y z)) (nN (nvF a b i 4 x y z)) lx15_111 0) (flat (dgN (nvF a b i 4 x y z)) lx15_111).length 22) (0) [] 0 := by
  have hv : Nv (nvF a b i 4 x y z) := nv_ok ha hb hi (by omega)
  have hg : goodD (mkP c0 (nvF a b i 4 x y z) lx15_111 tx15_111_4).ds 0 = true := by kernel_rfl
  have e6 : scN (mkP c0 (nvF a b i 4 x y z) lx15_111 tx15_111_4) (.y 6) = NN i := v_nv _ (by omega)
  have e5011 : scN (mkP c0 (nvF a b i 4 x y z) lx15_111 tx15_111_4) (.y 5011) = i := v_sgn (k0 := 6) (k1 := 7) (k2 := 8) (k3 := 9) (k4 := 10) (k5 := 11) hg rfl rfl rfl rfl rfl rfl si hi e6
  have T : Txt (nvF a b i 4 x y z) lx15_111 tx15_111_4 [(7, 4)] := by
    refine txt_c spa15_111 hg rfl w3q15_111 rfl (cv7 rfl) (fun c hc => ?_) (fun u hu => ?_)
    · rcases List.mem_cons.1 hc with rfl | hc
      · show cmpI 2 (scN (mkP c0 (nvF a b i 4 x y z) lx15_111 tx15_111_4) (.y 5011)) (scN (mkP c0 (nvF a b i 4 x y z) lx15_111 tx15_111_4) (nI 0)) = true
        rw [e5011]
        exact decide_eq_true (by show _ < (0 : Int); omega)
      cases hc
    · cases hu
  exact T.run hv (T.cmp hv E.y15_111_4) hw (no_in _ _) rfl E.r15_111_4
structure Ev16 : Prop where
  y16 : isY (compR tc16) = true
  r16_lo : isEnd (nI 31) (.y 102) (nI 0) [] (nI 1) (runR codY tx16_lo [.y 10] 66 1) = true
  r16_hi : isEnd (nI 31) (.y 102) (nI 0) [] (nI 1) (runR codY tx16_hi [.y 10] 66 1) = true
  r16_0 : isEnd (nI 0) (nI 0) (nI 0) [] (nI 1) (runR codY tx16_0 [nI 0] 66 1) = true
  r16_1 : isEnd (nI 0) (nI 0) (nI 1) [] (nI 1) (runR codY tx16_1 [nI 1] 66 1) = true
  r16_2 : isEnd (nI 0) (nI 0) (nI 2) [] (nI 1) (runR codY tx16_2 [nI 2] 66 1) = true
  r16_3 : isEnd (nI 0) (nI 0) (nI 3) [] (nI 1) (runR codY tx16_3 [nI 3] 66 1) = true
  r16_4 : isEnd (nI 0) (nI 0) (nI 4) [] (nI 1) (runR codY tx16_4 [nI 4] 66 1) = true
  r16_5 : isEnd (nI 0) (nI 0) (nI 5) [] (nI 1) (runR codY tx16_5 [nI 5] 66 1) = true
  r16_6 : isEnd (nI 0) (nI 0) (nI 6) [] (nI 1) (runR codY tx16_6 [nI 6] 66 1) = true
  r16_7 : isEnd (nI 0) (nI 0) (nI 7) [] (nI 1) (runR codY tx16_7 [nI 7] 66 1) = true
  r16_8 : isEnd (nI 0) (nI 0) (nI 8) [] (nI 1) (runR codY tx16_8 [nI 8] 66 1) = true
  r16_9 : isEnd (nI 0) (nI 0) (nI 9) [] (nI 1) (runR codY tx16_9 [nI 9] 66 1) = true
  r16_10 : isEnd (nI 0) (nI 0) (nI 10) [] (nI 1) (runR codY tx16_10 [nI 10] 66 1) = true
  r16_11 : isEnd (nI 0) (nI 0) (nI 11) [] (nI 1) (runR codY tx16_11 [nI 11] 66 1) = true
  r16_12 : isEnd (nI 0) (nI 0) (nI 12) [] (nI 1) (runR codY tx16_12 [nI 12] 66 1) = true
  r16_13 : isEnd (nI 0) (nI 0) (nI 13) [] (nI 1) (runR codY tx16_13 [nI 13] 66 1) = true
  r16_14 : isEnd (nI 0) (nI 0) (nI 14) [] (nI 1) (runR codY tx16_14 [nI 14] 66 1) = true
  r16_15 : isEnd (nI 0) (nI 0) (nI 15) [] (nI 1) (runR codY tx16_15 [nI 15] 66 1) = true
  r16_16 : isEnd (nI 0) (nI 0) (nI 16) [] (nI 1) (runR codY tx16_16 [nI 16] 66 1) = true
  r16_17 : isEnd (nI 0) (nI 0) (nI 17) [] (nI 1) (runR codY tx16_17 [nI 17] 66 1) = true
  r16_18 : isEnd (nI 0) (nI 0) (nI 18) [] (nI 1) (runR codY tx16_18 [nI 18] 66 1) = true
  r16_19 : isEnd (nI 0) (nI 0) (nI 19) [] (nI 1) (runR codY tx16_19 [nI 19] 66 1) = true
  r16_20 : isEnd (nI 0) (nI 0) (nI 20) [] (nI 1) (runR codY tx16_20 [nI 20] 66 1) = true
  r16_21 : isEnd (nI 0) (nI 0) (nI 21) [] (nI 1) (runR codY tx16_21 [nI 21] 66 1) = true
  r16_22 : isEnd (nI 0) (nI 0) (nI 22) [] (nI 1) (runR codY tx16_22 [nI 22] 66 1) = true
  r16_23 : isEnd (nI 0) (nI 0) (nI 23) [] (nI 1) (runR codY tx16_23 [nI 23] 66 1) = true
  r16_24 : isEnd (nI 0) (nI 0) (nI 24) [] (nI 1) (runR codY tx16_24 [nI 24] 66 1) = true
  r16_25 : isEnd (nI 0) (nI 0) (nI 25) [] (nI 1) (runR codY tx16_25 [nI 25] 66 1) = true
  r16_26 : isEnd (nI 0) (nI 0) (nI 26) [] (nI 1) (runR codY tx16_26 [nI 26] 66 1) = true
  r16_27 : isEnd (nI 0) (nI 0) (nI 27) [] (nI 1) (runR codY tx16_27 [nI 27] 66 1) = true
  r16_28 : isEnd (nI 0) (nI 0) (nI 28) [] (nI 1) (runR codY tx16_28 [nI 28] 66 1) = true
  r16_29 : isEnd (nI 0) (nI 0) (nI 29) [] (nI 1) (runR codY tx16_29 [nI 29] 66 1) = true
  r16_30 : isEnd (nI 0) (nI 0) (nI 30) [] (nI 1) (runR codY tx16_30 [nI 30] 66 1) = true
  r16_31 : isEnd (nI 0) (nI 0) (nI 31) [] (nI 1) (runR codY tx16_31 [nI 31] 66 1) = true
  r16_32 : isEnd (nI 0) (nI 0) (nI 32) [] (nI 1) (runR codY tx16_32 [nI 32] 66 1) = true
theorem w3q16 : w16 = w3s lx16 := by kernel_rfl
theorem spa16 : spA lx16 l16 cs16 = true := by kernel_rfl
theorem t16_lo (E : Ev16) {a b i : Int} (ha : Sn.I5 a) (hb : Sn.I5 b) (hi : Sn.I5 i) (n : Nat) (hn : n < 30) (x y z : Int) {w : World} (hw : Lw w) (si : i < 0) {k : Nat} (h2 : 2 ≤ k) (k0 : w.cell? ⟨k, 0, none⟩ = some (.int .i64 i)) : RunIs ⟨(flat (dgN (nvF a b i n x y z)) lx16).toArray⟩ (.slice (some ⟨k, 0, none⟩) 1 1) 66 1 w 31 4 (0) [] 1 := by
  have hv : Nv (nvF a b i n x y z) := nv_ok ha hb hi (by omega)
  have hg : goodD (mkP c0 (nvF a b i n x y z) lx16 tx16_lo).ds 0 = true := by kernel_rfl
  have e10 : scN (mkP c0 (nvF a b i n x y z) lx16 tx16_lo) (.y 10) = i := v_nv _ (by omega)
  have e5001 : scN (mkP c0 (nvF a b i n x y z) lx16 tx16_lo) (.y 5001) = i := by refine (v_in (x := .y 10) (i := 0) (j := 1) hg rfl rfl).trans ?_; rw [e10, wv_id hi]; all_goals rfl
  have T : Txt (nvF a b i n x y z) lx16 tx16_lo [] := by
    refine txt_c spa16 hg rfl w3q16 rfl cv0 (fun c hc => ?_) (fun u hu => ?_)
    · rcases List.mem_cons.1 hc with rfl | hc
      · show cmpI 2 (scN (mkP c0 (nvF a b i n x y z) lx16 tx16_lo) (.y 5001)) (scN (mkP c0 (nvF a b i n x y z) lx16 tx16_lo) (nI 0)) = true
        rw [e5001]
        exact decide_eq_true (by show _ < (0 : Int); omega)
      cases hc
    · cases hu
  have Tc : Txt (nvF a b i n x y z) lx16 tc16 [] := txt_n spa16 rfl w3q16 rfl cv0 rfl
  exact T.run hv (Tc.cmp2 hv E.y16 rfl rfl (by kernel_rfl)) hw (in1 (u := 7) h2 rfl k0) rfl E.r16_lo
theorem t16_hi (E : Ev16) {a b i : Int} (ha : Sn.I5 a) (hb : Sn.I5 b) (hi : Sn.I5 i) (n : Nat) (hn : n < 30) (x y z : Int) {w : World} (hw : Lw w) (si : 32 < i) {k : Nat} (h2 : 2 ≤ k) (k0 : w.cell? ⟨k, 0, none⟩ = some (.int .i64 i)) : RunIs ⟨(flat (dgN (nvF a b i n x y z)) lx16).toArray⟩ (.slice (some ⟨k, 0, none⟩) 1 1) 66 1 w 31 4 (0) [] 1 := by
  have hv : Nv (nvF a b i n x y z) := nv_ok ha hb hi (by omega)
  have hg : goodD (mkP c0 (nvF a b i n x y z) lx16 tx16_hi).ds 0 = true := by kernel_rfl
  have e10 : scN (mkP c0 (nvF a b i n x y z) lx16 tx16_hi) (.y 10) = i := v_nv _ (by omega)
  have e5001 : scN (mkP c0 (nvF a b i n x y z) lx16 tx16_hi) (.y 5001) = i := by refine (v_in (x := .y 10) (i := 0) (j := 1) hg rfl rfl).trans ?_; rw [e10, wv_id hi]; all_goals rfl
  have T : Txt (nvF a b i n x y z) lx16 tx16_hi [] := by
    refine txt_c spa16 hg rfl w3q16 rfl cv0 (fun c hc => ?_) (fun u hu => ?_)
    · rcases List.mem_cons.1 hc with rfl | hc
      · show cmpI 2 (scN (mkP c0 (nvF a b i n x y z) lx16 tx16_hi) (.y 5001)) (scN (mkP c0 (nvF a b i n x y z) lx16 tx16_hi) (nI 0)) = false
        rw [e5001]
        exact decide_eq_false (by show ¬ _ < (0 : Int); omega)
      rcases List.mem_cons.1 hc with rfl | hc
      · show cmpI 4 (scN (mkP c0 (nvF a b i n x y z) lx16 tx16_hi) (.y 5001)) (scN (mkP c0 (nvF a b i n x y z) lx16 tx16_hi) (nI 32)) = true
        rw [e5001]
        exact decide_eq_true (by show ((32 : Nat) : Int) < _; omega)
      cases hc
    · cases hu
  have Tc : Txt (nvF a b i n x y z) lx16 tc16 [] := txt_n spa16 rfl w3q16 rfl cv0 rfl
  exact T.run hv (Tc.cmp2 hv E.y16 rfl rfl (by kernel_rfl)) hw (in1 (u := 7) h2 rfl k0) rfl E.r16_hi
theorem t16_0 (E : Ev16) {a b i : Int} (ha : Sn.I5 a) (hb : Sn.I5 b) (hi : Sn.I5 i) (n : Nat) (hn : n < 30) (x y z : Int) {w : World} (hw : Lw w) {k : Nat} (h2 : 2 ≤ k) (k0 : w.cell? ⟨k, 0, none⟩ = some (.int .i64 (0 : Nat))) : RunIs ⟨(flat (dgN (nvF a b i n x y z)) lx16).toArray⟩ (.slice (some ⟨k, 0, none⟩) 1 1) 66 1 w 0 0 (0) [] 1 := by
  have hv : Nv (nvF a b i n x y z) := nv_ok ha hb hi (by omega)
  have hg : goodD (mkP c0 (nvF a b i n x y z) lx16 tx16_0).ds 0 = true := by kernel_rfl
  have T : Txt (nvF a b i n x y z) lx16 tx16_0 [] := txt_n spa16 hg w3q16 rfl cv0 rfl
  have Tc : Txt (nvF a b i n x y z) lx16 tc16 [] := txt_n spa16 rfl w3q16 rfl cv0 rfl
  exact T.run hv (Tc.cmp2 hv E.y16 rfl rfl (by kernel_rfl)) hw (in1c h2 k0) rfl E.r16_0
theorem t16_1 (E : Ev16) {a b i : Int} (ha : Sn.I5 a) (hb : Sn.I5 b) (hi : Sn.I5 i) (n : Nat) (hn : n < 30) (x y z : Int) {w : World} (hw : Lw w) {k : Nat} (h2 : 2 ≤ k) (k0 : w.cell? ⟨k, 0, none⟩ = some (.int .i64 (1 : Nat))) : RunIs ⟨(flat (dgN (nvF a b i n x y z)) lx16).toArray⟩ (.slice (some ⟨k, 0, none⟩) 1 1) 66 1 w 0 0 (1) [] 1 := by
  have hv : Nv (nvF a b i n x y z) := nv_ok ha hb hi (by omega)
  have hg : goodD (mkP c0 (nvF a b i n x y z) lx16 tx16_1).ds 0 = true := by kernel_rfl
  have T : Txt (nvF a b i n x y z) lx16 tx16_1 [] := txt_n spa16 hg w3q16 rfl cv0 rfl
  have Tc : Txt (nvF a b i n x y z) lx16 tc16 [] := txt_n spa16 rfl w3q16 rfl cv0 rfl
  exact T.run hv (Tc.cmp2 hv E.y16 rfl rfl (by kernel_rfl)) hw (in1c h2 k0) rfl E.r16_1
theorem t16_2 (E : Ev16) {a b i : Int} (ha : Sn.I5 a) (hb : Sn.I5 b) (hi : Sn.I5 i) (n : Nat) (hn : n < 30) (x y z : Int) {w : World} (hw : Lw w) {k : Nat} (h2 : 2 ≤ k) (k0 : w.cell? ⟨k, 0, none⟩ = some (.int .i64 (2 : Nat))) : RunIs ⟨(flat (dgN (nvF a b i n x y z)) lx16).toArray⟩ (.slice (some ⟨k, 0, none⟩) 1 1) 66 1 w 0 0 (2) [] 1 := by
  have hv : Nv (nvF a b i n x y z) := nv_ok ha hb hi (by omega)
  have hg : goodD (mkP c0 (nvF a b i n x y z) lx16 tx16_2).ds 0 = true := by kernel_rfl
  have T : Txt (nvF a b i n x y z) lx16 tx16_2 [] := txt_n spa16 hg w3q16 rfl cv0 rfl
  have Tc : Txt (nvF a b i n x y z) lx16 tc16 [] := txt_n spa16 rfl w3q16 rfl cv0 rfl
  exact T.run hv (Tc.cmp2 hv E.y16 rfl rfl (by kernel_rfl)) hw (in1c h2 k0) rfl E.r16_2
theorem t16_3 (E : Ev16) {a b i : Int} (ha : Sn.I5 a) (hb : Sn.I5 b) (hi : Sn.I5 i) (n : Nat) (hn : n < 30) (x y z : Int) {w : World} (hw : Lw w) {k : Nat} (h2 : 2 ≤ k) (k0 : w.cell? ⟨k, 0, none⟩ = some (.int .i64 (3 : Nat))) : RunIs ⟨(flat (dgN (nvF a b i n x y z)) lx16).toArray⟩ (.slice (some ⟨k, 0, none⟩) 1 1) 66 1 w 0 0 (3) [] 1 := by
  have hv : Nv (nvF a b i n x y z) := nv_ok ha hb hi (by omega)
  have hg : goodD (mkP c0 (nvF a b i n x y z) lx16 tx16_3).ds 0 = true := by kernel_rfl
  have T : Txt (nvF a b i n x y z) lx16 tx16_3 [] := txt_n spa16 hg w3q16 rfl cv0 rfl
  have Tc : Txt (nvF a b i n x y z) lx16 tc16 [] := txt_n spa16 rfl w3q16 rfl cv0 rfl
  exact T.run hv (Tc.cmp2 hv E.y16 rfl rfl (by kernel_rfl)) hw (in1c h2 k0) rfl E.r16_3
theorem t16_4 (E : Ev16) {a b i : Int} (ha : Sn.I5 a) (hb : Sn.I5 b) (hi : Sn.I5 i) (n : Nat) (hn : n < 30) (x y z : Int) {w : World} (hw : Lw w) {k : Nat} (h2 : 2 ≤ k) (k0 : w.cell? ⟨k, 0, none⟩ = some (.int .i64 (4 : Nat))) : RunIs ⟨(flat (dgN (nvF a b i n x y z)) lx16).toArray⟩ (.slice (some ⟨k, 0, none⟩) 1 1) 66 1 w 0 0 (4) [] 1 := by
  have hv : Nv (nvF a b i n x y z) := nv_ok ha hb hi (by omega)
  have hg : goodD (mkP c0 (nvF a b i n x y z) lx16 tx16_4).ds 0 = true := by kernel_rfl
  have T : Txt (nvF a b i n x y z) lx16 tx16_4 [] := txt_n spa16 hg w3q16 rfl cv0 rfl
  have Tc : Txt (nvF a b i n x y z) lx16 tc16 [] := txt_n spa16 rfl w3q16 rfl cv0 rfl
  exact T.run hv (Tc.cmp2 hv E.y16 rfl rfl (by kernel_rfl)) hw (in1c h2 k0) rfl E.r16_4
theorem t16_5 (E : Ev16) {a b i : Int} (ha : Sn.I5 a) (hb : Sn.I5 b) (hi : Sn.I5 i) (n : Nat) (hn : n < 30) (x y z : Int) {w : World} (hw : Lw w) {k : Nat} (h2 : 2 ≤ k) (k0 : w.cell? ⟨k, 0, none⟩ = some (.int .i64 (5 : Nat))) : RunIs ⟨(flat (dgN (nvF a b i n x y z)) lx16).toArray⟩ (.slice (some ⟨k, 0, none⟩) 1 1) 66 1 w 0 0 (5) [] 1 := by
  have hv : Nv (nvF a b i n x y z) := nv_ok ha hb hi (by omega)
  have hg : goodD (mkP c0 (nvF a b i n x y z) lx16 tx16_5).ds 0 = true := by kernel_rfl
  have T : Txt (nvF a b i n x y z) lx16 tx16_5 [] := txt_n spa16 hg w3q16 rfl cv0 rfl
  have Tc : Txt (nvF a b i n x y z) lx16 tc16 [] := txt_n spa16 rfl w3q16 rfl cv0 rfl
  exact T.run hv (Tc.cmp2 hv E.y16 rfl rfl (by kernel_rfl)) hw (in1c h2 k0) rfl E.r16_5
theorem t16_6 (E : Ev16) {a b i : Int} (ha : Sn.I5 a) (hb : Sn.I5 b) (hi : Sn.I5 i) (n : Nat) (hn : n < 30) (x y z : Int) {w : World} (hw : Lw w) {k : Nat} (h2 : 2 ≤ k) (k0 : w.cell? ⟨k, 0, none⟩ = some (.int .i64 (6 : Nat))) : RunIs ⟨(flat (dgN (nvF a b i n x y z)) lx16).toArray⟩ (.slice (some ⟨k, 0, none⟩) 1 1) 66 1 w 0 0 (6) [] 1 := by
  have hv : Nv (nvF a b i n x y z) := nv_ok ha hb hi (by omega)
  have hg : goodD (mkP c0 (nvF a b i n x y z) lx16 tx16_6).ds 0 = true := by kernel_rfl
  have T : Txt (nvF a b i n x y z) lx16 tx16_6 [] := txt_n spa16 hg w3q16 rfl cv0 rfl
  have Tc : Txt (nvF a b i n x y z) lx16 tc16 [] := txt_n spa16 rfl w3q16 rfl cv0 rfl
  exact T.run hv (Tc.cmp2 hv E.y16 rfl rfl (by kernel_rfl)) hw (in1c h2 k0) rfl E.r16_6
theorem t16_7 (E : Ev16) {a b i : Int} (ha : Sn.I5 a) (hb : Sn.I5 b) (hi : Sn.I5 i) (n : Nat) (hn : n < 30) (x y z : Int) {w : World} (hw : Lw w) {k : Nat} (h2 : 2 ≤ k) (k0 : w.cell? ⟨k, 0, none⟩ = some (.int .i64 (7 : Nat))) : RunIs ⟨(flat (dgN (nvF a b i n x y z)) lx16).toArray⟩ (.slice (some ⟨k, 0, none⟩) 1 1) 66 1 w 0 0 (7) [] 1 := by
  have hv : Nv (nvF a b i n x y z) := nv_ok ha hb hi (by omega)
  have hg : goodD (mkP c0 (nvF a b i n x y z) lx16 tx16_7).ds 0 = true := by kernel_rfl
  have T : Txt (nvF a b i n x y z) lx16 tx16_7 [] := txt_n spa16 hg w3q16 rfl cv0 rfl
  have Tc : Txt (nvF a b i n x y z) lx16 tc16 [] := txt_n spa16 rfl w3q16 rfl cv0 rfl
  exact T.run hv (Tc.cmp2 hv E.y16 rfl rfl (by kernel_rfl)) hw (in1c h2 k0) rfl E.r16_7
theorem t16_8 (E : Ev16) {a b i : Int} (ha : Sn.I5 a) (hb : Sn.I5 b) (hi : Sn.I5 i) (n : Nat) (hn : n < 30) (x y z : Int) {w : World} (hw : Lw w) {k : Nat} (h2 : 2 ≤ k) (k0 : w.cell? ⟨k, 0, none⟩ = some (.int .i64 (8 : Nat))) : RunIs ⟨(flat (dgN (nvF a b i n x y z)) lx16).toArray⟩ (.slice (some ⟨k, 0, none⟩) 1 1) 66 1 w 0 0 (8) [] 1 := by
  have hv : Nv (nvF a b i n x y z) := nv_ok ha hb hi (by omega)
  have hg : goodD (mkP c0 (nvF a b i n x y z) lx16 tx16_8).ds 0 = true := by kernel_rfl
  have T : Txt (nvF a b i n x y z) lx16 tx16_8 [] := txt_n spa16 hg w3q16 rfl cv0 rfl
  have Tc : Txt (nvF a b i n x y z) lx16 tc16 [] := txt_n spa16 rfl w3q16 rfl cv0 rfl
  exact T.run hv (Tc.cmp2 hv E.y16 rfl rfl (by kernel_rfl)) hw (in1c h2 k0) rfl E.r16_8
theorem t16_9 (E : Ev16) {a b i : Int} (ha : Sn.I5 a) (hb : Sn.I5 b) (hi : Sn.I5 i) (n : Nat) (hn : n < 30) (x y z : Int) {w : World} (hw : Lw w) {k : Nat} (h2 : 2 ≤ k) (k0 : w.cell? ⟨k, 0, none⟩ = some (.int .i64 (9 : Nat))) : RunIs ⟨(flat (dgN (nvF a b i n x y z)) lx16).toArray⟩ (.slice (some ⟨k, 0, none⟩) 1 1) 66 1 w 0 0 (9) [] 1 := by
  have hv : Nv (nvF a b i n x y z) := nv_ok ha hb hi (by omega)
  have hg : goodD (mkP c0 (nvF a b i n x y z) lx16 tx16_9).ds 0 = true := by kernel_rfl
  have T : Txt (nvF a b i n x y z) lx16 tx16_9 [] := txt_n spa16 hg w3q16 rfl cv0 rfl
  have Tc : Txt (nvF a b i n x y z) lx16 tc16 [] := txt_n spa16 rfl w3q16 rfl cv0 rfl
  exact T.run hv (Tc.cmp2 hv E.y16 rfl rfl (by kernel_rfl)) hw (in1c h2 k0) rfl E.r16_9
theorem t16_10 (E : Ev16) {a b i : Int} (ha : Sn.I5 a) (hb : Sn.I5 b) (hi : Sn.I5 i) (n : Nat) (hn : n < 30) (x y z : Int) {w : World} (hw : Lw w) {k : Nat} (h2 : 2 ≤ k) (k0 : w.cell? ⟨k, 0, none⟩ = some (.int .i64 (10 : Nat))) : RunIs ⟨(flat (dgN (nvF a b i n x y z)) lx16).toArray⟩ (.slice (some ⟨k, 0, none⟩) 1 1) 66 1 w 0 0 (10) [] 1 := by
  have hv : Nv (nvF a b i n x y z) := nv_ok ha hb hi (by omega)
  have hg : goodD (mkP c0 (nvF a b i n x y z) lx16 tx16_10).ds 0 = true := by kernel_rfl
  have T : Txt (nvF a b i n x y z) lx16 tx16_10 [] := txt_n spa16 hg w3q16 rfl cv0 rfl
  have Tc : Txt (nvF a b i n x y z) lx16 tc16 [] := txt_n spa16 rfl w3q16 rfl cv0 rfl
  exact T.run hv (Tc.cmp2 hv E.y16 rfl rfl (by kernel_rfl)) hw (in1c h2 k0) rfl E.r16_10
theorem t16_11 (E : Ev16) {a b i : Int} (ha : Sn.I5 a) (hb : Sn.I5 b) (hi : Sn.I5 i) (n : Nat) (hn : n < 30) (x y z : Int) {w : World} (hw : Lw w) {k : Nat} (h2 : 2 ≤ k) (k0 : w.cell? ⟨k, 0, none⟩ = some (.int .i64 (11 : Nat))) : RunIs ⟨(flat (dgN (nvF a b i n x y z)) lx16).toArray⟩ (.slice (some ⟨k, 0, none⟩) 1 1) 66 1 w 0 0 (11) [] 1 := by
  have hv : Nv (nvF a b i n x y z) := nv_ok ha hb hi (by omega)
  have hg : goodD (mkP c0 (nvF a b i n x y z) lx16 tx16_11).ds 0 = true := by kernel_rfl
  have T : Txt (nvF a b i n x y z) lx16 tx16_11 [] := txt_n spa16 hg w3q16 rfl cv0 rfl
  have Tc : Txt (nvF a b i n x y z) lx16 tc16 [] := txt_n spa16 rfl w3q16 rfl cv0 rfl
  exact T.run hv (Tc.cmp2 hv E.y16 rfl rfl (by kernel_rfl)) hw (in1c h2 k0) rfl E.r16_11
theorem t16_12 (E : Ev16) {a b i : Int} (ha : Sn.I5 a) (hb : Sn.I5 b) (hi : Sn.I5 i) (n : Nat) (hn : n < 30) (x y z : Int) {w : World} (hw : Lw w) {k : Nat} (h2 : 2 ≤ k) (k0 : w.cell? ⟨k, 0, none⟩ = some (.int .i64 (12 : Nat))) : RunIs ⟨(flat (dgN (nvF a b i n x y z)) lx16).toArray⟩ (.slice (some ⟨k, 0, none⟩) 1 1) 66 1 w 0 0 (12) [] 1 := by
  have hv : Nv (nvF a b i n x y z) := nv_ok ha hb hi (by omega)
  have hg : goodD (mkP c0 (nvF a b i n x y z) lx16 tx16_12).ds 0 = true := by kernel_rfl
  have T : Txt (nvF a b i n x y z) lx16 tx16_12 [] := txt_n spa16 hg w3q16 rfl cv0 rfl
  have Tc : Txt (nvF a b i n x y z) lx16 tc16 [] := txt_n spa16 rfl w3q16 rfl cv0 rfl
  exact T.run hv (Tc.cmp2 hv E.y16 rfl rfl (by kernel_rfl)) hw (in1c h2 k0) rfl E.r16_12
theorem t16_13 (E : Ev16) {a b i : Int} (ha : Sn.I5 a) (hb : Sn.I5 b) (hi : Sn.I5 i) (n : Nat) (hn : n < 30) (x y z : Int) {w : World} (hw : Lw w) {k : Nat} (h2 : 2 ≤ k) (k0 : w.cell? ⟨k, 0, none⟩ = some (.int .i64 (13 : Nat))) : RunIs ⟨(flat (dgN (nvF a b i n x y z)) lx16).toArray⟩ (.slice (some ⟨k, 0, none⟩) 1 1) 66 1 w 0 0 (13) [] 1 := by
  have hv : Nv (nvF a b i n x y z) := nv_ok ha hb hi (by omega)
  have hg : goodD (mkP c0 (nvF a b i n x y z) lx16 tx16_13).ds 0 = true := by kernel_rfl
  have T : Txt (nvF a b i n x y z) lx16 tx16_13 [] := txt_n spa16 hg w3q16 rfl cv0 rfl
  have Tc : Txt (nvF a b i n x y z) lx16 tc16 [] := txt_n spa16 rfl w3q16 rfl cv0 rfl
  exact T.run hv (Tc.cmp2 hv E.y16 rfl rfl (by kernel_rfl)) hw (in1c h2 k0) rfl E.r16_13
theorem t16_14 (E : Ev16) {a b i : Int} (ha : Sn.I5 a) (hb : Sn.I5 b) (hi : Sn.I5 i) (n : Nat) (hn : n < 30) (x y z : Int) {w : World} (hw : Lw w) {k : Nat} (h2 : 2 ≤ k) (k0 : w.cell? ⟨k, 0, none⟩ = some (.int .i64 (14 : Nat))) : RunIs ⟨(flat (dgN (nvF a b i n x y z)) lx16).toArray⟩ (.slice (some ⟨k, 0, none⟩) 1 1) 66 1 w 0 0 (14) [] 1 := by
  have hv : Nv (nvF a b i n x y z) := nv_ok ha hb hi (by omega)
  have hg : goodD (mkP c0 (nvF a b i n x y z) lx16 tx16_14).ds 0 = true := by kernel_rfl
  have T : Txt (nvF a b i n x y z) lx16 tx16_14 [] := txt_n spa16 hg w3q16 rfl cv0 rfl
  have Tc : Txt (nvF a b i n x y z) lx16 tc16 [] := txt_n spa16 rfl w3q16 rfl cv0 rfl
  exact T.run hv (Tc.cmp2 hv E.y16 rfl rfl (by kernel_rfl)) hw (in1c h2 k0) rfl E.r16_14
theorem t16_15 (E : Ev16) {a b i : Int} (ha : Sn.I5 a) (hb : Sn.I5 b) (hi : Sn.I5 i) (n : Nat) (hn : n < 30) (x y z : Int) {w : World} (hw : Lw w) {k : Nat} (h2 : 2 ≤ k) (k0 : w.cell? ⟨k, 0, none⟩ = some (.int .i64 (15 : Nat))) : RunIs ⟨(flat (dgN (nvF a b i n x y z)) lx16).toArray⟩ (.slice (some ⟨k, 0, none⟩) 1 1) 66 1 w 0 0 (15) [] 1 := by
  have hv : Nv (nvF a b i n x y z) := nv_ok ha hb hi (by omega)
  have hg : goodD (mkP c0 (nvF a b i n x y z) lx16 tx16_15).ds 0 = true := by kernel_rfl
  have T : Txt (nvF a b i n x y z) lx16 tx16_15 [] := txt_n spa16 hg w3q16 rfl cv0 rfl
  have Tc : Txt (nvF a b i n x y z) lx16 tc16 [] := txt_n spa16 rfl w3q16 rfl cv0 rfl
  exact T.run hv (Tc.cmp2 hv E.y16 rfl rfl (by kernel_rfl)) hw (in1c h2 k0) rfl E.r16_15
theorem t16_16 (E : Ev16) {a b i : Int} (ha : Sn.I5 a) (hb : Sn.I5 b) (hi : Sn.I5 i) (n : Nat) (hn : n < 30) (x y z : Int) {w : World} (hw : Lw w) {k : Nat} (h2 : 2 ≤ k) (k0 : w.cell? ⟨k, 0, none⟩ = some (.int .i64 (16 : Nat))) : RunIs ⟨(flat (dgN (nvF a b i n x y z)) lx16).toArray⟩ (.slice (some ⟨k, 0, none⟩) 1 1) 66 1 w 0 0 (16) [] 1 := by
  have hv : Nv (nvF a b i n x y z) := nv_ok ha hb hi (by omega)
  have hg : goodD (mkP c0 (nvF a b i n x y z) lx16 tx16_16).ds 0 = true := by kernel_rfl
  have T : Txt (nvF a b i n x y z) lx16 tx16_16 [] := txt_n spa16 hg w3q16 rfl cv0 rfl
  have Tc : Txt (nvF a b i n x y z) lx16 tc16 [] := txt_n spa16 rfl w3q16 rfl cv0 rfl
  exact T.run hv (Tc.cmp2 hv E.y16 rfl rfl (by kernel_rfl)) hw (in1c h2 k0) rfl E.r16_16
theorem t16_17 (E : Ev16) {a b i : Int} (ha : Sn.I5 a) (hb : Sn.I5 b) (hi : Sn.I5 i) (n : Nat) (hn : n < 30) (x y z : Int) {w : World} (hw : Lw w) {k : Nat} (h2 : 2 ≤ k) (k0 : w.cell? ⟨k, 0, none⟩ = some (.int .i64 (17 : Nat))) : RunIs ⟨(flat (dgN (nvF a b i n x y z)) lx16).toArray⟩ (.slice (some ⟨k, 0, none⟩) 1 1) 66 1 w 0 0 (17) [] 1 := by
  have hv : Nv (nvF a b i n x y z) := nv_ok ha hb hi (by omega)
  have hg : goodD (mkP c0 (nvF a b i n x y z) lx16 tx16_17).ds 0 = true := by kernel_rfl
  have T : Txt (nvF a b i n x y z) lx16 tx16_17 [] := txt_n spa16 hg w3q16 rfl cv0 rfl
  have Tc : Txt (nvF a b i n x y z) lx16 tc16 [] := txt_n spa16 rfl w3q16 rfl cv0 rfl
  exact T.run hv (Tc.cmp2 hv E.y16 rfl rfl (by kernel_rfl)) hw (in1c h2 k0) rfl E.r16_17
theorem t16_18 (E : Ev16) {a b i : Int} (ha : Sn.I5 a) (hb : Sn.I5 b) (hi : Sn.I5 i) (n : Nat) (hn : n < 30) (x y z : Int) {w : World} (hw : Lw w) {k : Nat} (h2 : 2 ≤ k) (k0 : w.cell? ⟨k, 0, none⟩ = some (.int .i64 (18 : Nat))) : RunIs ⟨(flat (dgN (nvF a b i n x y z)) lx16).toArray⟩ (.slice (some ⟨k, 0, none⟩) 1 1) 66 1 w 0 0 (18) [] 1 := by
  have hv : Nv (nvF a b i n x y z) := nv_ok ha hb hi (by omega)
  have hg : goodD (mkP c0 (nvF a b i n x y z) lx16 tx16_18).ds 0 = true := by kernel_rfl
  have T : Txt (nvF a b i n x y z) lx16 tx16_18 [] := txt_n spa16 hg w3q16 rfl cv0 rfl
  have Tc : Txt (nvF a b i n x y z) lx16 tc16 [] := txt_n spa16 rfl w3q16 rfl cv0 rfl
  exact T.run hv (Tc.cmp2 hv E.y16 rfl rfl (by kernel_rfl)) hw (in1c h2 k0) rfl E.r16_18
theorem t16_19 (E : Ev16) {a b i : Int} (ha : Sn.I5 a) (hb : Sn.I5 b) (hi : Sn.I5 i) (n : Nat) (hn : n < 30) (x y z : Int) {w : World} (hw : Lw w) {k : Nat} (h2 : 2 ≤ k) (k0 : w.cell? ⟨k, 0, none⟩ = some (.int .i64 (19 : Nat))) : RunIs ⟨(flat (dgN (nvF a b i n x y z)) lx16).toArray⟩ (.slice (some ⟨k, 0, none⟩) 1 1) 66 1 w 0 0 (19) [] 1 := by
  have hv : Nv (nvF a b i n x y z) := nv_ok ha hb hi (by omega)
  have hg : goodD (mkP c0 (nvF a b i n x y z) lx16 tx16_19).ds 0 = true := by kernel_rfl
  have T : Txt (nvF a b i n x y z) lx16 tx16_19 [] := txt_n spa16 hg w3q16 rfl cv0 rfl
  have Tc : Txt (nvF a b i n x y z) lx16 tc16 [] := txt_n spa16 rfl w3q16 rfl cv0 rfl
  exact T.run hv (Tc.cmp2 hv E.y16 rfl rfl (by kernel_rfl)) hw (in1c h2 k0) rfl E.r16_19
theorem t16_20 (E : Ev16) {a b i : Int} (ha : Sn.I5 a) (hb : Sn.I5 b) (hi : Sn.I5 i) (n : Nat) (hn : n < 30) (x y z : Int) {w : World} (hw : Lw w) {k : Nat} (h2 : 2 ≤ k) (k0 : w.cell? ⟨k, 0, none⟩ = some (.int .i64 (20 : Nat))) : RunIs ⟨(flat (dgN (nvF a b i n x y z)) lx16).toArray⟩ (.slice (some ⟨k, 0, none⟩) 1 1) 66 1 w 0 0 (20) [] 1 := by
  have hv : Nv (nvF a b i n x y z) := nv_ok ha hb hi (by omega)
  have hg : goodD (mkP c0 (nvF a b i n x y z) lx16 tx16_20).ds 0 = true := by kernel_rfl
  have T : Txt (nvF a b i n x y z) lx16 tx16_20 [] := txt_n spa16 hg w3q16 rfl cv0 rfl
  have Tc : Txt (nvF a b i n x y z) lx16 tc16 [] := txt_n spa16 rfl w3q16 rfl cv0 rfl
  exact T.run hv (Tc.cmp2 hv E.y16 rfl rfl (by kernel_rfl)) hw (in1c h2 k0) rfl E.r16_20
theorem t16_21 (E : Ev16) {a b i : Int} (ha : Sn.I5 a) (hb : Sn.I5 b) (hi : Sn.I5 i) (n : Nat) (hn : n < 30) (x y z : Int) {w : World} (hw : Lw w) {k : Nat} (h2 : 2 ≤ k) (k0 : w.cell? ⟨k, 0, none⟩ = some (.int .i64 (21 : Nat))) : RunIs ⟨(flat (dgN (nvF a b i n x y z)) lx16).toArray⟩ (.slice (some ⟨k, 0, none⟩) 1 1) 66 1 w 0 0 (21) [] 1 := by
  have hv : Nv (nvF a b i n x y z) := nv_ok ha hb hi (by omega)
  have hg : goodD (mkP c0 (nvF a b i n x y z) lx16 tx16_21).ds 0 = true := by kernel_rfl
  have T : Txt (nvF a b i n x y z) lx16 tx16_21 [] := txt_n spa16 hg w3q16 rfl cv0 rfl
  have Tc : Txt (nvF a b i n x y z) lx16 tc16 [] := txt_n spa16 rfl w3q16 rfl cv0 rfl
  exact T.run hv (Tc.cmp2 hv E.y16 rfl rfl (by kernel_rfl)) hw (in1c h2 k0) rfl E.r16_21
theorem t16_22 (E : Ev16) {a b i : Int} (ha : Sn.I5 a) (hb : Sn.I5 b) (hi : Sn.I5 i) (n : Nat) (hn : n < 30) (x y z : Int) {w : World} (hw : Lw w) {k : Nat} (h2 : 2 ≤ k) (k0 : w.cell? ⟨k, 0, none⟩ = some (.int .i64 (22 : Nat))) : RunIs ⟨(flat (dgN (nvF a b i n x y z)) lx16).toArray⟩ (.slice (some ⟨k, 0, none⟩) 1 1) 66 1 w 0 0 (22) [] 1 := by
  have hv : Nv (nvF a b i n x y z) := nv_ok ha hb hi (by omega)
  have hg : goodD (mkP c0 (nvF a b i n x y z) lx16 tx16_22).ds 0 = true := by kernel_rfl
  have T : Txt (nvF a b i n x y z) lx16 tx16_22 [] := txt_n spa16 hg w3q16 rfl cv0 rfl
  have Tc : Txt (nvF a b i n x y z) lx16 tc16 [] := txt_n spa16 rfl w3q16 rfl cv0 rfl
  exact T.run hv (Tc.cmp2 hv E.y16 rfl rfl (by kernel_rfl)) hw (in1c h2 k0) rfl E.r16_22
theorem t16_23 (E : Ev16) {a b i : Int} (ha : Sn.I5 a) (hb : Sn.I5 b) (hi : Sn.I5 i) (n : Nat) (hn : n < 30) (x y z : Int) {w : World} (hw : Lw w) {k : Nat} (h2 : 2 ≤ k) (k0 : w.cell? ⟨k, 0, none⟩ = some (.int .i64 (23 : Nat))) : RunIs ⟨(flat (dgN (nvF a b i n x y z)) lx16).toArray⟩ (.slice (some ⟨k, 0, none⟩) 1 1) 66 1 w 0 0 (23) [] 1 := by
  have hv : Nv (nvF a b i n x y z) := nv_ok ha hb hi (by omega)
  have hg : goodD (mkP c0 (nvF a b i n x y z) lx16 tx16_23).ds 0 = true := by kernel_rfl
  have T : Txt (nvF a b i n x y z) lx16 tx16_23 [] := txt_n spa16 hg w3q16 rfl cv0 rfl
  have Tc : Txt (nvF a b i n x y z) lx16 tc16 [] := txt_n spa16 rfl w3q16 rfl cv0 rfl
  exact T.run hv (Tc.cmp2 hv E.y16 rfl rfl (by kernel_rfl)) hw (in1c h2 k0) rfl E.r16_23
theorem t16_24 (E : Ev16) {a b i : Int} (ha : Sn.I5 a) (hb : Sn.I5 b) (hi : Sn.I5 i) (n : Nat) (hn : n < 30) (x y z : Int) {w : World} (hw : Lw w) {k : Nat} (h2 : 2 ≤ k) (k0 : w.cell? ⟨k, 0, none⟩ = some (.int .i64 (24 : Nat))) : RunIs ⟨(flat (dgN (nvF a b i n x y z)) lx16).toArray⟩ (.slice (some ⟨k, 0, none⟩) 1 1) 66 1 w 0 0 (24) [] 1 := by
  have hv : Nv (nvF a b i n x y z) := nv_ok ha hb hi (by omega)
  have hg : goodD (mkP c0 (nvF a b i n x y z) lx16 tx16_24).ds 0 = true := by kernel_rfl
  have T : Txt (nvF a b i n x y z) lx16 tx16_24 [] := txt_n spa16 hg w3q16 rfl cv0 rfl
  have Tc : Txt (nvF a b i n x y z) lx16 tc16 [] := txt_n spa16 rfl w3q16 rfl cv0 rfl
  exact T.run hv (Tc.cmp2 hv E.y16 rfl rfl (by kernel_rfl)) hw (in1c h2 k0) rfl E.r16_24
theorem t16_25 (E : Ev16) {a b i : Int} (ha : Sn.I5 a) (hb : Sn.I5 b) (hi : Sn.I5 i) (n : Nat) (hn : n < 30) (x y z : Int) {w : World} (hw : Lw w) {k : Nat} (h2 : 2 ≤ k) (k0 : w.cell? ⟨k, 0, none⟩ = some (.int .i64 (25 : Nat))) : RunIs ⟨(flat (dgN (nvF a b i n x y z)) lx16).toArray⟩ (.slice (some ⟨k, 0, none⟩) 1 1) 66 1 w 0 0 (25) [] 1 := by
  have hv : Nv (nvF a b i n x y z) := nv_ok ha hb hi (by omega)
  have hg : goodD (mkP c0 (nvF a b i n x y z) lx16 tx16_25).ds 0 = true := by kernel_rfl
  have T : Txt (nvF a b i n x y z) lx16 tx16_25 [] := txt_n spa16 hg w3q16 rfl cv0 rfl
  have Tc : Txt (nvF a b i n x y z) lx16 tc16 [] := txt_n spa16 rfl w3q16 rfl cv0 rfl
  exact T.run hv (Tc.cmp2 hv E.y16 rfl rfl (by kernel_rfl)) hw (in1c h2 k0) rfl E.r16_25
theorem t16_26 (E : Ev16) {a b i : Int} (ha : Sn.I5 a) (hb : Sn.I5 b) (hi : Sn.I5 i) (n : Nat) (hn : n < 30) (x y z : Int) {w : World} (hw : Lw w) {k : Nat} (h2 : 2 ≤ k) (k0 : w.cell? ⟨k, 0, none⟩ = some (.int .i64 (26 : Nat))) : RunIs ⟨(flat (dgN (nvF a b i n x y z)) lx16).toArray⟩ (.slice (some ⟨k, 0, none⟩) 1 1) 66 1 w 0 0 (26) [] 1 := by
  have hv : Nv (nvF a b i n x y z) := nv_ok ha hb hi (by omega)
  have hg : goodD (mkP c0 (nvF a b i n x y z) lx16 tx16_26).ds 0 = true := by kernel_rfl
  have T : Txt (nvF a b i n x y z) lx16 tx16_26 [] := txt_n spa16 hg w3q16 rfl cv0 rfl
  have Tc : Txt (nvF a b i n x y z) lx16 tc16 [] := txt_n spa16 rfl w3q16 rfl cv0 rfl
  exact T.run hv (Tc.cmp2 hv E.y16 rfl rfl (by kernel_rfl)) hw (in1c h2 k0) rfl E.r16_26
theorem t16_27 (E : Ev16) {a b i : Int} (ha : Sn.I5 a) (hb : Sn.I5 b) (hi : Sn.I5 i) (n : Nat) (hn : n < 30) (x y z : Int) {w : World} (hw : Lw w) {k : Nat} (h2 : 2 ≤ k) (k0 : w.cell? ⟨k, 0, none⟩ = some (.int .i64 (27 : Nat))) : RunIs ⟨(flat (dgN (nvF a b i n x y z)) lx16).toArray⟩ (.slice (some ⟨k, 0, none⟩) 1 1) 66 1 w 0 0 (27) [] 1 := by
  have hv : Nv (nvF a b i n x y z) := nv_ok ha hb hi (by omega)
  have hg : goodD (mkP c0 (nvF a b i n x y z) lx16 tx16_27).ds 0 = true := by kernel_rfl
  have T : Txt (nvF a b i n x y z) lx16 tx16_27 [] := txt_n spa16 hg w3q16 rfl cv0 rfl
  have Tc : Txt (nvF a b i n x y z) lx16 tc16 [] := txt_n spa16 rfl w3q16 rfl cv0 rfl
  exact T.run hv (Tc.cmp2 hv E.y16 rfl rfl (by kernel_rfl)) hw (in1c h2 k0) rfl E.r16_27
theorem t16_28 (E : Ev16) {a b i : Int} (ha : Sn.I5 a) (hb : Sn.I5 b) (hi : Sn.I5 i) (n : Nat) (hn : n < 30) (x y z : Int) {w : World} (hw : Lw w) {k : Nat} (h2 : 2 ≤ k) (k0 : w.cell? ⟨k, 0, none⟩ = some (.int .i64 (28 : Nat))) : RunIs ⟨(flat (dgN (nvF a b i n x y z)) lx16).toArray⟩ (.slice (some ⟨k, 0, none⟩) 1 1) 66 1 w 0 0 (28) [] 1 := by
  have hv : Nv (nvF a b i n x y z) := nv_ok ha hb hi (by omega)
  have hg : goodD (mkP c0 (nvF a b i n x y z) lx16 tx16_28).ds 0 = true := by kernel_rfl
  have T : Txt (nvF a b i n x y z) lx16 tx16_28 [] := txt_n spa16 hg w3q16 rfl cv0 rfl
  have Tc : Txt (nvF a b i n x y z) lx16 tc16 [] := txt_n spa16 rfl w3q16 rfl cv0 rfl
  exact T.run hv (Tc.cmp2 hv E.y16 rfl rfl (by kernel_rfl)) hw (in1c h2 k0) rfl E.r16_28
theorem t16_29 (E : Ev16) {a b i : Int} (ha : Sn.I5 a) (hb : Sn.I5 b) (hi : Sn.I5 i) (n : Nat) (hn : n < 30) (x y z : Int) {w : World} (hw : Lw w) {k : Nat} (h2 : 2 ≤ k) (k0 : w.cell? ⟨k, 0, none⟩ = some (.int .i64 (29 : Nat))) : RunIs ⟨(flat (dgN (nvF a b i n x y z)) lx16).toArray⟩ (.slice (some ⟨k, 0, none⟩) 1 1) 66 1 w 0 0 (29) [] 1 := by
  have hv : Nv (nvF a b i n x y z) := nv_ok ha hb hi (by omega)
  have hg : goodD (mkP c0 (nvF a b i n x y z) lx16 tx16_29).ds 0 = true := by kernel_rfl
  have T : Txt (nvF a b i n x y z) lx16 tx16_29 [] := txt_n spa16 hg w3q16 rfl cv0 rfl
  have Tc : Txt (nvF a b i n x y z) lx16 tc16 [] := txt_n spa16 rfl w3q16 rfl cv0 rfl
  exact T.run hv (Tc.cmp2 hv E.y16 rfl rfl (by kernel_rfl)) hw (in1c h2 k0) rfl E.r16_29
theorem t16_30 (E : Ev16) {a b i : Int} (ha : Sn.I5 a) (hb : Sn.I5 b) (hi : Sn.I5 i) (n : Nat) (hn : n < 30) (x y z : Int) {w : World} (hw : Lw w) {k : Nat} (h2 : 2 ≤ k) (k0 : w.cell? ⟨k, 0, none⟩ = some (.int .i64 (30 : Nat))) : RunIs ⟨(flat (dgN (nvF a b i n x y z)) lx16).toArray⟩ (.slice (some ⟨k, 0, none⟩) 1 1) 66 1 w 0 0 (30) [] 1 := by
  have hv : Nv (nvF a b i n x y z) := nv_ok ha hb hi (by omega)
  have hg : goodD (mkP c0 (nvF a b i n x y z) lx16 tx16_30).ds 0 = true := by kernel_rfl
  have T : Txt (nvF a b i n x y z) lx16 tx16_30 [] := txt_n spa16 hg w3q16 rfl cv0 rfl
  have Tc : Txt (nvF a b i n x y z) lx16 tc16 [] := txt_n spa16 rfl w3q16 rfl cv0 rfl
  exact T.run hv (Tc.cmp2 hv E.y16 rfl rfl (by kernel_rfl)) hw (in1c h2 k0) rfl E.r16_30
theorem t16_31 (E : Ev16) {a b i : Int} (ha : Sn.I5 a) (hb : Sn.I5 b) (hi : Sn.I5 i) (n : Nat) (hn : n < 30) (x y z : Int) {w : World} (hw : Lw w) {k : Nat} (h2 : 2 ≤ k) (k0 : w.cell? ⟨k, 0, none⟩ = some (.int .i64 (31 : Nat))) : RunIs ⟨(flat (dgN (nvF a b i n x y z)) lx16).toArray⟩ (.slice (some ⟨k, 0, none⟩) 1 1) 66 1 w 0 0 (31) [] 1 := by
  have hv : Nv (nvF a b i n x y z) := nv_ok ha hb hi (by omega)
  have hg : goodD (mkP c0 (nvF a b i n x y z) lx16 tx16_31).ds 0 = true := by kernel_rfl
  have T : Txt (nvF a b i n x y z) lx16 tx16_31 [] := txt_n spa16 hg w3q16 rfl cv0 rfl
  have Tc : Txt (nvF a b i n x y z) lx16 tc16 [] := txt_n spa16 rfl w3q16 rfl cv0 rfl
  exact T.run hv (Tc.cmp2 hv E.y16 rfl rfl (by kernel_rfl)) hw (in1c h2 k0) rfl E.r16_31
theorem t16_32 (E : Ev16) {a b i : Int} (ha : Sn.I5 a) (hb : Sn.I5 b) (hi : Sn.I5 i) (n : Nat) (hn : n < 30) (x y z : Int) {w : World} (hw : Lw w) {k : Nat} (h2 : 2 ≤ k) (k0 : w.cell? ⟨k, 0, none⟩ = some (.int .i64 (32 : Nat))) : RunIs ⟨(flat (dgN (nvF a b i n x y z)) lx16).toArray⟩ (.slice (some ⟨k, 0, none⟩) 1 1) 66 1 w 0 0 (32) [] 1 := by
  have hv : Nv (nvF a b i n x y z) := nv_ok ha hb hi (by omega)
  have hg : goodD (mkP c0 (nvF a b i n x y z) lx16 tx16_32).ds 0 = true := by kernel_rfl
  have T : Txt (nvF a b i n x y z) lx16 tx16_32 [] := txt_n spa16 hg w3q16 rfl cv0 rfl
  have Tc : Txt (nvF a b i n x y z) lx16 tc16 [] := txt_n spa16 rfl w3q16 rfl cv0 rfl
  exact T.run hv (Tc.cmp2 hv E.y16 rfl rfl (by kernel_rfl)) hw (in1c h2 k0) rfl E.r16_32
end Lo
end Go.Proofs.YtjmifcnfnihhnaaGreatDoor
/- LOOPED: the text that is refused. -/
set_option linter.unusedVariables false
set_option linter.unusedSimpArgs false
namespace Go.Proofs.YtjmifcnfnihhnaaGreatDoor
namespace Lo
open Ev Go.RowKit Sm Sl
structure Ev6 : Prop where
  y6 : isErr 4 (compR tx6) = true
  r6 : isNo (runR (.tp [.c (.s []), .c (nI 4), .c (.y 3)]) tx6 [] 0 1) = true
theorem spa6 : spA lx6 [] tx6.cs = true := by kernel_rfl
theorem w3q6 : tx6.w3 = w3s lx6 := by kernel_rfl
section
variable {a b i : Int} {n : Nat} {x y : Int}
theorem nN_z (z z' : Int) : nN (nvF a b i n x y z) = nN (nvF a b i n x y z') := by
  funext j
  unfold nN
  split
  · rename_i h
    have : j = 4 ∨ j = 5 ∨ j = 6 ∨ j = 7 := by omega
    rcases this with rfl | rfl | rfl | rfl <;> rfl
  · rfl
theorem dgN_z (z z' : Int) : dgN (nvF a b i n x y z) = dgN (nvF a b i n x y z') := by
  funext j
  show Sn.decL (nN _ j) = Sn.decL (nN _ j)
  rw [nN_z z z']
theorem tx6_ok (z : Int) : Txt (nvF a b i n x y z) lx6 tx6 [] := txt_n spa6 rfl w3q6 rfl cv0 rfl
theorem t6 (E : Ev6) (ha : Sn.I5 a) (hb : Sn.I5 b) (hi : Sn.I5 i) (hn : n < 30) (z : Int) {w : World} (hw : Lw w) : RunNo ⟨(flat (dgN (nvF a b i n x y z)) lx6).toArray⟩ (.slice none 0 0) 0 1 w := by
  have hv : ∀ z, Nv (nvF a b i n x y z) := fun z => nv_ok ha hb hi (by omega)
  refine run_no (p := mkP c0 (nvF a b i n x y z) lx6 tx6) (n := 4) rfl (by omega) ((tx6_ok z).ok (hv z)) E.y6 hw E.r6 (fun z' => ⟨mkP c0 (nvF a b i n x y z') lx6 tx6, ?_, rfl, rfl, ?_⟩)
  · show (⟨(flat (dgN (nvF a b i n x y z')) lx6).toArray⟩ : ByteArray) = ⟨(flat (dgN (nvF a b i n x y z)) lx6).toArray⟩
    rw [dgN_z z' z]
  · have := (tx6_ok (a := a) (b := b) (i := i) (n := n) (x := x) (y := y) z').ok (hv z') c0
    rw [dgN_z z' z, nN_z z' z] at this
    exact this
end
end Lo
end Go.Proofs.YtjmifcnfnihhnaaGreatDoor
/- LOOPED: the texts are the law's own. Written by wip/genloop.py. -/
set_option linter.unusedVariables false
set_option linter.unusedSimpArgs false
namespace Go.Proofs.YtjmifcnfnihhnaaGreatDoor
namespace Lo
open Ev Go.RowKit Sm Sl
theorem dg7 (a b i : Int) (n : Nat) (x y z : Int) : dgN (nvF a b i n x y z) 7 = Sn.decL n := rfl
theorem sd4p {a b i : Int} {n : Nat} {x y z : Int} (h : 0 ≤ a) : Sn.saidS a = dgN (nvF a b i n x y z) 4 := by
  show _ = Sn.decL (NN a).toNat
  unfold Sn.saidS
  rw [if_neg (by omega), NN_pos h]
theorem sd4n {a b i : Int} {n : Nat} {x y z : Int} (h : a < 0) : Sn.saidS a = [40, 45] ++ dgN (nvF a b i n x y z) 4 ++ [45, 49, 41] := by
  show _ = [40, 45] ++ Sn.decL (NN a).toNat ++ [45, 49, 41]
  unfold Sn.saidS NN
  rw [if_pos h, if_pos h]
theorem sd5p {a b i : Int} {n : Nat} {x y z : Int} (h : 0 ≤ b) : Sn.saidS b = dgN (nvF a b i n x y z) 5 := by
  show _ = Sn.decL (NN b).toNat
  unfold Sn.saidS
  rw [if_neg (by omega), NN_pos h]
theorem sd5n {a b i : Int} {n : Nat} {x y z : Int} (h : b < 0) : Sn.saidS b = [40, 45] ++ dgN (nvF a b i n x y z) 5 ++ [45, 49, 41] := by
  show _ = [40, 45] ++ Sn.decL (NN b).toNat ++ [45, 49, 41]
  unfold Sn.saidS NN
  rw [if_pos h, if_pos h]
theorem sd6p {a b i : Int} {n : Nat} {x y z : Int} (h : 0 ≤ i) : Sn.saidS i = dgN (nvF a b i n x y z) 6 := by
  show _ = Sn.decL (NN i).toNat
  unfold Sn.saidS
  rw [if_neg (by omega), NN_pos h]
theorem sd6n {a b i : Int} {n : Nat} {x y z : Int} (h : i < 0) : Sn.saidS i = [40, 45] ++ dgN (nvF a b i n x y z) 6 ++ [45, 49, 41] := by
  show _ = [40, 45] ++ Sn.decL (NN i).toNat ++ [45, 49, 41]
  unfold Sn.saidS NN
  rw [if_pos h, if_pos h]
def sr1 (a b i : Int) (n : Nat) : List UInt8 := [108, 101, 116, 32, 114, 101, 99, 32, 102, 32, 110, 32, 97, 61, 105, 102, 32, 110, 61, 48, 32, 116, 104, 101, 110, 32, 97, 32, 101, 108, 115, 101, 32, 102, 40, 110, 45, 49, 41, 40, 97, 43, 110, 41, 105, 110, 32, 102, 32] ++ (Sn.decL n ++ ([32, 48]))
def sr2 (a b i : Int) (n : Nat) : List UInt8 := [108, 101, 116, 32, 114, 101, 99, 32, 102, 32, 110, 61, 105, 102, 32, 110, 61, 48, 32, 116, 104, 101, 110, 32, 48, 32, 101, 108, 115, 101, 32, 110, 43, 102, 40, 110, 45, 49, 41, 105, 110, 32, 102, 32] ++ (Sn.decL n ++ ([]))
def sr3 (a b i : Int) (n : Nat) : List UInt8 := [108, 101, 116, 32, 116, 61, 40, 114, 101, 97, 100, 44, 114, 101, 97, 100, 41, 105, 110, 32, 108, 101, 116, 32, 114, 101, 99, 32, 102, 32, 110, 61, 105, 102, 32, 110, 61, 48, 32, 116, 104, 101, 110, 32, 48, 32, 101, 108, 115, 101, 32, 108, 101, 116, 32, 97, 61, 97, 114, 114, 97, 121, 32, 57, 32, 110, 32, 105, 110, 32, 102, 40, 97, 46, 40, 56, 41, 45, 49, 41, 105, 110, 32, 108, 101, 116, 32, 122, 61, 102, 32] ++ (Sn.decL n ++ ([32, 105, 110, 32, 108, 101, 116, 40, 120, 44, 121, 41, 61, 116, 32, 105, 110, 32, 120, 45, 121]))
def sr4 (a b i : Int) (n : Nat) : List UInt8 := [108, 101, 116, 32, 114, 101, 99, 32, 109, 32, 110, 61, 102, 117, 110, 32, 120, 45, 62, 120, 42, 51, 45, 110, 32, 105, 110, 32, 108, 101, 116, 32, 102, 61, 109, 32] ++ (Sn.saidS a ++ ([32, 105, 110, 32, 108, 101, 116, 32, 103, 61, 109, 32] ++ (Sn.saidS b ++ ([32, 105, 110, 32, 102, 40, 103, 32, 114, 101, 97, 100, 41]))))
def sr5 (a b i : Int) (n : Nat) : List UInt8 := [108, 101, 116, 32, 98, 61, 114, 101, 97, 100, 32, 105, 110, 32, 108, 101, 116, 32, 114, 101, 99, 32, 105, 116, 32, 110, 32, 102, 32, 120, 61, 105, 102, 32, 110, 61, 48, 32, 116, 104, 101, 110, 32, 120, 32, 101, 108, 115, 101, 32, 105, 116, 40, 110, 45, 49, 41, 102, 40, 102, 32, 120, 41, 105, 110, 32, 105, 116, 32] ++ (Sn.decL n ++ ([40, 102, 117, 110, 32, 120, 45, 62, 120, 42, 51, 43, 98, 41, 114, 101, 97, 100]))
def sr6 (a b i : Int) (n : Nat) : List UInt8 := [108, 101, 116, 32, 114, 101, 99, 32, 102, 32, 97, 32, 98, 32, 99, 32, 100, 32, 110, 61, 105, 102, 32, 110, 61, 48, 32, 116, 104, 101, 110, 40, 40, 97, 42, 49, 48, 43, 98, 41, 42, 49, 48, 43, 99, 41, 42, 49, 48, 43, 100, 32, 101, 108, 115, 101, 32, 102, 32, 100, 32, 97, 32, 98, 32, 99, 40, 110, 45, 49, 41, 105, 110, 32, 49]
def sr7 (a b i : Int) (n : Nat) : List UInt8 := [108, 101, 116, 32, 114, 101, 99, 32, 102, 32, 97, 32, 98, 32, 99, 32, 110, 61, 105, 102, 32, 110, 61, 48, 32, 116, 104, 101, 110, 40, 97, 42, 49, 48, 43, 98, 41, 42, 49, 48, 43, 99, 32, 101, 108, 115, 101, 32, 102, 32, 99, 32, 97, 32, 98, 40, 110, 45, 49, 41, 105, 110, 32, 102, 32, 49, 32, 50, 32, 51, 32] ++ (Sn.decL n ++ ([]))
def sr8 (a b i : Int) (n : Nat) : List UInt8 := [40, 112, 114, 105, 110, 116, 32] ++ (Sn.saidS a ++ ([59] ++ (Sn.saidS b ++ ([41, 45, 40, 112, 114, 105, 110, 116, 32] ++ (Sn.saidS b ++ ([59] ++ (Sn.saidS a ++ ([41]))))))))
def sr9 (a b i : Int) (n : Nat) : List UInt8 := [40, 112, 114, 105, 110, 116, 32, 48, 59, 102, 117, 110, 32, 120, 32, 121, 45, 62, 120, 45, 121, 41, 40, 112, 114, 105, 110, 116, 32, 49, 59, 114, 101, 97, 100, 41, 40, 112, 114, 105, 110, 116, 32, 50, 59, 114, 101, 97, 100, 41]
def sr10 (a b i : Int) (n : Nat) : List UInt8 := [108, 101, 116, 32, 97, 61, 97, 114, 114, 97, 121, 40, 112, 114, 105, 110, 116, 32, 49, 59, 50, 41, 40, 112, 114, 105, 110, 116, 32, 50, 59, 55, 41, 105, 110, 32, 112, 117, 116, 40, 112, 114, 105, 110, 116, 32, 51, 59, 97, 41, 40, 112, 114, 105, 110, 116, 32, 52, 59, 49, 41, 40, 112, 114, 105, 110, 116, 32, 53, 59, 56, 41, 59, 108, 101, 116, 40, 120, 44, 121, 41, 61, 40, 40, 112, 114, 105, 110, 116, 32, 54, 59, 97, 41, 46, 40, 112, 114, 105, 110, 116, 32, 55, 59, 48, 41, 44, 40, 112, 114, 105, 110, 116, 32, 56, 59, 97, 41, 46, 40, 112, 114, 105, 110, 116, 32, 57, 59, 49, 41, 41, 105, 110, 32, 120, 42, 49, 48, 43, 121]
def sr11 (a b i : Int) (n : Nat) : List UInt8 := [114, 101, 97, 100, 43, 114, 101, 97, 100]
def sr12 (a b i : Int) (n : Nat) : List UInt8 := [108, 101, 116, 32, 114, 101, 99, 32, 102, 32, 110, 61, 105, 102, 32, 110, 61, 48, 32, 116, 104, 101, 110, 32, 48, 32, 101, 108, 115, 101, 40, 112, 114, 105, 110, 116, 32, 110, 59, 102, 40, 110, 45, 49, 41, 41, 105, 110, 32, 102, 32] ++ (Sn.decL n ++ ([]))
def sr13 (a b i : Int) (n : Nat) : List UInt8 := [108, 101, 116, 32, 120, 61] ++ (Sn.saidS a ++ ([32, 105, 110, 32, 108, 101, 116, 32, 121, 61, 40, 108, 101, 116, 32, 120, 61] ++ (Sn.saidS b ++ ([32, 105, 110, 32, 120, 41, 105, 110, 32, 108, 101, 116, 32, 120, 61, 120, 45, 121, 32, 105, 110, 32, 120]))))
def sr14 (a b i : Int) (n : Nat) : List UInt8 := [108, 101, 116, 32, 120, 61, 114, 101, 97, 100, 32, 105, 110, 32, 108, 101, 116, 32, 121, 61, 114, 101, 97, 100, 32, 105, 110, 32, 120, 45, 121, 45, 55, 43, 120, 42, 121, 45, 120, 47, 51, 47, 50, 37, 53]
def sr15 (a b i : Int) (n : Nat) : List UInt8 := [108, 101, 116, 32, 116, 61, 97, 114, 114, 97, 121, 32] ++ (Sn.decL n ++ ([32] ++ (Sn.saidS a ++ ([32, 105, 110, 32, 112, 117, 116, 32, 116, 32] ++ (Sn.saidS i ++ ([40, 116, 46, 40] ++ (Sn.saidS i ++ ([41, 45] ++ (Sn.saidS b ++ ([41, 59, 108, 101, 116, 32, 117, 61, 116, 32, 105, 110, 32, 117, 46, 40] ++ (Sn.saidS i ++ ([41]))))))))))))
def sr16 (a b i : Int) (n : Nat) : List UInt8 := [108, 101, 110, 40, 97, 114, 114, 97, 121, 40, 114, 101, 97, 100, 41, 55, 41]
set_option maxRecDepth 100000 in
theorem src1 {a b i : Int} (n : Nat) (x y z : Int) : flat (dgN (nvF a b i n x y z)) lx1 = sr1 a b i n := by
  rfl
set_option maxRecDepth 100000 in
theorem src2 {a b i : Int} (n : Nat) (x y z : Int) : flat (dgN (nvF a b i n x y z)) lx2 = sr2 a b i n := by
  rfl
set_option maxRecDepth 100000 in
theorem src3 {a b i : Int} (n : Nat) (x y z : Int) : flat (dgN (nvF a b i n x y z)) lx3 = sr3 a b i n := by
  rfl
set_option maxRecDepth 100000 in
theorem src4_00 {a b i : Int} (sa : 0 ≤ a) (sb : 0 ≤ b) (n : Nat) (x y z : Int) : flat (dgN (nvF a b i n x y z)) lx4_00 = sr4 a b i n := by
  unfold sr4
  rw [sd4p (a := a) (b := b) (i := i) (n := n) (x := x) (y := y) (z := z) sa, sd5p (a := a) (b := b) (i := i) (n := n) (x := x) (y := y) (z := z) sb]
  simp only [List.append_assoc, List.cons_append, List.nil_append]
  rfl
set_option maxRecDepth 100000 in
theorem src4_01 {a b i : Int} (sa : 0 ≤ a) (sb : b < 0) (n : Nat) (x y z : Int) : flat (dgN (nvF a b i n x y z)) lx4_01 = sr4 a b i n := by
  unfold sr4
  rw [sd4p (a := a) (b := b) (i := i) (n := n) (x := x) (y := y) (z := z) sa, sd5n (a := a) (b := b) (i := i) (n := n) (x := x) (y := y) (z := z) sb]
  simp only [List.append_assoc, List.cons_append, List.nil_append]
  rfl
set_option maxRecDepth 100000 in
theorem src4_10 {a b i : Int} (sa : a < 0) (sb : 0 ≤ b) (n : Nat) (x y z : Int) : flat (dgN (nvF a b i n x y z)) lx4_10 = sr4 a b i n := by
  unfold sr4
  rw [sd4n (a := a) (b := b) (i := i) (n := n) (x := x) (y := y) (z := z) sa, sd5p (a := a) (b := b) (i := i) (n := n) (x := x) (y := y) (z := z) sb]
  simp only [List.append_assoc, List.cons_append, List.nil_append]
  rfl
set_option maxRecDepth 100000 in
theorem src4_11 {a b i : Int} (sa : a < 0) (sb : b < 0) (n : Nat) (x y z : Int) : flat (dgN (nvF a b i n x y z)) lx4_11 = sr4 a b i n := by
  unfold sr4
  rw [sd4n (a := a) (b := b) (i := i) (n := n) (x := x) (y := y) (z := z) sa, sd5n (a := a) (b := b) (i := i) (n := n) (x := x) (y := y) (z := z) sb]
  simp only [List.append_assoc, List.cons_append, List.nil_append]
  rfl
set_option maxRecDepth 100000 in
theorem src5 {a b i : Int} (n : Nat) (x y z : Int) : flat (dgN (nvF a b i n x y z)) lx5 = sr5 a b i n := by
  rfl
set_option maxRecDepth 100000 in
theorem src7 {a b i : Int} (n : Nat) (x y z : Int) : flat (dgN (nvF a b i n x y z)) lx7 = sr7 a b i n := by
  rfl
set_option maxRecDepth 100000 in
theorem src8_00 {a b i : Int} (sa : 0 ≤ a) (sb : 0 ≤ b) (n : Nat) (x y z : Int) : flat (dgN (nvF a b i n x y z)) lx8_00 = sr8 a b i n := by
  unfold sr8
  rw [sd4p (a := a) (b := b) (i := i) (n := n) (x := x) (y := y) (z := z) sa, sd5p (a := a) (b := b) (i := i) (n := n) (x := x) (y := y) (z := z) sb]
  simp only [List.append_assoc, List.cons_append, List.nil_append]
  rfl
set_option maxRecDepth 100000 in
theorem src8_01 {a b i : Int} (sa : 0 ≤ a) (sb : b < 0) (n : Nat) (x y z : Int) : flat (dgN (nvF a b i n x y z)) lx8_01 = sr8 a b i n := by
  unfold sr8
  rw [sd4p (a := a) (b := b) (i := i) (n := n) (x := x) (y := y) (z := z) sa, sd5n (a := a) (b := b) (i := i) (n := n) (x := x) (y := y) (z := z) sb]
  simp only [List.append_assoc, List.cons_append, List.nil_append]
  rfl
set_option maxRecDepth 100000 in
theorem src8_10 {a b i : Int} (sa : a < 0) (sb : 0 ≤ b) (n : Nat) (x y z : Int) : flat (dgN (nvF a b i n x y z)) lx8_10 = sr8 a b i n := by
  unfold sr8
  rw [sd4n (a := a) (b := b) (i := i) (n := n) (x := x) (y := y) (z := z) sa, sd5p (a := a) (b := b) (i := i) (n := n) (x := x) (y := y) (z := z) sb]
  simp only [List.append_assoc, List.cons_append, List.nil_append]
  rfl
set_option maxRecDepth 100000 in
theorem src8_11 {a b i : Int} (sa : a < 0) (sb : b < 0) (n : Nat) (x y z : Int) : flat (dgN (nvF a b i n x y z)) lx8_11 = sr8 a b i n := by
  unfold sr8
  rw [sd4n (a := a) (b := b) (i := i) (n := n) (x := x) (y := y) (z := z) sa, sd5n (a := a) (b := b) (i := i) (n := n) (x := x) (y := y) (z := z) sb]
  simp only [List.append_assoc, List.cons_append, List.nil_append]
  rfl
set_option maxRecDepth 100000 in
theorem src9 {a b i : Int} (n : Nat) (x y z : Int) : flat (dgN (nvF a b i n x y z)) lx9 = sr9 a b i n := by
  rfl
set_option maxRecDepth 100000 in
theorem src10 {a b i : Int} (n : Nat) (x y z : Int) : flat (dgN (nvF a b i n x y z)) lx10 = sr10 a b i n := by
  rfl
set_option maxRecDepth 100000 in
theorem src11 {a b i : Int} (n : Nat) (x y z : Int) : flat (dgN (nvF a b i n x y z)) lx11 = sr11 a b i n := by
  rfl
set_option maxRecDepth 100000 in
theorem src12 {a b i : Int} (n : Nat) (x y z : Int) : flat (dgN (nvF a b i n x y z)) lx12 = sr12 a b i n := by
  rfl
set_option maxRecDepth 100000 in
theorem src13_00 {a b i : Int} (sa : 0 ≤ a) (sb : 0 ≤ b) (n : Nat) (x y z : Int) : flat (dgN (nvF a b i n x y z)) lx13_00 = sr13 a b i n := by
  unfold sr13
  rw [sd4p (a := a) (b := b) (i := i) (n := n) (x := x) (y := y) (z := z) sa, sd5p (a := a) (b := b) (i := i) (n := n) (x := x) (y := y) (z := z) sb]
  simp only [List.append_assoc, List.cons_append, List.nil_append]
  rfl
set_option maxRecDepth 100000 in
theorem src13_01 {a b i : Int} (sa : 0 ≤ a) (sb : b < 0) (n : Nat) (x y z : Int) : flat (dgN (nvF a b i n x y z)) lx13_01 = sr13 a b i n := by
  unfold sr13
  rw [sd4p (a := a) (b := b) (i := i) (n := n) (x := x) (y := y) (z := z) sa, sd5n (a := a) (b := b) (i := i) (n := n) (x := x) (y := y) (z := z) sb]
  simp only [List.append_assoc, List.cons_append, List.nil_append]
  rfl
set_option maxRecDepth 100000 in
theorem src13_10 {a b i : Int} (sa : a < 0) (sb : 0 ≤ b) (n : Nat) (x y z : Int) : flat (dgN (nvF a b i n x y z)) lx13_10 = sr13 a b i n := by
  unfold sr13
  rw [sd4n (a := a) (b := b) (i := i) (n := n) (x := x) (y := y) (z := z) sa, sd5p (a := a) (b := b) (i := i) (n := n) (x := x) (y := y) (z := z) sb]
  simp only [List.append_assoc, List.cons_append, List.nil_append]
  rfl
set_option maxRecDepth 100000 in
theorem src13_11 {a b i : Int} (sa : a < 0) (sb : b < 0) (n : Nat) (x y z : Int) : flat (dgN (nvF a b i n x y z)) lx13_11 = sr13 a b i n := by
  unfold sr13
  rw [sd4n (a := a) (b := b) (i := i) (n := n) (x := x) (y := y) (z := z) sa, sd5n (a := a) (b := b) (i := i) (n := n) (x := x) (y := y) (z := z) sb]
  simp only [List.append_assoc, List.cons_append, List.nil_append]
  rfl
set_option maxRecDepth 100000 in
theorem src14 {a b i : Int} (n : Nat) (x y z : Int) : flat (dgN (nvF a b i n x y z)) lx14 = sr14 a b i n := by
  rfl
set_option maxRecDepth 100000 in
theorem src15_000 {a b i : Int} (sa : 0 ≤ a) (sb : 0 ≤ b) (si : 0 ≤ i) (n : Nat) (x y z : Int) : flat (dgN (nvF a b i n x y z)) lx15_000 = sr15 a b i n := by
  unfold sr15
  rw [sd4p (a := a) (b := b) (i := i) (n := n) (x := x) (y := y) (z := z) sa, sd5p (a := a) (b := b) (i := i) (n := n) (x := x) (y := y) (z := z) sb, sd6p (a := a) (b := b) (i := i) (n := n) (x := x) (y := y) (z := z) si]
  simp only [List.append_assoc, List.cons_append, List.nil_append]
  rfl
set_option maxRecDepth 100000 in
theorem src15_001 {a b i : Int} (sa : 0 ≤ a) (sb : 0 ≤ b) (si : i < 0) (n : Nat) (x y z : Int) : flat (dgN (nvF a b i n x y z)) lx15_001 = sr15 a b i n := by
  unfold sr15
  rw [sd4p (a := a) (b := b) (i := i) (n := n) (x := x) (y := y) (z := z) sa, sd5p (a := a) (b := b) (i := i) (n := n) (x := x) (y := y) (z := z) sb, sd6n (a := a) (b := b) (i := i) (n := n) (x := x) (y := y) (z := z) si]
  simp only [List.append_assoc, List.cons_append, List.nil_append]
  rfl
set_option maxRecDepth 100000 in
theorem src15_010 {a b i : Int} (sa : 0 ≤ a) (sb : b < 0) (si : 0 ≤ i) (n : Nat) (x y z : Int) : flat (dgN (nvF a b i n x y z)) lx15_010 = sr15 a b i n := by
  unfold sr15
  rw [sd4p (a := a) (b := b) (i := i) (n := n) (x := x) (y := y) (z := z) sa, sd5n (a := a) (b := b) (i := i) (n := n) (x := x) (y := y) (z := z) sb, sd6p (a := a) (b := b) (i := i) (n := n) (x := x) (y := y) (z := z) si]
  simp only [List.append_assoc, List.cons_append, List.nil_append]
  rfl
set_option maxRecDepth 100000 in
theorem src15_011 {a b i : Int} (sa : 0 ≤ a) (sb : b < 0) (si : i < 0) (n : Nat) (x y z : Int) : flat (dgN (nvF a b i n x y z)) lx15_011 = sr15 a b i n := by
  unfold sr15
  rw [sd4p (a := a) (b := b) (i := i) (n := n) (x := x) (y := y) (z := z) sa, sd5n (a := a) (b := b) (i := i) (n := n) (x := x) (y := y) (z := z) sb, sd6n (a := a) (b := b) (i := i) (n := n) (x := x) (y := y) (z := z) si]
  simp only [List.append_assoc, List.cons_append, List.nil_append]
  rfl
set_option maxRecDepth 100000 in
theorem src15_100 {a b i : Int} (sa : a < 0) (sb : 0 ≤ b) (si : 0 ≤ i) (n : Nat) (x y z : Int) : flat (dgN (nvF a b i n x y z)) lx15_100 = sr15 a b i n := by
  unfold sr15
  rw [sd4n (a := a) (b := b) (i := i) (n := n) (x := x) (y := y) (z := z) sa, sd5p (a := a) (b := b) (i := i) (n := n) (x := x) (y := y) (z := z) sb, sd6p (a := a) (b := b) (i := i) (n := n) (x := x) (y := y) (z := z) si]
  simp only [List.append_assoc, List.cons_append, List.nil_append]
  rfl
set_option maxRecDepth 100000 in
theorem src15_101 {a b i : Int} (sa : a < 0) (sb : 0 ≤ b) (si : i < 0) (n : Nat) (x y z : Int) : flat (dgN (nvF a b i n x y z)) lx15_101 = sr15 a b i n := by
  unfold sr15
  rw [sd4n (a := a) (b := b) (i := i) (n := n) (x := x) (y := y) (z := z) sa, sd5p (a := a) (b := b) (i := i) (n := n) (x := x) (y := y) (z := z) sb, sd6n (a := a) (b := b) (i := i) (n := n) (x := x) (y := y) (z := z) si]
  simp only [List.append_assoc, List.cons_append, List.nil_append]
  rfl
set_option maxRecDepth 100000 in
theorem src15_110 {a b i : Int} (sa : a < 0) (sb : b < 0) (si : 0 ≤ i) (n : Nat) (x y z : Int) : flat (dgN (nvF a b i n x y z)) lx15_110 = sr15 a b i n := by
  unfold sr15
  rw [sd4n (a := a) (b := b) (i := i) (n := n) (x := x) (y := y) (z := z) sa, sd5n (a := a) (b := b) (i := i) (n := n) (x := x) (y := y) (z := z) sb, sd6p (a := a) (b := b) (i := i) (n := n) (x := x) (y := y) (z := z) si]
  simp only [List.append_assoc, List.cons_append, List.nil_append]
  rfl
set_option maxRecDepth 100000 in
theorem src15_111 {a b i : Int} (sa : a < 0) (sb : b < 0) (si : i < 0) (n : Nat) (x y z : Int) : flat (dgN (nvF a b i n x y z)) lx15_111 = sr15 a b i n := by
  unfold sr15
  rw [sd4n (a := a) (b := b) (i := i) (n := n) (x := x) (y := y) (z := z) sa, sd5n (a := a) (b := b) (i := i) (n := n) (x := x) (y := y) (z := z) sb, sd6n (a := a) (b := b) (i := i) (n := n) (x := x) (y := y) (z := z) si]
  simp only [List.append_assoc, List.cons_append, List.nil_append]
  rfl
set_option maxRecDepth 100000 in
theorem src16 {a b i : Int} (n : Nat) (x y z : Int) : flat (dgN (nvF a b i n x y z)) lx16 = sr16 a b i n := by
  rfl
set_option maxRecDepth 100000 in
theorem src6 {a b i : Int} (n : Nat) (x y z : Int) : flat (dgN (nvF a b i n x y z)) lx6 = sr6 a b i n := by
  rfl
end Lo
end Go.Proofs.YtjmifcnfnihhnaaGreatDoor
