import Derived.Test.YtjmgolahkgalbaaGreatDoorS02
import Derived.Test.YtjmgolahkgalbaaGreatDoorS08
import Derived.Test.YtjmgolahkgalbaaGreatDoorS09
import Derived.Test.YtjmgolahkgalbaaGreatDoorS11
set_option linter.unusedVariables false
set_option linter.unusedSimpArgs false
set_option maxHeartbeats 20000000
namespace Go.Proofs.YtjmgolahkgalbaaGreatDoor
open Go.RowKit Li
variable {s : ByteArray} {w : World}
set_option maxRecDepth 100000 in
theorem je6 (hs : s.size <= 600000) :
 Calls Tryz.prog 38 #[.string s] w fun e w' => e = .returned (.bool (hdB s)) /\ w' = w := by
 obtain ⟨R,hR⟩ : ∃ R,hdB s = R := ⟨_,rfl⟩
 rw [hR]
 by_cases h8 : s.size < 8
 ·have HR : Hid (R = false) := by rw [<- hR];unfold hdB;rw [decide_eq_false (by omega)];rfl
  clear hR
  go_enter Tryz.func38,Tryz.ntmps38
  go_wp2
  go_ret
  exact ⟨by rw [HR.out];rfl,rfl⟩
 ·have HD : Hid (hdB s = R) := hR
  have HF : Hid (nV s 2 2 = ((hF s : Nat) : Int)) := j8 s 2
  have HN : Hid (nV s 4 2 = ((hN s : Nat) : Int)) := j8 s 4
  have HL : Hid (nV s 6 2 = ((hL s : Nat) : Int)) := j8 s 6
  obtain ⟨F,hF'⟩ : ∃ F,hF s = F := ⟨_,rfl⟩
  obtain ⟨N,hN'⟩ : ∃ N,hN s = N := ⟨_,rfl⟩
  obtain ⟨L,hL'⟩ : ∃ L,hL s = L := ⟨_,rfl⟩
  have hFl : F < 65536 := by rw [<- hF'];exact ju _ _
  have hNl : N < 65536 := by rw [<- hN'];exact ju _ _
  have hLl : L < 65536 := by rw [<- hL'];exact ju _ _
  rw [hF'] at HF
  rw [hN'] at HN
  rw [hL'] at HL
  have CF : Hid (∀ (z n : Int) (w : World),z = 2 /\ n = 2 -> Calls Tryz.prog 40 #[.string s,.int .i64 z,.int .i64 n] w fun e w' => e = .returned (.int .i64 (F : Int)) /\ w' = w) := fun z n w hz => by rw [<- HF.out,hz.1,hz.2];exact Jz (a := 2) (n := 2) (by omega) (by omega)
  have CN : Hid (∀ (z n : Int) (w : World),z = 4 /\ n = 2 -> Calls Tryz.prog 40 #[.string s,.int .i64 z,.int .i64 n] w fun e w' => e = .returned (.int .i64 (N : Int)) /\ w' = w) := fun z n w hz => by rw [<- HN.out,hz.1,hz.2];exact Jz (a := 4) (n := 2) (by omega) (by omega)
  have CL : Hid (∀ (z n : Int) (w : World),z = 6 /\ n = 2 -> Calls Tryz.prog 40 #[.string s,.int .i64 z,.int .i64 n] w fun e w' => e = .returned (.int .i64 (L : Int)) /\ w' = w) := fun z n w hz => by rw [<- HL.out,hz.1,hz.2];exact Jz (a := 6) (n := 2) (by omega) (by omega)
  have HE : Hid (R = (decide ((s.extract 0 2).toList = [109,108]) && (decide (0 < F) && decide (s.size = 8 + 6 * F + 8 * N + 8 * L)))) := by
   show _ = _
   rw [<- hR]
   unfold hdB mlB
   rw [hF',hN',hL',decide_eq_true (show 8 <= s.size by omega)]
   rfl
  clear hF' hN' hL' hR
  by_cases hml : (s.extract 0 2).toList = [109,108]
  ·rw [decide_eq_true hml,Bool.true_and] at HE
   go_enter Tryz.func38,Tryz.ntmps38
   go_wp2_with (first
    | (go_at_call 40;refine (CF.out _ _ _ (by omega)).mono ?_;rintro _ w1 ⟨rfl,hw1⟩;have hw2 := hw1.symm;subst hw2)
    | (go_at_call 40;refine (CN.out _ _ _ (by omega)).mono ?_;rintro _ w1 ⟨rfl,hw1⟩;have hw2 := hw1.symm;subst hw2)
    | (go_at_call 40;refine (CL.out _ _ _ (by omega)).mono ?_;rintro _ w1 ⟨rfl,hw1⟩;have hw2 := hw1.symm;subst hw2))
   all_goals
    go_ret
    refine ⟨JQ ?_,rfl⟩
    rw [HE.out,Bool.eq_iff_iff]
    simp
    omega
  ·rw [decide_eq_false hml,Bool.false_and] at HE
   have hmb : ((s.extract 0 2).toList == [109,108]) = false := by simp [hml]
   go_enter Tryz.func38,Tryz.ntmps38
   go_wp2_with (first
    | (go_at_call 40;refine (CF.out _ _ _ (by omega)).mono ?_;rintro _ w1 ⟨rfl,hw1⟩;have hw2 := hw1.symm;subst hw2)
    | (go_at_call 40;refine (CN.out _ _ _ (by omega)).mono ?_;rintro _ w1 ⟨rfl,hw1⟩;have hw2 := hw1.symm;subst hw2)
    | (go_at_call 40;refine (CL.out _ _ _ (by omega)).mono ?_;rintro _ w1 ⟨rfl,hw1⟩;have hw2 := hw1.symm;subst hw2))
   all_goals first
    | (exfalso;exact hml (by assumption))
    | (go_ret;exact ⟨by rw [HE.out];rfl,rfl⟩)
structure jU (s : ByteArray) (w : World) (B : Nat) (vF vN vL : Value) : Prop where
 funs : w.ownsRow B 124 4 vF (hF s) (ji (cF s) (hF s))
 nums : w.ownsRow B 3 1 vN (hN s) (ji (cN s) (hN s))
 lines : w.ownsRow B 116 5 vL (hL s) (ji (cL s) (hL s))
theorem jgX {r F L k : Nat} (hs : s.size <= 600000) (hsz : 8 + 6 * F <= s.size) (hF : F < 65536) (hLl : L < 65536) (hL' : hL s = L) (hblk : w.heap[r]? = some (rdB s 8 jn jn jn)) (hb : bad (jt s) F 0 = some k) :
 Calls Tryz.prog 39 #[.pointer (some ⟨r,0,none⟩),.int .i64 F,.int .i64 L] w fun e w' => e = .returned (.bool false) /\ ∃ v,w'.heap[r]? = some (rdB s (8 + 6 * k) v jn jn) /\ Lone r w w' := by
 refine (jd9 hs hsz hF hLl hL' hblk).mono ?_
 rintro e w' ⟨k',v,h1,h2,⟨h3,h4⟩ | ⟨_,h4,_⟩⟩
 ·rw [hb] at h4
  injection h4 with h4
  subst h4
  exact ⟨h3,v,h1,h2⟩
 ·rw [hb] at h4;cases h4
theorem rows_ok {r F L : Nat} (hs : s.size <= 600000) (hsz : 8 + 6 * F <= s.size) (hF : F < 65536) (hLl : L < 65536) (hL' : hL s = L) (hblk : w.heap[r]? = some (rdB s 8 jn jn jn)) (hb : bad (jt s) F 0 = none) :
 Calls Tryz.prog 39 #[.pointer (some ⟨r,0,none⟩),.int .i64 F,.int .i64 L] w fun e w' => e = .returned (.bool true) /\ ∃ a c,w'.heap[r]? = some (rdB s (8 + 6 * F) (.slice a F c) jn jn) /\ Lone r w w' /\ w'.ownsRow w.heap.size 124 4 (.slice a F c) F (ji (cF s) F) := by
 refine (jd9 hs hsz hF hLl hL' hblk).mono ?_
 rintro e w' ⟨k',v,h1,h2,⟨h3,h4⟩ | ⟨h3,h4,h5,h6⟩⟩
 ·rw [hb] at h4;cases h4
 ·subst h5
  obtain ⟨a,c,rfl⟩ := j5 h6
  exact ⟨h3,a,c,h1,h2,h6⟩
theorem jlA {r F N k : Nat} {aF : Option Addr} {nF cF' : Nat} (hs : s.size <= 600000) (hsz : 8 + 6 * F + 8 * N <= s.size) (hFl : F < 65536) (hNl : N < 65536) (hF' : hF s = F) (hblk : w.heap[r]? = some (rdB s (8 + 6 * F) (.slice aF nF cF') jn jn)) (hb : bad (jX s) N 0 = some k) :
 Calls Tryz.prog 41 #[.pointer (some ⟨r,0,none⟩),.int .i64 N] w fun e w' => e = .returned (.bool false) /\ ∃ v,w'.heap[r]? = some (rdB s (8 + 6 * F + 8 * k) (.slice aF nF cF') v jn) /\ Lone r w w' := by
 refine (jfv hs hsz hFl hNl hF' hblk).mono ?_
 rintro e w' ⟨k',v,h1,h2,⟨h3,h4⟩ | ⟨_,h4,_⟩⟩
 ·rw [hb] at h4
  injection h4 with h4
  subst h4
  exact ⟨h3,v,h1,h2⟩
 ·rw [hb] at h4;cases h4
theorem jlz {r F N : Nat} {aF : Option Addr} {nF cF' : Nat} (hs : s.size <= 600000) (hsz : 8 + 6 * F + 8 * N <= s.size) (hFl : F < 65536) (hNl : N < 65536) (hF' : hF s = F) (hblk : w.heap[r]? = some (rdB s (8 + 6 * F) (.slice aF nF cF') jn jn)) (hb : bad (jX s) N 0 = none) :
 Calls Tryz.prog 41 #[.pointer (some ⟨r,0,none⟩),.int .i64 N] w fun e w' => e = .returned (.bool true) /\ ∃ a c,w'.heap[r]? = some (rdB s (8 + 6 * F + 8 * N) (.slice aF nF cF') (.slice a N c) jn) /\ Lone r w w' /\ w'.ownsRow w.heap.size 3 1 (.slice a N c) N (ji (cN s) N) := by
 refine (jfv hs hsz hFl hNl hF' hblk).mono ?_
 rintro e w' ⟨k',v,h1,h2,⟨h3,h4⟩ | ⟨h3,h4,h5,h6⟩⟩
 ·rw [hb] at h4;cases h4
 ·subst h5
  obtain ⟨a,c,rfl⟩ := j5 h6
  exact ⟨h3,a,c,h1,h2,h6⟩
def O38 : Obj := .cells #[.slice none 0 0,.slice none 0 0,.slice none 0 0] 68 (0,0)
def O60 (s : ByteArray) : Obj := .cells #[.string s,.int .i64 8,.slice none 0 0,.slice none 0 0,.slice none 0 0] 108 (0,0)
theorem jmY (s : ByteArray) : O60 s = rdB s 8 jn jn jn := rfl
theorem jdk {o o2 : Obj} {b : Nat} (h : b = w.heap.size) : ((w.alloc o).alloc o2).heap[b]? = some o := by
 subst h
 rw [Below.heap_alloc _ _ _ (by rw [World.size_alloc];omega)]
 exact jg w o
theorem Lone.own {r : Nat} {w w' : World} (h : Lone r w w') {base sz n : Nat} {e : TypeId} {v : Value} {xs : List Value} (ho : w.ownsRow base e sz v n xs) (hr : r < base) : w'.ownsRow base e sz v n xs :=
 j3 ho fun b hb => h.rest b (ho.lt b hb).2 (by have := (ho.lt b hb).1;omega)
theorem jc5 {W : World} {tmps : Array Value} {q : Nat} {x0 x1 x2 : Value} {er at' : Int} {Q : Ending -> World -> Prop} (ht : tmps.getD 2 undef = .pointer (some ⟨q,0,none⟩)) (h3 : tmps.getD 3 undef = .int .i64 er) (h4 : tmps.getD 4 undef = .int .i64 at')
 (c0 : W.cell? ⟨q,0,none⟩ = some x0) (c1 : W.cell? ⟨q,1,none⟩ = some x1) (c2 : W.cell? ⟨q,2,none⟩ = some x2) (hq : Q (.returned (.tuple #[.agg #[x0,x1,x2],.int .i64 er,.int .i64 at'])) W) :
 bodyPost Tryz.prog Tryz.f20 Q Exit.ret { tmps := tmps,defers := [] } W := by
 have ht' : tmps[2]?.getD undef = .pointer (some ⟨q,0,none⟩) := by simpa using ht
 have h3' : tmps[3]?.getD undef = .int .i64 er := by simpa using h3
 have h4' : tmps[4]?.getD undef = .int .i64 at' := by simpa using h4
 exact bodyPost_ret (v := .tuple #[.agg #[x0,x1,x2],.int .i64 er,.int .i64 at']) (by simp [results,Tryz.results20,go_sem,ht',h3',h4',c0,c1,c2]) rfl hq
theorem jlw {er at' : Nat} (hs : s.size <= 1073741824) (hd : 600000 < s.size \/ hdB s = false) (h : res s = some (er,at')) :
 Calls Tryz.prog 20 #[.string s] w fun e w' => e = .returned (.tuple #[.agg #[.slice none 0 0,.slice none 0 0,.slice none 0 0],.int .i64 er,.int .i64 at']) /\ Below w.heap.size w w' := by
 by_cases h1 : 600000 < s.size
 ·rw [jc2 h1] at h
  injection h with h
  injection h with h2 h3
  subst h2 h3
  clear hd
  go_enter Tryz.func20,Tryz.ntmps20
  go_wp2
  go_returns
  exact ⟨rfl,jB.alloc jN _⟩
 ·have hd' : hdB s = false := hd.resolve_left h1
  rw [jc3 (by omega) hd'] at h
  injection h with h
  injection h with h2 h3
  subst h2 h3
  have HW : Hid (∀ W : World,Calls Tryz.prog 38 #[.string s] W fun e w' => e = .returned (.bool false) /\ w' = W) := fun W => by
   have := je6 (s := s) (w := W) (by omega)
   rw [hd'] at this
   exact this
  clear hd hd'
  go_enter Tryz.func20,Tryz.ntmps20
  go_wp2_with (go_at_call 38;refine (HW.out _).mono ?_;rintro _ w1 ⟨rfl,hw1⟩;have hw2 := hw1.symm;subst hw2)
  go_returns
  exact ⟨rfl,jB.alloc jN _⟩
structure jcK (s : ByteArray) (F N L : Nat) : Prop where
 hs : s.size <= 600000
 hd : hdB s = true
 eF : hF s = F
 eN : hN s = N
 eL : hL s = L
 lF : F < 65536
 lN : N < 65536
 lL : L < 65536
 sz : s.size = 8 + 6 * F + 8 * N + 8 * L
 wh : ∀ W : World,Calls Tryz.prog 38 #[.string s] W fun e w' => e = .returned (.bool true) /\ w' = W
 cF : ∀ (z n : Int) (w : World),z = 2 /\ n = 2 -> Calls Tryz.prog 40 #[.string s,.int .i64 z,.int .i64 n] w fun e w' => e = .returned (.int .i64 (F : Int)) /\ w' = w
 cN : ∀ (z n : Int) (w : World),z = 4 /\ n = 2 -> Calls Tryz.prog 40 #[.string s,.int .i64 z,.int .i64 n] w fun e w' => e = .returned (.int .i64 (N : Int)) /\ w' = w
 cL : ∀ (z n : Int) (w : World),z = 6 /\ n = 2 -> Calls Tryz.prog 40 #[.string s,.int .i64 z,.int .i64 n] w fun e w' => e = .returned (.int .i64 (L : Int)) /\ w' = w
theorem jey (hs : s.size <= 600000) (hd : hdB s = true) : jcK s (hF s) (hN s) (hL s) := by
 obtain ⟨h8,_,_,hz⟩ := jco hd
 refine ⟨hs,hd,rfl,rfl,rfl,ju _ _,ju _ _,ju _ _,hz,fun W => ?_,?_,?_,?_⟩
 ·have := je6 (s := s) (w := W) hs
  rw [hd] at this
  exact this
 ·intro z n w h
  have := Jz (s := s) (a := 2) (n := 2) (w := w) hs (by omega)
  rw [j8] at this
  rw [h.1,h.2];exact this
 ·intro z n w h
  have := Jz (s := s) (a := 4) (n := 2) (w := w) hs (by omega)
  rw [j8] at this
  rw [h.1,h.2];exact this
 ·intro z n w h
  have := Jz (s := s) (a := 6) (n := 2) (w := w) hs (by omega)
  rw [j8] at this
  rw [h.1,h.2];exact this
set_option maxRecDepth 100000 in
theorem jlt {F N L k : Nat} (hn : jcK s F N L) (hb : bad (jt s) F 0 = some k) :
 Calls Tryz.prog 20 #[.string s] w fun e w' => e = .returned (.tuple #[.agg #[.slice none 0 0,.slice none 0 0,.slice none 0 0],.int .i64 10,.int .i64 ((8 + 6 * k : Nat) : Int)]) /\ Below w.heap.size w w' := by
 have HN := jH hn
 have hll := hn.lL
 have hfl := hn.lF
 have h600 := hn.hs
 have h601 := hn.sz
 have h602 : s.size <= 600000 := hn.hs
 have HRB : Hid (∀ (W : World) b q,W.heap[b]? = some (O60 s) -> W.heap[q]? = some O38 -> q < b -> Calls Tryz.prog 39 #[.pointer (some ⟨b,0,none⟩),.int .i64 F,.int .i64 L] W fun e w' => e = .returned (.bool false) /\ ∃ v,w'.heap[b]? = some (rdB s (8 + 6 * k) v jn jn) /\ w'.heap[q]? = some O38 /\ Below q W w') := fun W b q h1 h2 h3 => by
  refine (jgX hn.hs (by omega) hn.lF hn.lL hn.eL h1 hb).mono ?_
  rintro e w' ⟨he,v,h4,h5⟩
  exact ⟨he,v,h4,(h5.rest q (lt_of_block h2) (by omega)).trans h2,h5.below.mono (by omega)⟩
 clear hn hb h601 h600
 go_enter Tryz.func20,Tryz.ntmps20
 go_wp2_with (first
  | (go_at_call 38;refine (HN.out.wh _).mono ?_;rintro _ w1 ⟨rfl,hw1⟩;have hw2 := hw1.symm;subst hw2)
  | (go_at_call 40;refine (HN.out.cF _ _ _ (by omega)).mono ?_;rintro _ w1 ⟨rfl,hw1⟩;have hw2 := hw1.symm;subst hw2)
  | (go_at_call 40;refine (HN.out.cL _ _ _ (by omega)).mono ?_;rintro _ w1 ⟨rfl,hw1⟩;have hw2 := hw1.symm;subst hw2)
  | (go_at_call 39;refine (HRB.out _ _ w.heap.size (j9 (by simp)) (jdk rfl) (by omega)).mono ?_;rintro _ w2 ⟨rfl,v,hk2,hq2,hb2⟩;have c1 := ja hk2 1 rfl;have e0 := ja hq2 0 rfl;have e1 := ja hq2 1 rfl;have e2 := ja hq2 2 rfl;have p0 := je hq2 0;have p1 := je hq2 1;have p2 := je hq2 2;simp only [List.getElem_toArray,List.getElem_cons_zero,List.getElem_cons_succ] at c1 e0 e1 e2))
 go_region
 all_goals
  rename_i K2 hK2
  refine hK2 _ _ ?_
  clear hK2
  have hq3 := jf (jf (jf hq2 0 (.slice none 0 0)) 1 (.slice none 0 0)) 2 (.slice none 0 0)
  have HB3 : Hid (Below w.heap.size w (((w2.setCell ⟨w.heap.size,0,none⟩ (.slice none 0 0)).setCell ⟨w.heap.size,1,none⟩ (.slice none 0 0)).setCell ⟨w.heap.size,2,none⟩ (.slice none 0 0))) := ((((((Below.refl w.heap.size w).alloc jN O38).alloc (by rw [World.size_alloc];omega) (O60 s)).trans hb2).setCell (p := ⟨w.heap.size,0,none⟩) jN _).setCell (p := ⟨w.heap.size,1,none⟩) jN _).setCell (p := ⟨w.heap.size,2,none⟩) jN _
  generalize ((w2.setCell ⟨w.heap.size,0,none⟩ (.slice none 0 0)).setCell ⟨w.heap.size,1,none⟩ (.slice none 0 0)).setCell ⟨w.heap.size,2,none⟩ (.slice none 0 0) = W3 at *
  have x0 := ja hq3 0 rfl
  have x1 := ja hq3 1 rfl
  have x2 := ja hq3 2 rfl
  simp only [List.setIfInBounds_toArray,List.set_cons_zero,List.set_cons_succ,List.getElem_toArray,List.getElem_cons_zero,List.getElem_cons_succ] at x0 x1 x2
  clear hq3 c1 e0 e1 e2 p0 p1 p2
  go_wp2_with fail
  exact jc5 rfl rfl rfl x0 x1 x2 ⟨rfl,HB3.out.drew⟩
set_option maxRecDepth 100000 in
theorem jlv {F N L k : Nat} (hn : jcK s F N L) (hb0 : bad (jt s) F 0 = none) (hb : bad (jX s) N 0 = some k) :
 Calls Tryz.prog 20 #[.string s] w fun e w' => e = .returned (.tuple #[.agg #[.slice none 0 0,.slice none 0 0,.slice none 0 0],.int .i64 10,.int .i64 ((8 + 6 * F + 8 * k : Nat) : Int)]) /\ Below w.heap.size w w' := by
 have HN := jH hn
 have hll := hn.lL
 have hfl := hn.lF
 have hnl := hn.lN
 have h601 := hn.sz
 have h602 : s.size <= 600000 := hn.hs
 have HRB : Hid (∀ (W : World) b q,W.heap[b]? = some (O60 s) -> W.heap[q]? = some O38 -> q < b -> Calls Tryz.prog 39 #[.pointer (some ⟨b,0,none⟩),.int .i64 F,.int .i64 L] W fun e w' => e = .returned (.bool true) /\ ∃ a c,w'.heap[b]? = some (rdB s (8 + 6 * F) (.slice a F c) jn jn) /\ w'.heap[q]? = some O38 /\ Below q W w') := fun W b q h1 h2 h3 => by
  refine (rows_ok hn.hs (by omega) hn.lF hn.lL hn.eL h1 hb0).mono ?_
  rintro e w' ⟨he,a,c,h4,h5,h6⟩
  exact ⟨he,a,c,h4,(h5.rest q (lt_of_block h2) (by omega)).trans h2,h5.below.mono (by omega)⟩
 have HCB : Hid (∀ (W : World) b q a c,W.heap[b]? = some (rdB s (8 + 6 * F) (.slice a F c) jn jn) -> W.heap[q]? = some O38 -> q < b -> Calls Tryz.prog 41 #[.pointer (some ⟨b,0,none⟩),.int .i64 N] W fun e w' => e = .returned (.bool false) /\ ∃ v,w'.heap[b]? = some (rdB s (8 + 6 * F + 8 * k) (.slice a F c) v jn) /\ w'.heap[q]? = some O38 /\ Below q W w') := fun W b q a c h1 h2 h3 => by
  refine (jlA hn.hs (by omega) hn.lF hn.lN hn.eF h1 hb).mono ?_
  rintro e w' ⟨he,v,h4,h5⟩
  exact ⟨he,v,h4,(h5.rest q (lt_of_block h2) (by omega)).trans h2,h5.below.mono (by omega)⟩
 clear hn hb h601 hb0
 go_enter Tryz.func20,Tryz.ntmps20
 go_wp2_with (first
  | (go_at_call 38;refine (HN.out.wh _).mono ?_;rintro _ w1 ⟨rfl,hw1⟩;have hw2 := hw1.symm;subst hw2)
  | (go_at_call 40;refine (HN.out.cF _ _ _ (by omega)).mono ?_;rintro _ w1 ⟨rfl,hw1⟩;have hw2 := hw1.symm;subst hw2)
  | (go_at_call 40;refine (HN.out.cL _ _ _ (by omega)).mono ?_;rintro _ w1 ⟨rfl,hw1⟩;have hw2 := hw1.symm;subst hw2)
  | (go_at_call 40;refine (HN.out.cN _ _ _ (by omega)).mono ?_;rintro _ w1 ⟨rfl,hw1⟩;have hw2 := hw1.symm;subst hw2)
  | (go_at_call 39;refine (HRB.out _ _ w.heap.size (j9 (by simp)) (jdk rfl) (by omega)).mono ?_;rintro _ w5 ⟨rfl,a5,c5,hk5,hq5,hb5⟩;have HK5 := jH hk5;have HQ5 := jH hq5;clear hk5 hq5)
  | (go_at_call 41;refine (HCB.out _ _ w.heap.size _ _ HK5.out HQ5.out (by omega)).mono ?_;rintro _ w2 ⟨rfl,v,hk2,hq2,hb2⟩;have c1 := ja hk2 1 rfl;have e0 := ja hq2 0 rfl;have e1 := ja hq2 1 rfl;have e2 := ja hq2 2 rfl;have p0 := je hq2 0;have p1 := je hq2 1;have p2 := je hq2 2;simp only [List.getElem_toArray,List.getElem_cons_zero,List.getElem_cons_succ] at c1 e0 e1 e2))
 go_region
 all_goals
  rename_i K2 hK2
  refine hK2 _ _ ?_
  clear hK2
  have hq3 := jf (jf (jf hq2 0 (.slice none 0 0)) 1 (.slice none 0 0)) 2 (.slice none 0 0)
  have HB3 : Hid (Below w.heap.size w (((w2.setCell ⟨w.heap.size,0,none⟩ (.slice none 0 0)).setCell ⟨w.heap.size,1,none⟩ (.slice none 0 0)).setCell ⟨w.heap.size,2,none⟩ (.slice none 0 0))) := (((((((Below.refl w.heap.size w).alloc jN O38).alloc (by rw [World.size_alloc];omega) (O60 s)).trans hb5).trans hb2).setCell (p := ⟨w.heap.size,0,none⟩) jN _).setCell (p := ⟨w.heap.size,1,none⟩) jN _).setCell (p := ⟨w.heap.size,2,none⟩) jN _
  generalize ((w2.setCell ⟨w.heap.size,0,none⟩ (.slice none 0 0)).setCell ⟨w.heap.size,1,none⟩ (.slice none 0 0)).setCell ⟨w.heap.size,2,none⟩ (.slice none 0 0) = W3 at *
  have x0 := ja hq3 0 rfl
  have x1 := ja hq3 1 rfl
  have x2 := ja hq3 2 rfl
  simp only [List.setIfInBounds_toArray,List.set_cons_zero,List.set_cons_succ,List.getElem_toArray,List.getElem_cons_zero,List.getElem_cons_succ] at x0 x1 x2
  clear hq3 c1 e0 e1 e2 p0 p1 p2
  go_wp2_with fail
  exact jc5 rfl rfl rfl x0 x1 x2 ⟨rfl,HB3.out.drew⟩
set_option maxRecDepth 100000 in
theorem jlx {F N L : Nat} (hn : jcK s F N L) (hb0 : bad (jt s) F 0 = none) (hb : bad (jX s) N 0 = none) :
 Calls Tryz.prog 20 #[.string s] w fun e w' => ∃ vF vN vL,e = .returned (.tuple #[.agg #[vF,vN,vL],.int .i64 0,.int .i64 0]) /\ w'.ownsRow w.heap.size 124 4 vF F (ji (cF s) F) /\ w'.ownsRow w.heap.size 3 1 vN N (ji (cN s) N) /\ w'.ownsRow w.heap.size 116 5 vL L (ji (cL s) L) /\ Below w.heap.size w w' := by
 have HN := jH hn
 have hll := hn.lL
 have hfl := hn.lF
 have hnl := hn.lN
 have h601 := hn.sz
 have h602 : s.size <= 600000 := hn.hs
 have HRB : Hid (∀ (W : World) b q,W.heap[b]? = some (O60 s) -> W.heap[q]? = some O38 -> q < b -> Calls Tryz.prog 39 #[.pointer (some ⟨b,0,none⟩),.int .i64 F,.int .i64 L] W fun e w' => e = .returned (.bool true) /\ ∃ a c,w'.heap[b]? = some (rdB s (8 + 6 * F) (.slice a F c) jn jn) /\ w'.heap[q]? = some O38 /\ Below q W w' /\ w'.ownsRow (b + 1) 124 4 (.slice a F c) F (ji (cF s) F)) := fun W b q h1 h2 h3 => by
  refine (rows_ok hn.hs (by omega) hn.lF hn.lL hn.eL h1 hb0).mono ?_
  rintro e w' ⟨he,a,c,h4,h5,h6⟩
  exact ⟨he,a,c,h4,(h5.rest q (lt_of_block h2) (by omega)).trans h2,h5.below.mono (by omega),Js h6 (lt_of_block h1)⟩
 have HCB : Hid (∀ (W : World) b q a c,W.heap[b]? = some (rdB s (8 + 6 * F) (.slice a F c) jn jn) -> W.heap[q]? = some O38 -> q < b -> W.ownsRow (b + 1) 124 4 (.slice a F c) F (ji (cF s) F) -> Calls Tryz.prog 41 #[.pointer (some ⟨b,0,none⟩),.int .i64 N] W fun e w' => e = .returned (.bool true) /\ ∃ a2 c2,w'.heap[b]? = some (rdB s (8 + 6 * F + 8 * N) (.slice a F c) (.slice a2 N c2) jn) /\ w'.heap[q]? = some O38 /\ Below q W w' /\ w'.ownsRow (b + 1) 124 4 (.slice a F c) F (ji (cF s) F) /\ w'.ownsRow (b + 1) 3 1 (.slice a2 N c2) N (ji (cN s) N)) := fun W b q a c h1 h2 h3 ho => by
  refine (jlz hn.hs (by omega) hn.lF hn.lN hn.eF h1 hb).mono ?_
  rintro e w' ⟨he,a2,c2,h4,h5,h6⟩
  exact ⟨he,a2,c2,h4,(h5.rest q (lt_of_block h2) (by omega)).trans h2,h5.below.mono (by omega),h5.own ho (by omega),Js h6 (lt_of_block h1)⟩
 have HLB : Hid (∀ (W : World) b q a c a2 c2,W.heap[b]? = some (rdB s (8 + 6 * F + 8 * N) (.slice a F c) (.slice a2 N c2) jn) -> W.heap[q]? = some O38 -> q < b -> W.ownsRow (b + 1) 124 4 (.slice a F c) F (ji (cF s) F) -> W.ownsRow (b + 1) 3 1 (.slice a2 N c2) N (ji (cN s) N) -> Calls Tryz.prog 42 #[.pointer (some ⟨b,0,none⟩),.int .i64 L] W fun e w' => e = .returned (.tuple #[]) /\ ∃ a3 c3,w'.heap[b]? = some (rdB s (8 + 6 * F + 8 * N + 8 * L) (.slice a F c) (.slice a2 N c2) (.slice a3 L c3)) /\ w'.heap[q]? = some O38 /\ Below q W w' /\ w'.ownsRow (b + 1) 124 4 (.slice a F c) F (ji (cF s) F) /\ w'.ownsRow (b + 1) 3 1 (.slice a2 N c2) N (ji (cN s) N) /\ w'.ownsRow (b + 1) 116 5 (.slice a3 L c3) L (ji (cL s) L)) := fun W b q a c a2 c2 h1 h2 h3 ho ho2 => by
  refine (jiY hn.hs (by omega) hn.lF hn.lN hn.lL hn.eF hn.eN h1).mono ?_
  rintro e w' ⟨he,v,h4,h5,h6⟩
  obtain ⟨a3,c3,rfl⟩ := j5 h6
  exact ⟨he,a3,c3,h4,(h5.rest q (lt_of_block h2) (by omega)).trans h2,h5.below.mono (by omega),h5.own ho (by omega),h5.own ho2 (by omega),Js h6 (lt_of_block h1)⟩
 clear hn hb h601 hb0
 go_enter Tryz.func20,Tryz.ntmps20
 go_wp2_with (first
  | (go_at_call 38;refine (HN.out.wh _).mono ?_;rintro _ w1 ⟨rfl,hw1⟩;have hw2 := hw1.symm;subst hw2)
  | (go_at_call 40;refine (HN.out.cF _ _ _ (by omega)).mono ?_;rintro _ w1 ⟨rfl,hw1⟩;have hw2 := hw1.symm;subst hw2)
  | (go_at_call 40;refine (HN.out.cL _ _ _ (by omega)).mono ?_;rintro _ w1 ⟨rfl,hw1⟩;have hw2 := hw1.symm;subst hw2)
  | (go_at_call 40;refine (HN.out.cN _ _ _ (by omega)).mono ?_;rintro _ w1 ⟨rfl,hw1⟩;have hw2 := hw1.symm;subst hw2)
  | (go_at_call 39;refine (HRB.out _ _ w.heap.size (j9 (by simp)) (jdk rfl) (by omega)).mono ?_;rintro _ w5 ⟨rfl,a5,c5,hk5,hq5,hb5,ho5⟩;have HK5 := jH hk5;have HQ5 := jH hq5;have HO5 := jH ho5;have HB5 := jH hb5;clear hk5 hq5 ho5 hb5)
  | (go_at_call 41;refine (HCB.out _ _ w.heap.size _ _ HK5.out HQ5.out (by omega) HO5.out).mono ?_;rintro _ w6 ⟨rfl,a6,c6,hk6,hq6,hb6,ho6,hm6⟩;have HK6 := jH hk6;have HQ6 := jH hq6;have HO6 := jH ho6;have HM6 := jH hm6;have HB6 := jH hb6;clear hk6 hq6 ho6 hm6 hb6)
  | (go_at_call 42;refine (HLB.out _ _ w.heap.size _ _ _ _ HK6.out HQ6.out (by omega) HO6.out HM6.out).mono ?_;rintro _ w2 ⟨rfl,a7,c7,hk2,hq2,hb2,ho7,hm7,hl7⟩;have HO7 := jH ho7;have HM7 := jH hm7;have HL7 := jH hl7;have HB7 := jH hb2;clear ho7 hm7 hl7 hb2;have c2 := ja hk2 2 rfl;have c3 := ja hk2 3 rfl;have c4 := ja hk2 4 rfl;have e0 := ja hq2 0 rfl;have e1 := ja hq2 1 rfl;have e2 := ja hq2 2 rfl;have p0 := je hq2 0;have p1 := je hq2 1;have p2 := je hq2 2;have HQ7 := jH hq2;clear hq2 hk2;simp only [List.getElem_toArray,List.getElem_cons_zero,List.getElem_cons_succ] at c2 c3 c4 e0 e1 e2))
 have hq3 := jf (jf (jf HQ7.out 0 (.slice a5 F c5)) 1 (.slice a6 N c6)) 2 (.slice a7 L c7)
 have HB3 : Hid (Below w.heap.size w (((w2.setCell ⟨w.heap.size,0,none⟩ (.slice a5 F c5)).setCell ⟨w.heap.size,1,none⟩ (.slice a6 N c6)).setCell ⟨w.heap.size,2,none⟩ (.slice a7 L c7))) := ((((((((Below.refl w.heap.size w).alloc jN O38).alloc (by rw [World.size_alloc];omega) (O60 s)).trans HB5.out).trans HB6.out).trans HB7.out).setCell (p := ⟨w.heap.size,0,none⟩) jN _).setCell (p := ⟨w.heap.size,1,none⟩) jN _).setCell (p := ⟨w.heap.size,2,none⟩) jN _
 have x0 := ja hq3 0 rfl
 have x1 := ja hq3 1 rfl
 have x2 := ja hq3 2 rfl
 have hlt : w.heap.size < w.heap.size + 1 + 1 := by omega
 refine jc5 rfl rfl rfl x0 x1 x2 ⟨_,_,_,rfl,?_,?_,?_,HB3.out⟩
 ·exact Js (ownsRow_setCell_below (a := ⟨w.heap.size,2,none⟩) (ownsRow_setCell_below (a := ⟨w.heap.size,1,none⟩) (ownsRow_setCell_below (a := ⟨w.heap.size,0,none⟩) HO7.out hlt _) hlt _) hlt _) (by omega)
 ·exact Js (ownsRow_setCell_below (a := ⟨w.heap.size,2,none⟩) (ownsRow_setCell_below (a := ⟨w.heap.size,1,none⟩) (ownsRow_setCell_below (a := ⟨w.heap.size,0,none⟩) HM7.out hlt _) hlt _) hlt _) (by omega)
 ·exact Js (ownsRow_setCell_below (a := ⟨w.heap.size,2,none⟩) (ownsRow_setCell_below (a := ⟨w.heap.size,1,none⟩) (ownsRow_setCell_below (a := ⟨w.heap.size,0,none⟩) HL7.out hlt _) hlt _) hlt _) (by omega)
theorem jly {er at' : Nat} (hs : s.size <= 1073741824) (h : res s = some (er,at')) :
 Calls Tryz.prog 20 #[.string s] w fun e w' => e = .returned (.tuple #[.agg #[.slice none 0 0,.slice none 0 0,.slice none 0 0],.int .i64 er,.int .i64 at']) /\ Below w.heap.size w w' := by
 by_cases hh : 600000 < s.size \/ hdB s = false
 ·exact jlw hs hh h
 ·have h1 : ¬ 600000 < s.size := fun h => hh (.inl h)
  have h2 : hdB s = true := by
   cases hd : hdB s with
   | true => rfl
   | false => exact absurd (.inr hd) hh
  have hn := jey (by omega) h2
  cases hr : bad (jt s) (hF s) 0 with
  | some k =>
    rw [jee (by omega) h2 hr] at h
    injection h with h
    injection h with h3 h4
    subst h3 h4
    exact jlt hn hr
  | none =>
    cases hq : bad (jX s) (hN s) 0 with
    | some k =>
      rw [jeg (by omega) h2 hr hq] at h
      injection h with h
      injection h with h3 h4
      subst h3 h4
      exact jlv hn hr hq
    | none => rw [jef (by omega) h2 hr hq] at h;cases h
theorem jlu (h : res s = none) :
 Calls Tryz.prog 20 #[.string s] w fun e w' => ∃ vF vN vL,e = .returned (.tuple #[.agg #[vF,vN,vL],.int .i64 0,.int .i64 0]) /\ jU s w' w.heap.size vF vN vL /\ Below w.heap.size w w' := by
 obtain ⟨h1,h2,h3,h4⟩ := jbw h
 refine (jlx (jey h1 h2) h3 h4).mono ?_
 rintro e w' ⟨vF,vN,vL,he,a,b,c,d⟩
 exact ⟨vF,vN,vL,he,⟨a,b,c⟩,d⟩
theorem je3 {op : Nat} : Calls Tryz.prog 73 #[.int .i64 op] w fun e w' => e = .returned (.bool (jx op)) /\ w' = w := by
 obtain ⟨R,hR⟩ : ∃ R,jx op = R := ⟨_,rfl⟩
 rw [hR]
 have HR : Hid (jx op = R) := hR
 clear hR
 go_enter Tryz.func73,Tryz.ntmps73
 go_wp2
 all_goals
  go_ret
  refine ⟨JQ ?_,rfl⟩
  rw [<- HR.out,Bool.eq_iff_iff]
  simp [jx]
  omega
theorem jcq {op : Nat} : Calls Tryz.prog 91 #[.int .i64 op] w fun e w' => e = .returned (.bool (!jx op)) /\ w' = w := by
 obtain ⟨R,hR⟩ : ∃ R,(!jx op) = R := ⟨_,rfl⟩
 rw [hR]
 have HR : Hid ((!jx op) = R) := hR
 clear hR
 go_enter Tryz.func91,Tryz.ntmps91
 go_wp2
 all_goals
  go_ret
  refine ⟨JQ ?_,rfl⟩
  rw [<- HR.out,Bool.eq_iff_iff]
  simp [jx]
  omega
set_option maxRecDepth 100000 in
theorem jh4 {p v r pc a0 a1 a2 slots end' F N : Nat} {aF aN : Option Addr} {cF' cN' : Nat} {vL : Value} {R : Bool} (hr : r < 8) (hblk : w.heap[p]? = some (prB (.slice aF F cF') (.slice aN N cN') vL)) (hR : jo F N v r pc slots end' = R) :
 Calls Tryz.prog 72 #[.pointer (some ⟨p,0,none⟩),.int .i64 v,.int .i64 r,.int .i64 pc,.agg #[.int .i64 a0,.int .i64 a1,.int .i64 a2,.int .i64 slots,.int .i64 end']] w fun e w' => e = .returned (.bool R) /\ Below w.heap.size w w' := by
 have c0 : ∀ o,(w.alloc o).cell? ⟨p,0,none⟩ = some (.slice aF F cF') := jT hblk 0 rfl
 have c1 : ∀ o,(w.alloc o).cell? ⟨p,1,none⟩ = some (.slice aN N cN') := jT hblk 1 rfl
 have hlt := lt_of_block hblk
 have HR : Hid (jo F N v r pc slots end' = R) := hR
 clear hR hblk
 have hcs : r = 0 \/ r = 1 \/ r = 2 \/ r = 3 \/ r = 4 \/ r = 5 \/ r = 6 \/ r = 7 := by omega
 rcases hcs with rfl | rfl | rfl | rfl | rfl | rfl | rfl | rfl
 all_goals
  go_enter Tryz.func72,Tryz.ntmps72
  go_wp2
  all_goals
   go_ret
   refine ⟨JQ ?_,jB.alloc jN _⟩
   rw [<- HR.out,Bool.eq_iff_iff]
   simp [jo]
   try omega
set_option maxRecDepth 100000 in
theorem jlU {v r pc slots end' F N : Nat} {aF aN aL : Option Addr} {cF' cN' nL cL' : Nat} {R : Bool} (hr : r < 8) (hR : jo F N v r pc slots end' = R) :
 Calls Tryz.prog 92 #[.agg #[.slice aF F cF',.slice aN N cN',.slice aL nL cL',.int .i64 slots,.int .i64 pc,.int .i64 end'],.int .u8 (ltr r : Nat),.int .i64 v] w fun e w' => e = .returned (.bool R) /\ Below w.heap.size w w' := by
 have HR : Hid (jo F N v r pc slots end' = R) := hR
 clear hR
 have hcs : r = 0 \/ r = 1 \/ r = 2 \/ r = 3 \/ r = 4 \/ r = 5 \/ r = 6 \/ r = 7 := by omega
 rcases hcs with rfl | rfl | rfl | rfl | rfl | rfl | rfl | rfl
 all_goals
  simp only [ltr,List.getD_cons_zero,List.getD_cons_succ]
  go_enter Tryz.func92,Tryz.ntmps92
  go_wp2
  all_goals
   go_ret
   refine ⟨JQ ?_,jB.alloc jN _⟩
   rw [<- HR.out,Bool.eq_iff_iff]
   simp [jo]
   try omega
def en (s : ByteArray) (k : Nat) : Nat := if k + 1 < hF s then r0 s (k + 1) else hL s
set_option maxRecDepth 100000 in
theorem jgS {op : Nat} (h1 : 1 <= op) (h2 : op < 34) : ∃ a b c d,rul[op]? = some [a,b,c,d] /\ Calls Tryz.prog 71 #[.int .i64 op] w fun e w' => e = .returned (.tuple #[.slice (some ⟨w.heap.size,0,none⟩) 4 4,.bool true]) /\ w' = w.alloc (.cells #[.int .i64 (a : Nat),.int .i64 (b : Nat),.int .i64 (c : Nat),.int .i64 (d : Nat)] 3) := by
 have hc : op = 1 \/ op = 2 \/ op = 3 \/ op = 4 \/ op = 5 \/ op = 6 \/ op = 7 \/ op = 8 \/ op = 9 \/ op = 10 \/ op = 11 \/ op = 12 \/ op = 13 \/ op = 14 \/ op = 15 \/ op = 16 \/ op = 17 \/ op = 18 \/ op = 19 \/ op = 20 \/ op = 21 \/ op = 22 \/ op = 23 \/ op = 24 \/ op = 25 \/ op = 26 \/ op = 27 \/ op = 28 \/ op = 29 \/ op = 30 \/ op = 31 \/ op = 32 \/ op = 33 := by omega
 rcases hc with rfl | rfl | rfl | rfl | rfl | rfl | rfl | rfl | rfl | rfl | rfl | rfl | rfl | rfl | rfl | rfl | rfl | rfl | rfl | rfl | rfl | rfl | rfl | rfl | rfl | rfl | rfl | rfl | rfl | rfl | rfl | rfl | rfl
 all_goals
  refine ⟨_,_,_,_,rfl,?_⟩
  go_enter Tryz.func71,Tryz.ntmps71
  go_wp2
  go_ret2
  exact ⟨rfl,rfl⟩
set_option maxRecDepth 100000 in
theorem jgT {op : Nat} (h : op = 0 \/ 34 <= op) : Calls Tryz.prog 71 #[.int .i64 op] w fun e w' => e = .returned (.tuple #[.slice none 0 0,.bool false]) /\ w' = w := by
 have g1 : ((op : Int) == 1) = false := by simp;omega
 have g2 : ((op : Int) == 2) = false := by simp;omega
 have g3 : ((op : Int) == 3) = false := by simp;omega
 have g4 : ((op : Int) == 4) = false := by simp;omega
 have g5 : ((op : Int) == 5) = false := by simp;omega
 have g6 : ((op : Int) == 6) = false := by simp;omega
 have g7 : ((op : Int) == 7) = false := by simp;omega
 have g8 : ((op : Int) == 8) = false := by simp;omega
 have g9 : ((op : Int) == 9) = false := by simp;omega
 have g10 : ((op : Int) == 10) = false := by simp;omega
 have g11 : ((op : Int) == 11) = false := by simp;omega
 have g12 : ((op : Int) == 12) = false := by simp;omega
 have g13 : ((op : Int) == 13) = false := by simp;omega
 have g14 : ((op : Int) == 14) = false := by simp;omega
 have g15 : ((op : Int) == 15) = false := by simp;omega
 have g16 : ((op : Int) == 16) = false := by simp;omega
 have g17 : ((op : Int) == 17) = false := by simp;omega
 have g18 : ((op : Int) == 18) = false := by simp;omega
 have g19 : ((op : Int) == 19) = false := by simp;omega
 have g20 : ((op : Int) == 20) = false := by simp;omega
 have g21 : ((op : Int) == 21) = false := by simp;omega
 have g22 : ((op : Int) == 22) = false := by simp;omega
 have g23 : ((op : Int) == 23) = false := by simp;omega
 have g24 : ((op : Int) == 24) = false := by simp;omega
 have g25 : ((op : Int) == 25) = false := by simp;omega
 have g26 : ((op : Int) == 26) = false := by simp;omega
 have g27 : ((op : Int) == 27) = false := by simp;omega
 have g28 : ((op : Int) == 28) = false := by simp;omega
 have g29 : ((op : Int) == 29) = false := by simp;omega
 have g30 : ((op : Int) == 30) = false := by simp;omega
 have g31 : ((op : Int) == 31) = false := by simp;omega
 have g32 : ((op : Int) == 32) = false := by simp;omega
 have g33 : ((op : Int) == 33) = false := by simp;omega
 clear h
 go_enter Tryz.func71,Tryz.ntmps71
 go_wp2
 go_ret2
 exact ⟨rfl,rfl⟩
set_option maxRecDepth 100000 in
theorem jeV {g n c i nn cn nl cl : Nat} {an al : Option Addr} {a0 a1 a2 a3 a4 : Int} (hn : n <= 70000) (hi : i < n) (hc : n <= c) (hg : g < w.heap.size) (d0 : w.cell? ⟨g,i * 5,none⟩ = some (.int .i64 a0)) (d1 : w.cell? ⟨g,i * 5 + 1,none⟩ = some (.int .i64 a1)) (d2 : w.cell? ⟨g,i * 5 + 2,none⟩ = some (.int .i64 a2)) (d3 : w.cell? ⟨g,i * 5 + 3,none⟩ = some (.int .i64 a3)) (d4 : w.cell? ⟨g,i * 5 + 4,none⟩ = some (.int .i64 a4)) :
 Calls Tryz.prog 50 #[.agg #[.slice an nn cn,.slice al nl cl,.slice (some ⟨g,0,none⟩) n c],.int .i64 i] w fun e w' => e = .returned (.agg #[.int .i64 a0,.int .i64 a1,.int .i64 a2,.int .i64 a3,.int .i64 a4]) /\ Below w.heap.size w w' := by
 have hB : ∀ o1 o2 : Obj,Below w.heap.size w ((w.alloc o1).alloc o2) := fun o1 o2 => (jB.alloc jN _).alloc (by rw [World.size_alloc];omega) _
 have e0 : ∀ o1 o2 : Obj,((w.alloc o1).alloc o2).cell? ⟨g,i * 5,none⟩ = some (.int .i64 a0) := fun o1 o2 => ((hB o1 o2).cell (p := ⟨g,_,none⟩) hg).trans d0
 have e1 : ∀ o1 o2 : Obj,((w.alloc o1).alloc o2).cell? ⟨g,i * 5 + 1,none⟩ = some (.int .i64 a1) := fun o1 o2 => ((hB o1 o2).cell (p := ⟨g,_,none⟩) hg).trans d1
 have e2 : ∀ o1 o2 : Obj,((w.alloc o1).alloc o2).cell? ⟨g,i * 5 + 2,none⟩ = some (.int .i64 a2) := fun o1 o2 => ((hB o1 o2).cell (p := ⟨g,_,none⟩) hg).trans d2
 have e3 : ∀ o1 o2 : Obj,((w.alloc o1).alloc o2).cell? ⟨g,i * 5 + 3,none⟩ = some (.int .i64 a3) := fun o1 o2 => ((hB o1 o2).cell (p := ⟨g,_,none⟩) hg).trans d3
 have e4 : ∀ o1 o2 : Obj,((w.alloc o1).alloc o2).cell? ⟨g,i * 5 + 4,none⟩ = some (.int .i64 a4) := fun o1 o2 => ((hB o1 o2).cell (p := ⟨g,_,none⟩) hg).trans d4
 have HB : Hid (∀ o1 o2 : Obj,Below w.heap.size w ((w.alloc o1).alloc o2)) := hB
 have g1 : decide ((n : Int) <= (i : Int)) = false := by simp;omega
 have g2 : (i : Int) < (n : Int) := by omega
 clear hB d0 d1 d2 d3 d4
 go_enter Tryz.func50,Tryz.ntmps50
 go_wp2
 go_returns
 exact ⟨rfl,HB.out _ _⟩
set_option maxRecDepth 100000 in
theorem end_any {B k : Nat} {aF aN aL : Option Addr} {nF cFc nN cNc nL cLc : Nat} (hcd : jU s w B (.slice aF nF cFc) (.slice aN nN cNc) (.slice aL nL cLc)) (hk : k < hF s) :
 Calls Tryz.prog 67 #[.agg #[.slice aF nF cFc,.slice aN nN cNc,.slice aL nL cLc],.int .i64 k] w fun e w' => e = .returned (.int .i64 (en s k)) /\ Below w.heap.size w w' := by
 have hFl : hF s < 65536 := ju _ _
 obtain ⟨a1,c1,h1⟩ := j5 hcd.funs
 obtain ⟨a3,c3,h3⟩ := j5 hcd.lines
 injection h1 with q1 hnF q2
 injection h3 with q3 hnL q4
 clear q1 q2 q3 q4
 subst hnF hnL
 obtain ⟨g,cap,hsl,hg1,hg2,hg3,hg4⟩ := jaf hcd.funs (by omega)
 injection hsl with e1 e2 e3
 subst e1 e3
 have HB : Hid (∀ o : Obj,Below w.heap.size w (w.alloc o)) := fun o => jB.alloc jN _
 by_cases hlt : k + 1 < hF s
 ·have hE : Hid (en s k = r0 s (k + 1)) := by show _ = _;unfold en;rw [if_pos hlt]
  have hc : w.cell? ⟨g,(k + 1) * 4,none⟩ = some (.int .i64 (r0 s (k + 1))) := by
   rw [hcd.funs.cellAt ((k + 1) * 4) (by omega)]
   exact Jq (jcD s) (i := k + 1) (o := 0) (by omega) (hF s) hlt
  have hc' : ∀ o : Obj,(w.alloc o).cell? ⟨g,(k + 1) * 4,none⟩ = some (.int .i64 (r0 s (k + 1))) := fun o => ((HB.out o).cell (p := ⟨g,_,none⟩) hg2).trans hc
  rw [hE.out]
  have g1 : decide (((hF s : Nat) : Int) - 1 <= (k : Int)) = false := by simp;omega
  have g2 : (k : Int) + 1 < ((hF s : Nat) : Int) := by omega
  clear hcd hE
  generalize hF s = F at *
  generalize (r0 s (k + 1) : Nat) = q at *
  generalize hL s = L at *
  go_enter Tryz.func67,Tryz.ntmps67
  go_wp2
  go_ret
  exact ⟨rfl,HB.out _⟩
 ·have hE : Hid (en s k = hL s) := by show _ = _;unfold en;rw [if_neg hlt]
  rw [hE.out]
  have g1 : decide (((hF s : Nat) : Int) - 1 <= (k : Int)) = true := by simp;omega
  clear hcd hE
  generalize hF s = F at *
  generalize hL s = L at *
  go_enter Tryz.func67,Tryz.ntmps67
  go_wp2
  go_ret
  exact ⟨rfl,HB.out _⟩
def J9 (F N : Nat) (vs rs : Nat -> Nat) (pc slots end' : Nat) : Nat -> Bool
 | 0 => true
 | k + 1 => J9 F N vs rs pc slots end' k && jo F N (vs k) (rs k) pc slots end'
theorem jfk {F N : Nat} {vs rs : Nat -> Nat} {pc slots end' : Nat} : ∀ (n k : Nat),k <= n -> J9 F N vs rs pc slots end' k = false -> J9 F N vs rs pc slots end' n = false
 | 0,k,h,hf => by
   have : k = 0 := by omega
   rw [this] at hf;exact hf
 | n + 1,k,h,hf => by
   by_cases hk : k = n + 1
   ·rw [<- hk];exact hf
   ·rw [J9,jfk n k (by omega) hf];rfl
def ruN (op k : Nat) : Nat := (rul.getD op []).getD k 0
def wlB (F N op : Nat) (vs : Nat -> Nat) (pc slots end' : Nat) : Bool := decide (1 <= op) && (decide (op < 34) && (J9 F N vs (ruN op) pc slots end' 4 && (jx op || decide (pc + 1 < end'))))
theorem jap (op k : Nat) : ruN op k < 8 := by
 unfold ruN
 have h : ∀ l ∈ rul,∀ x ∈ l,x < 8 := by decide
 rw [List.getD_eq_getElem?_getD,List.getD_eq_getElem?_getD]
 cases hl : rul[op]? with
 | none => simp
 | some l =>
   simp only [Option.getD_some]
   cases hx : l[k]? with
   | none => simp
   | some x => exact h l (List.mem_of_getElem? hl) x (List.mem_of_getElem? hx)
theorem jgV {op a b c d : Nat} (h : rul[op]? = some [a,b,c,d]) : a = ruN op 0 /\ b = ruN op 1 /\ c = ruN op 2 /\ d = ruN op 3 := by
 have e : rul.getD op [] = [a,b,c,d] := by rw [List.getD_eq_getElem?_getD,h];rfl
 unfold ruN
 rw [e]
 exact ⟨rfl,rfl,rfl,rfl⟩
theorem jgU {op : Nat} (h1 : 1 <= op) (h2 : op < 34) (W : World) : Calls Tryz.prog 71 #[.int .i64 op] W fun e w' => e = .returned (.tuple #[.slice (some ⟨W.heap.size,0,none⟩) 4 4,.bool true]) /\ w' = W.alloc (.cells #[.int .i64 (ruN op 0),.int .i64 (ruN op 1),.int .i64 (ruN op 2),.int .i64 (ruN op 3)] 3) := by
 obtain ⟨a,b,c,d,hr,h⟩ := jgS (w := W) h1 h2
 obtain ⟨rfl,rfl,rfl,rfl⟩ := jgV hr
 exact h
def lv (s : ByteArray) (pc k : Nat) : Nat := [l1 s pc,l2 s pc,l3 s pc,l4 s pc].getD k 0
set_option maxRecDepth 100000 in
theorem jiK {p pc a0 a1 a2 slots end' : Nat} {vF vN vL : Value} {R : Bool} (hat : J1 s w p vF vN vL) (hpc : pc < hL s) (he : end' < 65537) (hR : wlB (hF s) (hN s) (l0 s pc) (lv s pc) pc slots end' = R) :
 Calls Tryz.prog 46 #[.pointer (some ⟨p,0,none⟩),.int .i64 pc,.agg #[.int .i64 a0,.int .i64 a1,.int .i64 a2,.int .i64 slots,.int .i64 end']] w fun e w' => e = .returned (.bool R) /\ Below w.heap.size w w' := by
 have hLl : hL s < 65536 := ju _ _
 have hlt := lt_of_block hat.blk
 obtain ⟨aF,cFc,rfl⟩ := j5 hat.funs
 obtain ⟨aN,cNc,rfl⟩ := j5 hat.nums
 obtain ⟨g,cap,rfl,hg1,hg2,hg3,hg4⟩ := jaf hat.lines (by omega)
 have HBK := jH hat.blk
 have HBA : Hid (∀ o : Obj,Below w.heap.size w (w.alloc o)) := fun o => jB.alloc jN _
 have hcell : ∀ o v,o < 5 -> (dL s pc)[o]? = some v -> ∀ ob : Obj,(w.alloc ob).cell? ⟨g,pc * 5 + o,none⟩ = some v := fun o v ho hv ob => by
  rw [(HBA.out ob).cell (p := ⟨g,pc * 5 + o,none⟩) hg2,hat.lines.cellAt (pc * 5 + o) (by omega)]
  exact (Jq (jfr s) ho (hL s) hpc).trans hv
 have e0 : ∀ ob : Obj,(w.alloc ob).cell? ⟨g,pc * 5,none⟩ = some (.int .i64 (l0 s pc)) := hcell 0 _ (by omega) rfl
 have e1 := hcell 1 _ (by omega) rfl
 have e2 := hcell 2 _ (by omega) rfl
 have e3 := hcell 3 _ (by omega) rfl
 have e4 := hcell 4 _ (by omega) rfl
 have c2 : ∀ ob : Obj,(w.alloc ob).cell? ⟨p,2,none⟩ = some (.slice (some ⟨g,0,none⟩) (hL s) cap) := jT HBK.out 2 rfl
 have HR := jH hR
 have hq : lv s pc 0 = l1 s pc /\ lv s pc 1 = l2 s pc /\ lv s pc 2 = l3 s pc /\ lv s pc 3 = l4 s pc := ⟨rfl,rfl,rfl,rfl⟩
 obtain ⟨hq0,hq1,hq2,hq3⟩ := hq
 clear hcell hat hR
 by_cases hop : 1 <= l0 s pc /\ l0 s pc < 34
 ·have HRT : Hid (R = (J9 (hF s) (hN s) (lv s pc) (ruN (l0 s pc)) pc slots end' 4 && (jx (l0 s pc) || decide (pc + 1 < end')))) := by
   show _ = _
   rw [<- HR.out]
   unfold wlB
   rw [decide_eq_true hop.1,decide_eq_true hop.2]
   rfl
  have CR := jH (jgU hop.1 hop.2)
  have CL : Hid (∀ W : World,Calls Tryz.prog 73 #[.int .i64 (l0 s pc)] W fun e w' => e = .returned (.bool (jx (l0 s pc))) /\ w' = W) := fun W => je3
  have HVS : Hid (∀ k,k < 4 -> ([(l1 s pc : Int),(l2 s pc : Int),(l3 s pc : Int),(l4 s pc : Int)].map (Value.int .i64))[k]? = some (.int .i64 (lv s pc k))) := fun k hk => by
   have : k = 0 \/ k = 1 \/ k = 2 \/ k = 3 := by omega
   rcases this with rfl | rfl | rfl | rfl <;> rfl
  have HRS : Hid (∀ k,k < 4 -> ([(ruN (l0 s pc) 0 : Int),(ruN (l0 s pc) 1 : Int),(ruN (l0 s pc) 2 : Int),(ruN (l0 s pc) 3 : Int)].map (Value.int .i64))[k]? = some (.int .i64 (ruN (l0 s pc) k))) := fun k hk => by
   have : k = 0 \/ k = 1 \/ k = 2 \/ k = 3 := by omega
   rcases this with rfl | rfl | rfl | rfl <;> rfl
  have HRL : Hid (∀ k,ruN (l0 s pc) k < 8) := fun k => jap _ _
  generalize ruN (l0 s pc) = ru at *
  generalize jx (l0 s pc) = ov at *
  generalize (l0 s pc : Int) = q0 at *
  generalize (l1 s pc : Int) = q1 at *
  generalize (l2 s pc : Int) = q2 at *
  generalize (l3 s pc : Int) = q3 at *
  generalize (l4 s pc : Int) = q4 at *
  generalize (ru 0 : Int) = t0 at *
  generalize (ru 1 : Int) = t1 at *
  generalize (ru 2 : Int) = t2 at *
  generalize (ru 3 : Int) = t3 at *
  generalize hL s = L at *
  generalize hF s = F at *
  generalize hN s = N at *
  generalize lv s pc = vs at *
  clear hop hq0 hq1 hq2 hq3 HR
  go_enter Tryz.func46,Tryz.ntmps46
  go_wp2_with (go_at_call 71;refine (CR.out _).mono ?_;rintro _ w1 ⟨rfl,hw1⟩;rw [hw1];clear hw1)
  go_loopw [11] (fun i wr => ∃ k : Nat,k <= 4 /\ i = .int .i64 k /\ J9 F N vs ru pc slots end' k = true /\ wr.heap[w.heap.size]? = some (.cells #[.int .i64 a0,.int .i64 a1,.int .i64 a2,.int .i64 slots,.int .i64 end'] 104 (0,0)) /\ wr.heap[w.heap.size + 1]? = some (.cells #[.int .i64 q0,.int .i64 q1,.int .i64 q2,.int .i64 q3,.int .i64 q4] 60 (0,0)) /\ wr.heap[w.heap.size + 2]? = some (.cells #[.int .i64 t0,.int .i64 t1,.int .i64 t2,.int .i64 t3] 3 (0,0)) /\ wr.heap[w.heap.size + 3]? = some (.cells #[.int .i64 q1,.int .i64 q2,.int .i64 q3,.int .i64 q4] 3 (0,0)) /\ Below w.heap.size w wr /\ w.heap.size + 4 <= wr.heap.size) (fun i _ => 4 - (intOf i).toNat)
  case atStart =>
   refine ⟨0,by omega,rfl,rfl,?_,?_,?_,j9 (by simp),?_,by simp⟩
   ·exact (Below.heap_alloc _ _ _ (by simp <;> omega)).trans ((Below.heap_alloc _ _ _ (by simp <;> omega)).trans ((Below.heap_alloc _ _ _ (by simp)).trans (j9 rfl)))
   ·exact (Below.heap_alloc _ _ _ (by simp <;> omega)).trans ((Below.heap_alloc _ _ _ (by simp)).trans (j9 (by simp)))
   ·exact (Below.heap_alloc _ _ _ (by simp)).trans (j9 (by simp))
   ·exact (((HBA.out _).alloc (by simp) _).alloc (by simp <;> omega) _).alloc (by simp <;> omega) _
  case round =>
   obtain ⟨k,hk,rfl,hfk,h0,h1,h2,h3,hbw,hsw⟩ := hrel
   have HBX : Hid (Below w.heap.size w wr) := hbw
   by_cases hk4 : k < 4
   ·have HFK : Hid (J9 F N vs ru pc slots end' k = true) := hfk
    have d3 : wr.cell? ⟨w.heap.size + 3,k,none⟩ = some (.int .i64 (vs k)) := (JY h3 k).1.trans (by simpa using HVS.out k hk4)
    have d2 : wr.cell? ⟨w.heap.size + 2,k,none⟩ = some (.int .i64 (ru k)) := (JY h2 k).1.trans (by simpa using HRS.out k hk4)
    have f0 := ja h0 0 rfl
    have f1 := ja h0 1 rfl
    have f2 := ja h0 2 rfl
    have f3 := ja h0 3 rfl
    have f4 := ja h0 4 rfl
    simp only [List.getElem_toArray,List.getElem_cons_zero,List.getElem_cons_succ] at f0 f1 f2 f3 f4
    have H0 := jH h0
    have H1 := jH h1
    have H2 := jH h2
    have H3 := jH h3
    obtain ⟨Q,hQ⟩ : ∃ Q,jo F N (vs k) (ru k) pc slots end' = Q := ⟨_,rfl⟩
    have HQ : Hid (jo F N (vs k) (ru k) pc slots end' = Q) := hQ
    have CP : Hid (∀ W : World,Below w.heap.size w W -> Calls Tryz.prog 72 #[.pointer (some ⟨p,0,none⟩),.int .i64 (vs k),.int .i64 (ru k),.int .i64 pc,.agg #[.int .i64 a0,.int .i64 a1,.int .i64 a2,.int .i64 slots,.int .i64 end']] W fun e w' => e = .returned (.bool Q) /\ Below W.heap.size W w') := fun W hW => jh4 (HRL.out k) (jc HBK.out hW hlt) hQ
    have b0 : (0 : Int) <= (k : Int) := by omega
    have b1 : (k : Int) < 4 := by omega
    clear h0 h1 h2 h3 hfk hQ
    generalize (vs k : Int) = vk at *
    generalize (ru k : Int) = rk at *
    cases Q with
    | true =>
      go_upto_region 9 with fail
      go_region_held3 (fun w' => w'.cell? ⟨w.heap.size + 3,k,none⟩ = some (.int .i64 vk) /\ w'.cell? ⟨w.heap.size + 2,k,none⟩ = some (.int .i64 rk) /\ w'.cell? ⟨w.heap.size,0,none⟩ = some (.int .i64 a0) /\ w'.cell? ⟨w.heap.size,1,none⟩ = some (.int .i64 a1) /\ w'.cell? ⟨w.heap.size,2,none⟩ = some (.int .i64 a2) /\ w'.cell? ⟨w.heap.size,3,none⟩ = some (.int .i64 slots) /\ w'.cell? ⟨w.heap.size,4,none⟩ = some (.int .i64 end')) (first | go_keep | exact ⟨s3,s2,k0,k1,k2,k3,k4⟩) ((go_at_call 72;refine (CP.out _ (by exact HBX.out.drew)).mono ?_;rintro _ w2 ⟨rfl,hb2⟩;have s3 := (hb2.cell (p := ⟨w.heap.size + 3,k,none⟩) (show w.heap.size + 3 < wr.heap.size by omega)).trans d3;have s2 := (hb2.cell (p := ⟨w.heap.size + 2,k,none⟩) (show w.heap.size + 2 < wr.heap.size by omega)).trans d2;have g0 := jc (w := wr.drew) (by exact H0.out) hb2 (show w.heap.size < wr.heap.size by omega);have k0 : w2.cell? ⟨w.heap.size,0,none⟩ = some (.int .i64 a0) := ja g0 0 rfl;have k1 : w2.cell? ⟨w.heap.size,1,none⟩ = some (.int .i64 a1) := ja g0 1 rfl;have k2 : w2.cell? ⟨w.heap.size,2,none⟩ = some (.int .i64 a2) := ja g0 2 rfl;have k3 : w2.cell? ⟨w.heap.size,3,none⟩ = some (.int .i64 slots) := ja g0 3 rfl;have k4 : w2.cell? ⟨w.heap.size,4,none⟩ = some (.int .i64 end') := ja g0 4 rfl))
      all_goals
       go_wp2_with fail
       go_roundw
       case rel =>
        have hs2 : wr.heap.size <= w2.heap.size := hb2.size
        refine ⟨k + 1,by omega,by go_num,by rw [J9,HFK.out,HQ.out];rfl,g0,jc (w := wr.drew) (by exact H1.out) hb2 (show w.heap.size + 1 < wr.heap.size by omega),jc (w := wr.drew) (by exact H2.out) hb2 (show w.heap.size + 2 < wr.heap.size by omega),jc (w := wr.drew) (by exact H3.out) hb2 (show w.heap.size + 3 < wr.heap.size by omega),(HBX.out.drew).trans (hb2.mono (show w.heap.size <= wr.heap.size by omega)),by omega⟩
       case measure => simp [intOf];omega
    | false =>
      go_upto_region 9 with fail
      go_region_held3 (fun w' => w'.cell? ⟨w.heap.size + 3,k,none⟩ = some (.int .i64 vk) /\ w'.cell? ⟨w.heap.size + 2,k,none⟩ = some (.int .i64 rk) /\ w'.cell? ⟨w.heap.size,0,none⟩ = some (.int .i64 a0) /\ w'.cell? ⟨w.heap.size,1,none⟩ = some (.int .i64 a1) /\ w'.cell? ⟨w.heap.size,2,none⟩ = some (.int .i64 a2) /\ w'.cell? ⟨w.heap.size,3,none⟩ = some (.int .i64 slots) /\ w'.cell? ⟨w.heap.size,4,none⟩ = some (.int .i64 end')) (first | go_keep | exact ⟨s3,s2,k0,k1,k2,k3,k4⟩) ((go_at_call 72;refine (CP.out _ (by exact HBX.out.drew)).mono ?_;rintro _ w2 ⟨rfl,hb2⟩;have s3 := (hb2.cell (p := ⟨w.heap.size + 3,k,none⟩) (show w.heap.size + 3 < wr.heap.size by omega)).trans d3;have s2 := (hb2.cell (p := ⟨w.heap.size + 2,k,none⟩) (show w.heap.size + 2 < wr.heap.size by omega)).trans d2;have g0 := jc (w := wr.drew) (by exact H0.out) hb2 (show w.heap.size < wr.heap.size by omega);have k0 : w2.cell? ⟨w.heap.size,0,none⟩ = some (.int .i64 a0) := ja g0 0 rfl;have k1 : w2.cell? ⟨w.heap.size,1,none⟩ = some (.int .i64 a1) := ja g0 1 rfl;have k2 : w2.cell? ⟨w.heap.size,2,none⟩ = some (.int .i64 a2) := ja g0 2 rfl;have k3 : w2.cell? ⟨w.heap.size,3,none⟩ = some (.int .i64 slots) := ja g0 3 rfl;have k4 : w2.cell? ⟨w.heap.size,4,none⟩ = some (.int .i64 end') := ja g0 4 rfl))
      all_goals
       go_wp2_with fail
       go_ret
       refine ⟨JQ ?_,(HBX.out.drew).trans (hb2.mono (show w.heap.size <= wr.heap.size by omega))⟩
       rw [HRT.out,jfk 4 (k + 1) (by omega) (by rw [J9,HQ.out];simp)];rfl
   ·have hke : k = 4 := by omega
    subst hke
    have f4 := ja h0 4 rfl
    have e0' := ja h1 0 rfl
    simp only [List.getElem_toArray,List.getElem_cons_zero,List.getElem_cons_succ] at f4 e0'
    have HRO : Hid (R = (ov || decide (pc + 1 < end'))) := by show _ = _;rw [HRT.out,hfk];rfl
    clear h0 h1 h2 h3 hfk
    cases ov with
    | true =>
      go_wp2_with (go_at_call 73;refine (CL.out _).mono ?_;rintro _ w2 ⟨rfl,hw2⟩;have hw3 := hw2.symm;subst hw3)
      go_ret
      exact ⟨by rw [HRO.out];rfl,HBX.out⟩
    | false =>
      go_wp2_with (go_at_call 73;refine (CL.out _).mono ?_;rintro _ w2 ⟨rfl,hw2⟩;have hw3 := hw2.symm;subst hw3)
      all_goals
       go_ret
       refine ⟨JQ ?_,HBX.out⟩
       rw [HRO.out,Bool.eq_iff_iff]
       simp
       omega
 ·have HRF : Hid (R = false) := by
   show _ = _
   rw [<- HR.out]
   unfold wlB
   by_cases h1 : 1 <= l0 s pc
   ·rw [decide_eq_false (show ¬ l0 s pc < 34 by omega)];simp
   ·rw [decide_eq_false h1];rfl
  have CR : Hid (∀ W : World,Calls Tryz.prog 71 #[.int .i64 (l0 s pc)] W fun e w' => e = .returned (.tuple #[.slice none 0 0,.bool false]) /\ w' = W) := fun W => jgT (by omega)
  clear hop hq0 hq1 hq2 hq3
  generalize (l0 s pc : Int) = q0 at *
  generalize (l1 s pc : Int) = q1 at *
  generalize (l2 s pc : Int) = q2 at *
  generalize (l3 s pc : Int) = q3 at *
  generalize (l4 s pc : Int) = q4 at *
  generalize hL s = L at *
  go_enter Tryz.func46,Tryz.ntmps46
  go_wp2_with (go_at_call 71;refine (CR.out _).mono ?_;rintro _ w1 ⟨rfl,hw1⟩;have hw2 := hw1.symm;subst hw2)
  go_ret
  exact ⟨by rw [HRF.out];rfl,(HBA.out _).alloc (by rw [World.size_alloc];omega) _⟩
end Go.Proofs.YtjmgolahkgalbaaGreatDoor
