import Derived.Test.YtjmgolahkgalbaaGreatDoorS07
set_option linter.unusedVariables false
set_option linter.unusedSimpArgs false
set_option maxHeartbeats 20000000
namespace Go.Proofs.YtjmgolahkgalbaaGreatDoor
open Go.RowKit Li
theorem Tryz.inf116 : (Tryz.prog.info? 116).map (fun i => (i.zero,i.size,i.bytes)) = some (some (.agg #[.int .i64 0,.int .i64 0,.int .i64 0,.int .i64 0,.int .i64 0]),5,40) := by kernel_rfl
theorem Tryz.und66 : Tryz.prog.underlying 66 = some (.slice 116) := by kernel_rfl
def cL (s : ByteArray) (i : Nat) : List Value := [.int .i64 (l0 s i),.int .i64 (l1 s i),.int .i64 (l2 s i),.int .i64 (l3 s i),.int .i64 (l4 s i)]
set_option maxRecDepth 100000 in
theorem jiY {s : ByteArray} {w : World} {r F N L : Nat} {aF aN : Option Addr} {nF cF' nN cN' : Nat} (hs : s.size <= 600000) (hsz : 8 + 6 * F + 8 * N + 8 * L <= s.size) (hFl : F < 65536) (hNl : N < 65536) (hLl : L < 65536) (hF' : hF s = F) (hN' : hN s = N) (hblk : w.heap[r]? = some (rdB s (8 + 6 * F + 8 * N) (.slice aF nF cF') (.slice aN nN cN') jn)) :
 Calls Tryz.prog 42 #[.pointer (some ⟨r,0,none⟩),.int .i64 L] w fun e w' => e = .returned (.tuple #[]) /\ ∃ (v : Value),w'.heap[r]? = some (rdB s (8 + 6 * F + 8 * N + 8 * L) (.slice aF nF cF') (.slice aN nN cN') v) /\ Lone r w w' /\ w'.ownsRow w.heap.size 116 5 v L (ji (cL s) L) := by
 have hr := lt_of_block hblk
 have HBK0 : Hid (w.heap[r]? = some (rdB s (8 + 6 * F + 8 * N) (.slice aF nF cF') (.slice aN nN cN') jn)) := hblk
 have EF : Hid (hF s = F) := hF'
 have EN : Hid (hN s = N) := hN'
 clear hblk hF' hN'
 go_enter Tryz.func42,Tryz.ntmps42
 go_wp2_with fail
 go_loopw [4] (fun i wr => ∃ (k : Nat) (v : Value),k <= L /\ i = .int .i64 k /\ wr.heap[r]? = some (rdB s (8 + 6 * F + 8 * N + 8 * k) (.slice aF nF cF') (.slice aN nN cN') v) /\ wr.ownsRow w.heap.size 116 5 v k (ji (cL s) k) /\ Lone r w wr) (fun i _ => L - (intOf i).toNat)
 case atStart => exact ⟨0,jn,by omega,rfl,HBK0.out,World.ownsRow_nil _ _ _ _,Lone.refl _ _⟩
 case round =>
  obtain ⟨k,v,hk,rfl,hblk,hown,hlone⟩ := hrel
  have HBK : Hid (wr.heap[r]? = some (rdB s (8 + 6 * F + 8 * N + 8 * k) (.slice aF nF cF') (.slice aN nN cN') v)) := hblk
  have HLO : Hid (Lone r w wr) := hlone
  have hsw := hlone.size
  by_cases hlt : k < L
  ·have hp : pL s k = 8 + 6 * F + 8 * N + 8 * k := by unfold pL;rw [EF.out,EN.out]
   obtain ⟨f0,hf0⟩ : ∃ f,l0 s k = f := ⟨_,rfl⟩
   obtain ⟨f1,hf1⟩ : ∃ f,l1 s k = f := ⟨_,rfl⟩
   obtain ⟨f2,hf2⟩ : ∃ f,l2 s k = f := ⟨_,rfl⟩
   obtain ⟨f3,hf3⟩ : ∃ f,l3 s k = f := ⟨_,rfl⟩
   obtain ⟨f4,hf4⟩ : ∃ f,l4 s k = f := ⟨_,rfl⟩
   have CA : Hid (∀ (z n : Int) (w : World),z = 8 + 6 * (F : Int) + 8 * (N : Int) + 8 * (k : Int) /\ n = 1 -> Calls Tryz.prog 40 #[.string s,.int .i64 z,.int .i64 n] w fun e w' => e = .returned (.int .i64 (f0 : Int)) /\ w' = w) := fun z n w hz => by
    rw [hz.2]
    have := Jz (s := s) (a := pL s k) (n := 1) (w := w) hs (by omega)
    rw [jbE,show bt s (pL s k) = f0 from hf0,show ((pL s k : Nat) : Int) = z by omega] at this
    exact this
   have CB : Hid (∀ (z n : Int) (w : World),z = 8 + 6 * (F : Int) + 8 * (N : Int) + 8 * (k : Int) + 1 /\ n = 1 -> Calls Tryz.prog 40 #[.string s,.int .i64 z,.int .i64 n] w fun e w' => e = .returned (.int .i64 (f1 : Int)) /\ w' = w) := fun z n w hz => by
    rw [hz.2]
    have := Jz (s := s) (a := pL s k + 1) (n := 1) (w := w) hs (by omega)
    rw [jbE,show bt s (pL s k + 1) = f1 from hf1,show ((pL s k + 1 : Nat) : Int) = z by omega] at this
    exact this
   have CC : Hid (∀ (z n : Int) (w : World),z = 8 + 6 * (F : Int) + 8 * (N : Int) + 8 * (k : Int) + 2 /\ n = 2 -> Calls Tryz.prog 40 #[.string s,.int .i64 z,.int .i64 n] w fun e w' => e = .returned (.int .i64 (f2 : Int)) /\ w' = w) := fun z n w hz => by
    rw [hz.2]
    have := Jz (s := s) (a := pL s k + 2) (n := 2) (w := w) hs (by omega)
    rw [j8,show n2 s (pL s k + 2) = f2 from hf2,show ((pL s k + 2 : Nat) : Int) = z by omega] at this
    exact this
   have CD : Hid (∀ (z n : Int) (w : World),z = 8 + 6 * (F : Int) + 8 * (N : Int) + 8 * (k : Int) + 4 /\ n = 2 -> Calls Tryz.prog 40 #[.string s,.int .i64 z,.int .i64 n] w fun e w' => e = .returned (.int .i64 (f3 : Int)) /\ w' = w) := fun z n w hz => by
    rw [hz.2]
    have := Jz (s := s) (a := pL s k + 4) (n := 2) (w := w) hs (by omega)
    rw [j8,show n2 s (pL s k + 4) = f3 from hf3,show ((pL s k + 4 : Nat) : Int) = z by omega] at this
    exact this
   have CE : Hid (∀ (z n : Int) (w : World),z = 8 + 6 * (F : Int) + 8 * (N : Int) + 8 * (k : Int) + 6 /\ n = 2 -> Calls Tryz.prog 40 #[.string s,.int .i64 z,.int .i64 n] w fun e w' => e = .returned (.int .i64 (f4 : Int)) /\ w' = w) := fun z n w hz => by
    rw [hz.2]
    have := Jz (s := s) (a := pL s k + 6) (n := 2) (w := w) hs (by omega)
    rw [j8,show n2 s (pL s k + 6) = f4 from hf4,show ((pL s k + 6 : Nat) : Int) = z by omega] at this
    exact this
   have HOW : Hid (wr.ownsRow w.heap.size 116 5 v k (ji (cL s) k)) := hown
   have c0 : wr.cell? ⟨r,0,none⟩ = some (.string s) := ja hblk 0 rfl
   have c1 : wr.cell? ⟨r,1,none⟩ = some (.int .i64 (8 + 6 * (F : Int) + 8 * (N : Int) + 8 * (k : Int))) := by
    have := ja hblk 1 rfl
    simpa using this
   have n0 := World.new_ne wr ⟨r,0,none⟩ c0
   have n1 := World.new_ne wr ⟨r,1,none⟩ c1
   have y1 : IntKind.i64.wrap (8 + 6 * (F : Int) + 8 * (N : Int) + 8 * (k : Int) + 1) = 8 + 6 * (F : Int) + 8 * (N : Int) + 8 * (k : Int) + 1 := by rw [IntKind.wrap_i64];omega
   have y2 : IntKind.i64.wrap (8 + 6 * (F : Int) + 8 * (N : Int) + 8 * (k : Int) + 2) = 8 + 6 * (F : Int) + 8 * (N : Int) + 8 * (k : Int) + 2 := by rw [IntKind.wrap_i64];omega
   have y4 : IntKind.i64.wrap (8 + 6 * (F : Int) + 8 * (N : Int) + 8 * (k : Int) + 4) = 8 + 6 * (F : Int) + 8 * (N : Int) + 8 * (k : Int) + 4 := by rw [IntKind.wrap_i64];omega
   have y6 : IntKind.i64.wrap (8 + 6 * (F : Int) + 8 * (N : Int) + 8 * (k : Int) + 6) = 8 + 6 * (F : Int) + 8 * (N : Int) + 8 * (k : Int) + 6 := by rw [IntKind.wrap_i64];omega
   have ECL : Hid (cL s k = [.int .i64 f0,.int .i64 f1,.int .i64 f2,.int .i64 f3,.int .i64 f4]) := by show cL s k = _;unfold cL;rw [hf0,hf1,hf2,hf3,hf4]
   clear hf0 hf1 hf2 hf3 hf4 hblk hown hlone hp
   go_upto_region 3 with fail
   go_cut [5] from 6 to 79 (fun s5 wx => s5 = .pointer (some ⟨wr.heap.size,0,none⟩) /\ wx = (wr.alloc (.cells #[.int .i64 f0,.int .i64 f1,.int .i64 f2,.int .i64 f3,.int .i64 f4] 116)).drew)
   case first =>
    go_region_held3 (fun w' => w'.cell? ⟨r,0,none⟩ = some (.string s) /\ w'.cell? ⟨r,1,none⟩ = some (.int .i64 (8 + 6 * (F : Int) + 8 * (N : Int) + 8 * (k : Int)))) (go_keep) (first
     | (go_at_call 40;refine (CA.out _ _ _ (by omega)).mono ?_;rintro _ w1 ⟨rfl,hw1⟩;have hw2 := hw1.symm;subst hw2)
     | (go_at_call 40;refine (CB.out _ _ _ (by omega)).mono ?_;rintro _ w1 ⟨rfl,hw1⟩;have hw2 := hw1.symm;subst hw2)
     | (go_at_call 40;refine (CC.out _ _ _ (by omega)).mono ?_;rintro _ w1 ⟨rfl,hw1⟩;have hw2 := hw1.symm;subst hw2)
     | (go_at_call 40;refine (CD.out _ _ _ (by omega)).mono ?_;rintro _ w1 ⟨rfl,hw1⟩;have hw2 := hw1.symm;subst hw2)
     | (go_at_call 40;refine (CE.out _ _ _ (by omega)).mono ?_;rintro _ w1 ⟨rfl,hw1⟩;have hw2 := hw1.symm;subst hw2))
    all_goals (try go_wp2_with fail)
    all_goals go_meet
    all_goals exact ⟨rfl,rfl⟩
   case rest =>
    obtain ⟨rfl,rfl⟩ := hcut
    have hB : Below wr.heap.size wr (wr.alloc (.cells #[.int .i64 f0,.int .i64 f1,.int .i64 f2,.int .i64 f3,.int .i64 f4] 116)).drew := (jB.alloc jN _).drew
    have hblk1 := jc HBK.out hB (by omega)
    have hnew : (wr.alloc (.cells #[.int .i64 f0,.int .i64 f1,.int .i64 f2,.int .i64 f3,.int .i64 f4] 116)).drew.heap[wr.heap.size]? = some (.cells #[.int .i64 f0,.int .i64 f1,.int .i64 f2,.int .i64 f3,.int .i64 f4] 116) := jg wr _
    have hown1 := own_below HOW.out hB
    have hsz1 : (wr.alloc (.cells #[.int .i64 f0,.int .i64 f1,.int .i64 f2,.int .i64 f3,.int .i64 f4] 116)).drew.heap.size = wr.heap.size + 1 := World.size_alloc (w := wr) _
    have hlo1 := HLO.out.trans (Lone.of hB (by omega))
    generalize (wr.alloc (.cells #[.int .i64 f0,.int .i64 f1,.int .i64 f2,.int .i64 f3,.int .i64 f4] 116)).drew = w2 at *
    have g0 := ja hnew 0 rfl
    have g1 := ja hnew 1 rfl
    have g2 := ja hnew 2 rfl
    have g3 := ja hnew 3 rfl
    have g4 := ja hnew 4 rfl
    have d2 := ja hblk1 4 rfl
    have d2' : ∀ o,(w2.alloc o).cell? ⟨r,4,none⟩ = some v := jT hblk1 4 rfl
    simp only [List.getElem_toArray,List.getElem_cons_zero,List.getElem_cons_succ] at g0 g1 g2 g3 g4 d2
    have HB2 : Hid (w2.heap[r]? = some (rdB s (8 + 6 * F + 8 * N + 8 * k) (.slice aF nF cF') (.slice aN nN cN') v)) := hblk1
    have HO2 : Hid (w2.ownsRow w.heap.size 116 5 v k (ji (cL s) k)) := hown1
    have HL2 : Hid (Lone r w w2) := hlo1
    have hsw2 : w.heap.size <= w2.heap.size := by omega
    clear hB hblk1 hnew hown1 hlo1 c0 c1 n0 n1 HBK HOW HLO hsz1
    obtain ⟨i0,hi0,hz1,hz2,hz3⟩ := info_parts Tryz.inf116
    go_wp2_with fail
    go_region_law ((refine step_append_lies _ (by rfl) (.tmp 66) (.tmp 68) 66 (by rfl) w.heap.size 116 i0 _ 5 40 Tryz.und66 hi0 hz1 hz2 hz3 rfl (by decide) v k (ji (cL s) k) (by rfl) (HO2.out.alloc _) ⟨w2.heap.size,0,none⟩ 1 1 [.int .i64 f0,.int .i64 f1,.int .i64 f2,.int .i64 f3,.int .i64 f4] (by rfl) (by rfl) (Ja _ _ _ _ (by simp)) (by intro u hu;simp at hu;rcases hu with rfl | rfl | rfl | rfl | rfl <;> rfl) (by decide) (by unfold maxLen;omega) (by omega) (by simp;omega) _ rfl ?_;intro g c w3 hown3 hgrow hat hlt3;obtain ⟨hh3,hs3,hb3⟩ := jan HO2.out ((jB.alloc jN _).drew) (by omega) hgrow;have hlo3 := Lone.app HL2.out HO2.out jN hr ((jB.alloc jN _).drew) (by omega) hgrow;have hblk3 := (hh3 r (by omega) (fun h => by have := (HO2.out.lt _ h).1;omega)).trans HB2.out;have d3 := ja hblk3 4 rfl;have q3 := je hblk3 4;simp only [List.getElem_toArray,List.getElem_cons_zero,List.getElem_cons_succ] at d3))
    all_goals
     rename_i Q' K hK
     refine hK _ _ ?_
     clear hK
     clear K
     have hblk4 := jf hblk3 4 (.slice (some ⟨g,0,none⟩) (k + 1) c)
     have c41 : (w3.setCell ⟨r,4,none⟩ (.slice (some ⟨g,0,none⟩) (k + 1) c)).cell? ⟨r,1,none⟩ = some (.int .i64 (8 + 6 * (F : Int) + 8 * (N : Int) + 8 * (k : Int))) := by
      have := ja hblk4 1 rfl
      simpa using this
     have q41 := je hblk4 1
     go_wp2_with fail
     go_roundw
     case rel =>
      refine ⟨k + 1,.slice (some ⟨g,0,none⟩) (k + 1) c,by omega,by go_num,?_,?_,(hlo3.set 4 _).set 1 _⟩
      ·have e : ((8 + 6 * F + 8 * N + 8 * (k + 1) : Nat) : Int) = 8 + 6 * (F : Int) + 8 * (N : Int) + 8 * (k : Int) + 8 := by omega
       unfold rdB
       rw [e]
       exact jf hblk4 1 _
      ·have e : ji (cL s) (k + 1) = ji (cL s) k ++ [.int .i64 f0,.int .i64 f1,.int .i64 f2,.int .i64 f3,.int .i64 f4] := by rw [<- ECL.out];rfl
       rw [e]
       exact ownsRow_setCell_below (a := ⟨r,1,none⟩) (ownsRow_setCell_below (a := ⟨r,4,none⟩) hown3 hr _) hr _
     case measure => simp [intOf];omega
  ·rw [show k = L by omega] at hown hblk
   have HOW : Hid (wr.ownsRow w.heap.size 116 5 v L (ji (cL s) L)) := hown
   have HB : Hid (wr.heap[r]? = some (rdB s (8 + 6 * F + 8 * N + 8 * L) (.slice aF nF cF') (.slice aN nN cN') v)) := hblk
   clear hown hblk hlone
   go_wp2_with fail
   go_returns
   exact ⟨rfl,v,HB.out,HLO.out,HOW.out⟩
end Go.Proofs.YtjmgolahkgalbaaGreatDoor
