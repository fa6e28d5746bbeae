import Derived.Test.YtjmgolahkgalbaaGreatDoorS07
set_option linter.unusedVariables false
set_option linter.unusedSimpArgs false
set_option maxHeartbeats 20000000
namespace Go.Proofs.YtjmgolahkgalbaaGreatDoor
open Go.RowKit Li
theorem Tryz.inG3 : (Tryz.prog.info? 3).map (fun i => (i.zero,i.size,i.bytes)) = some (some (.int .i64 0),1,8) := by kernel_rfl
def cN (s : ByteArray) (i : Nat) : List Value := [.int .i64 (kn s i)]
set_option maxRecDepth 100000 in
theorem jfv {s : ByteArray} {w : World} {r F N : Nat} {aF : Option Addr} {nF cF' : Nat} (hs : s.size <= 600000) (hsz : 8 + 6 * F + 8 * N <= s.size) (hFl : F < 65536) (hNl : N < 65536) (hF' : hF s = F) (hblk : w.heap[r]? = some (rdB s (8 + 6 * F) (.slice aF nF cF') jn jn)) :
 Calls Tryz.prog 41 #[.pointer (some ⟨r,0,none⟩),.int .i64 N] w fun e w' => ∃ (k : Nat) (v : Value),w'.heap[r]? = some (rdB s (8 + 6 * F + 8 * k) (.slice aF nF cF') v jn) /\ Lone r w w' /\
  ((e = .returned (.bool false) /\ bad (jX s) N 0 = some k) \/ (e = .returned (.bool true) /\ bad (jX s) N 0 = none /\ k = N /\ w'.ownsRow w.heap.size 3 1 v N (ji (cN s) N))) := by
 have hr := lt_of_block hblk
 obtain ⟨R,hR⟩ : ∃ R,bad (jX s) N 0 = R := ⟨_,rfl⟩
 rw [hR]
 have HR : Hid (bad (jX s) N 0 = R) := hR
 have HBK0 : Hid (w.heap[r]? = some (rdB s (8 + 6 * F) (.slice aF nF cF') jn jn)) := hblk
 have EF : Hid (hF s = F) := hF'
 clear hR hblk hF'
 go_enter Tryz.func41,Tryz.ntmps41
 go_wp2_with fail
 go_loopw [5] (fun i wr => ∃ (k : Nat) (v : Value),k <= N /\ i = .int .i64 k /\ bad (jX s) (N - k) k = R /\ wr.heap[r]? = some (rdB s (8 + 6 * F + 8 * k) (.slice aF nF cF') v jn) /\ wr.ownsRow w.heap.size 3 1 v k (ji (cN s) k) /\ Lone r w wr) (fun i _ => N - (intOf i).toNat)
 case atStart => exact ⟨0,jn,by omega,rfl,HR.out,HBK0.out,World.ownsRow_nil _ _ _ _,Lone.refl _ _⟩
 case round =>
  obtain ⟨k,v,hk,rfl,hbad,hblk,hown,hlone⟩ := hrel
  have HBK : Hid (wr.heap[r]? = some (rdB s (8 + 6 * F + 8 * k) (.slice aF nF cF') v jn)) := hblk
  have HLO : Hid (Lone r w wr) := hlone
  have hsw := hlone.size
  by_cases hlt : k < N
  ·have HBAD : Hid (bad (jX s) (N - k) k = R) := hbad
   have hp : pN s k = 8 + 6 * F + 8 * k := by unfold pN;rw [EF.out]
   obtain ⟨x,hx⟩ : ∃ x,kn s k = x := ⟨_,rfl⟩
   have hxb : -9223372036854775808 <= x /\ x <= 9223372036854775807 := by rw [<- hx];exact jcc _ _ _
   obtain ⟨hx1,hx2⟩ := hxb
   have CA : Hid (∀ (z n : Int) (w : World),z = 8 + 6 * (F : Int) + 8 * (k : Int) /\ n = 8 -> Calls Tryz.prog 40 #[.string s,.int .i64 z,.int .i64 n] w fun e w' => e = .returned (.int .i64 x) /\ w' = w) := fun z n w hz => by
    rw [hz.2]
    have := Jz (s := s) (a := 8 + 6 * F + 8 * k) (n := 8) (w := w) hs (by omega)
    rw [show nV s (8 + 6 * F + 8 * k) 8 = x by rw [<- hp];exact hx,show ((8 + 6 * F + 8 * k : Nat) : Int) = z by omega] at this
    exact this
   have HNB : Hid (jX s k = (decide (-4611686018427387904 <= x) && decide (x <= 4611686018427387903))) := by show _ = _;unfold jX;rw [hx]
   have ECN : Hid (cN s k = [.int .i64 x]) := by show cN s k = _;unfold cN;rw [hx]
   have HOW : Hid (wr.ownsRow w.heap.size 3 1 v k (ji (cN s) k)) := hown
   have c0 : wr.cell? ⟨r,0,none⟩ = some (.string s) := ja hblk 0 rfl
   have c1 : wr.cell? ⟨r,1,none⟩ = some (.int .i64 (8 + 6 * (F : Int) + 8 * (k : Int))) := by
    have := ja hblk 1 rfl
    simpa using this
   clear hp hx hbad hblk hown hlone
   go_upto_region 4 with fail
   go_cut [6] from 7 to 43 (fun s6 wx => s6 = .int .i64 x /\ wx = wr.drew)
   case first =>
    go_region_held3 (fun w' => w'.cell? ⟨r,0,none⟩ = some (.string s) /\ w'.cell? ⟨r,1,none⟩ = some (.int .i64 (8 + 6 * (F : Int) + 8 * (k : Int)))) (go_keep) ((go_at_call 40;refine (CA.out _ _ _ (by omega)).mono ?_;rintro _ w1 ⟨rfl,hw1⟩;have hw2 := hw1.symm;subst hw2))
    all_goals (try go_wp2_with fail)
    all_goals go_meet
    all_goals exact ⟨rfl,rfl⟩
   case rest =>
    obtain ⟨rfl,rfl⟩ := hcut
    by_cases hnb : -4611686018427387904 <= x /\ x <= 4611686018427387903
    ·obtain ⟨hnb1,hnb2⟩ := hnb
     have HNX : Hid (bad (jX s) (N - (k + 1)) (k + 1) = R) := by
      have h := HBAD.out
      rw [show N - k = (N - (k + 1)) + 1 by omega,bad,if_pos (by rw [HNB.out,decide_eq_true hnb1,decide_eq_true hnb2];rfl)] at h
      exact h
     have HW : Hid (∀ w : World,Calls Tryz.prog 65 #[.int .i64 x] w fun e w' => e = .returned (.int .i64 x) /\ w' = w) := fun w => by
      have := jbm (n := x) (w := w) (by omega) (by omega)
      rw [show wrap64 (x * 2) / 2 = x by unfold wrap64;omega] at this
      exact this
     have HBd : Hid (wr.drew.heap[r]? = some (rdB s (8 + 6 * F + 8 * k) (.slice aF nF cF') v jn)) := HBK.out
     have HOd : Hid (wr.drew.ownsRow w.heap.size 3 1 v k (ji (cN s) k)) := HOW.out.drew
     have HLd : Hid (Lone r w wr.drew) := HLO.out.drew
     have hsd : w.heap.size <= wr.drew.heap.size := hsw
     obtain ⟨W,hW⟩ : ∃ W,W = wr.drew := ⟨_,rfl⟩
     rw [<- hW] at HBd HOd HLd hsd ⊢
     clear hW c0 c1 HBK HOW HLO
     have d3 := ja HBd.out 3 rfl
     have d3' : ∀ o,(W.alloc o).cell? ⟨r,3,none⟩ = some v := jT HBd.out 3 rfl
     simp only [List.getElem_toArray,List.getElem_cons_zero,List.getElem_cons_succ] at d3
     obtain ⟨i0,hi0,hz1,hz2,hz3⟩ := info_parts Tryz.inG3
     go_wp2_with (first
      | (go_at_call 65;refine (HW.out _).mono ?_;rintro _ w1 ⟨rfl,hw1⟩;have hw2 := hw1.symm;subst hw2)
      | (at_builtin;refine JO _ rfl (.tmp 30) (.tmp 32) 22 rfl w.heap.size 3 i0 _ 1 8 Tryz.underlying22 hi0 hz1 hz2 hz3 rfl (by decide) _ _ _ rfl (HOd.out.alloc _) _ 1 1 [.int .i64 x] rfl rfl (Ja _ _ _ _ (by simp)) ?_ ?_ ?_ ?_ ?_;(intro u hu;simp at hu;subst hu;rfl);(unfold maxLen;omega);omega;(simp;omega);intro v' w4 hown4 hg4 hrow4;clear hrow4;obtain ⟨hh4,hs4,hb4⟩ := jan HOd.out (jB.alloc jN _) (by omega) hg4;have hlo4 := Lone.app HLd.out HOd.out jN hr (jB.alloc jN _) (by omega) hg4;have hblk4 := (hh4 r (by omega) (fun h => by have := (HOd.out.lt _ h).1;omega)).trans HBd.out;obtain ⟨a4,c4,rfl⟩ := j5 hown4;have f3 := ja hblk4 3 rfl;have q3 := je hblk4 3;have hblk5 := jf hblk4 3 (.slice a4 (k + 1) c4);have c51 : (w4.setCell ⟨r,3,none⟩ (.slice a4 (k + 1) c4)).cell? ⟨r,1,none⟩ = some (.int .i64 (8 + 6 * (F : Int) + 8 * (k : Int))) := (by have := ja hblk5 1 rfl;simpa using this);have q51 := je hblk5 1;simp only [List.getElem_toArray,List.getElem_cons_zero,List.getElem_cons_succ] at f3))
     go_roundw
     case rel =>
      refine ⟨k + 1,.slice a4 (k + 1) c4,by omega,by go_num,HNX.out,?_,?_,(hlo4.set 3 _).set 1 _⟩
      ·have e : ((8 + 6 * F + 8 * (k + 1) : Nat) : Int) = 8 + 6 * (F : Int) + 8 * (k : Int) + 8 := by omega
       unfold rdB
       rw [e]
       exact jf hblk5 1 _
      ·have e : ji (cN s) (k + 1) = ji (cN s) k ++ [.int .i64 x] := by rw [<- ECN.out];rfl
       rw [e]
       exact ownsRow_setCell_below (a := ⟨r,1,none⟩) (ownsRow_setCell_below (a := ⟨r,3,none⟩) hown4 hr _) hr _
     case measure => simp [intOf];omega
    ·have HNX : Hid (R = some k) := by
      have h := HBAD.out
      rw [show N - k = (N - (k + 1)) + 1 by omega,bad,if_neg (by rw [HNB.out];simp;omega)] at h
      exact h.symm
     obtain ⟨y,hy⟩ : ∃ y,wrap64 (x * 2) / 2 = y := ⟨_,rfl⟩
     have HW : Hid (∀ w : World,Calls Tryz.prog 65 #[.int .i64 x] w fun e w' => e = .returned (.int .i64 y) /\ w' = w) := fun w => by
      rw [<- hy]
      exact jbm (n := x) (w := w) (by omega) (by omega)
     have hyx : y ≠ x := by rw [<- hy];unfold wrap64;omega
     have hyb : (y != x) = true := by simp [hyx]
     clear hnb hy
     go_wp2_with (go_at_call 65;refine (HW.out _).mono ?_;rintro _ w1 ⟨rfl,hw1⟩;have hw2 := hw1.symm;subst hw2)
     all_goals first
      | (exfalso;exact hyx (by assumption))
      | (go_ret
         exact ⟨k,v,HBK.out,HLO.out.drew,.inl ⟨rfl,HNX.out⟩⟩)
  ·rw [show k = N by omega] at hown hbad hblk
   rw [Nat.sub_self,bad] at hbad
   have HNX : Hid (R = none) := hbad.symm
   have HOW : Hid (wr.ownsRow w.heap.size 3 1 v N (ji (cN s) N)) := hown
   have HB : Hid (wr.heap[r]? = some (rdB s (8 + 6 * F + 8 * N) (.slice aF nF cF') v jn)) := hblk
   clear hbad hown hblk hlone
   go_wp2_with fail
   go_ret
   exact ⟨N,v,HB.out,HLO.out,.inr ⟨rfl,HNX.out,rfl,HOW.out⟩⟩
end Go.Proofs.YtjmgolahkgalbaaGreatDoor
