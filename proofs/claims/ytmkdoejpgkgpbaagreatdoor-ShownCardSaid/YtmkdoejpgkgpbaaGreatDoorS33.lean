import Derived.Test.YtmkdoejpgkgpbaaGreatDoorS32
import Derived.Deep.LoopGhost
set_option linter.unusedVariables false
set_option linter.unusedSimpArgs false
set_option maxHeartbeats 20000000
namespace Go.Proofs.YtmkdoejpgkgpbaaGreatDoor
open Go.RowKit Sl
section
variable {w0 w : World} {p base : Nat} {pv ov : Value} {ps : List CP} {vs : List (Value × Value)} {o : ByteArray} {i k a wd nl nc kl kc : Nat} {nm : Int} {na ka : Option Addr}
set_option maxRecDepth 100000 in
theorem let8_w (E : WE w0 p base pv ps vs) {kf : Nat -> ByteArray -> ByteArray} (hmo : ∀ j o,o.size <= (kf j o).size) (hK : ∀ j,j < kl -> ∀ o1,(kf j o1).size <= 100000000 -> KiW w0 p pv i k a wd nm na nl nc ka kl kc j o1 (kf j o1)) (hkl : kl <= 100) {ns : List ByteArray} (hN : w0.ownsRow base 9 1 (.slice na nl nc) ns.length (ns.map Value.string)) (hnn : ns.length <= 100) (hns : ∀ x ∈ ns,x.size <= 100000) (hk3 : kl = 2) (hk : k = 8) (hR : (kf 1 (wr1 (kf 0 (wr1 (lw 0 (wr1 o (txt 3)) true ns) (txt 27))) (txt 5))).size <= 100000000) (h : WM w0 w p pv ov o) :
 Calls Tryz.prog 258 #[.pointer (some ⟨p,0,none⟩),.int .i64 (i : Nat),.agg #[.int .i64 (k : Nat),.int .i64 (a : Nat),.int .i64 (wd : Nat),.int .i64 nm,.slice na nl nc,.slice ka kl kc]] w fun e w' => (∃ u,e = .returned u) /\ ∃ ov',WM w0 w' p pv ov' (kf 1 (wr1 (kf 0 (wr1 (lw 0 (wr1 o (txt 3)) true ns) (txt 27))) (txt 5))) /\ WF p w w' := by
 subst hk3
 have HM : Hid (WM w0 w p pv ov o) := h
 have HK : Hid (∀ j,j < 2 -> ∀ o1,(kf j o1).size <= 100000000 -> KiW w0 p pv i k a wd nm na nl nc ka 2 kc j o1 (kf j o1)) := hK
 have HNR : Hid (w0.ownsRow base 9 1 (.slice na nl nc) ns.length (ns.map Value.string)) := hN
 have HNS : Hid (∀ x ∈ ns,x.size <= 100000) := hns
 have np : w.heap.size ≠ p := by have := lt_of_block h.blk;omega
 obtain ⟨o1,e1⟩ : ∃ o1,wr1 o (txt 3) = o1 := ⟨_,rfl⟩
 have z1 := wr1_size o (txt 3)
 rw [e1] at hR z1 ⊢
 have Q1 : Hid (wr1 o (txt 3) = o1) := e1
 clear e1
 obtain ⟨o2,e2⟩ : ∃ o2,lw 0 o1 true ns = o2 := ⟨_,rfl⟩
 have z2 := lw_size 0 ns o1 true
 rw [e2] at hR z2 ⊢
 have Q2 : Hid (lw 0 o1 true ns = o2) := e2
 clear e2
 obtain ⟨o3,e3⟩ : ∃ o3,wr1 o2 (txt 27) = o3 := ⟨_,rfl⟩
 have z3 := wr1_size o2 (txt 27)
 rw [e3] at hR z3 ⊢
 have Q3 : Hid (wr1 o2 (txt 27) = o3) := e3
 clear e3
 obtain ⟨o4,e4⟩ : ∃ o4,kf 0 o3 = o4 := ⟨_,rfl⟩
 have z4 := hmo 0 o3
 rw [e4] at hR z4 ⊢
 have Q4 : Hid (kf 0 o3 = o4) := e4
 clear e4
 obtain ⟨o5,e5⟩ : ∃ o5,wr1 o4 (txt 5) = o5 := ⟨_,rfl⟩
 have z5 := wr1_size o4 (txt 5)
 rw [e5] at hR z5 ⊢
 have Q5 : Hid (wr1 o4 (txt 5) = o5) := e5
 clear e5
 obtain ⟨o6,e6⟩ : ∃ o6,kf 1 o5 = o6 := ⟨_,rfl⟩
 have z6 := hmo 1 o5
 rw [e6] at hR z6 ⊢
 have Q6 : Hid (kf 1 o5 = o6) := e6
 clear e6
 have HK4 : Hid (KiW w0 p pv i k a wd nm na nl nc ka 2 kc 0 o3 o4) := by
  have h5 := HK.out 0 (by omega) o3 (by rw [Q4.out];omega)
  rw [Q4.out] at h5
  exact h5
 have HK6 : Hid (KiW w0 p pv i k a wd nm na nl nc ka 2 kc 1 o5 o6) := by
  have h5 := HK.out 1 (by omega) o5 (by rw [Q6.out];omega)
  rw [Q6.out] at h5
  exact h5
 have HF0 : Hid (∀ x,WF p w (w.alloc x)) := fun x => HM.out.fr ((Below.refl _ _).alloc (Nat.le_refl _) _)
 clear h hK hN hns
 subst hk
 all_goals
  go_enter Tryz.func258,Tryz.ntmps258
  go_wp2_with (first
   | (go_at_call 181;refine (word_w (k := 3) (by omega) (by omega) E (HM.out.al _)).mono ?_;rw [Q1.out];rintro _ w1 ⟨⟨u1,rfl⟩,ov1,hm1,hf1⟩;have bx1 := hf1.rest _ _ _ (blk_new w _) np (by decide);have c0 := blk_at bx1 0 rfl;have c1 := blk_at bx1 1 rfl;have c2 := blk_at bx1 2 rfl;have c3 := blk_at bx1 3 rfl;have c4 := blk_at bx1 4 rfl;have c5 := blk_at bx1 5 rfl;clear HM)
   | (go_at_call 256;refine (list_w (k := 0) (by omega) hnn HNS.out Q2.out (by omega) HNR.out E hm1).mono ?_;rintro _ w2 ⟨⟨u2,rfl⟩,ov2,hm2,hf2⟩;have bx2 := hf2.rest _ _ _ bx1 np (by decide);have c0 := blk_at bx2 0 rfl;have c1 := blk_at bx2 1 rfl;have c2 := blk_at bx2 2 rfl;have c3 := blk_at bx2 3 rfl;have c4 := blk_at bx2 4 rfl;have c5 := blk_at bx2 5 rfl;clear hm1)
   | (go_at_call 181;refine (word_w (k := 27) (by omega) (by omega) E hm2).mono ?_;rw [Q3.out];rintro _ w3 ⟨⟨u3,rfl⟩,ov3,hm3,hf3⟩;have bx3 := hf3.rest _ _ _ bx2 np (by decide);have c0 := blk_at bx3 0 rfl;have c1 := blk_at bx3 1 rfl;have c2 := blk_at bx3 2 rfl;have c3 := blk_at bx3 3 rfl;have c4 := blk_at bx3 4 rfl;have c5 := blk_at bx3 5 rfl;clear hm2)
   | (go_at_call 260;refine (HK4.out.go hm3).mono ?_;rintro _ w4 ⟨⟨u4,rfl⟩,ov4,hm4,hf4⟩;have bx4 := hf4.rest _ _ _ bx3 np (by decide);have c0 := blk_at bx4 0 rfl;have c1 := blk_at bx4 1 rfl;have c2 := blk_at bx4 2 rfl;have c3 := blk_at bx4 3 rfl;have c4 := blk_at bx4 4 rfl;have c5 := blk_at bx4 5 rfl;clear hm3)
   | (go_at_call 181;refine (word_w (k := 5) (by omega) (by omega) E hm4).mono ?_;rw [Q5.out];rintro _ w5 ⟨⟨u5,rfl⟩,ov5,hm5,hf5⟩;have bx5 := hf5.rest _ _ _ bx4 np (by decide);have c0 := blk_at bx5 0 rfl;have c1 := blk_at bx5 1 rfl;have c2 := blk_at bx5 2 rfl;have c3 := blk_at bx5 3 rfl;have c4 := blk_at bx5 4 rfl;have c5 := blk_at bx5 5 rfl;clear hm4)
   | (go_at_call 260;refine (HK6.out.go hm5).mono ?_;rintro _ w6 ⟨⟨u6,rfl⟩,ov6,hm6,hf6⟩;have bx6 := hf6.rest _ _ _ bx5 np (by decide);have c0 := blk_at bx6 0 rfl;have c1 := blk_at bx6 1 rfl;have c2 := blk_at bx6 2 rfl;have c3 := blk_at bx6 3 rfl;have c4 := blk_at bx6 4 rfl;have c5 := blk_at bx6 5 rfl;clear hm5))
  go_returns
  exact ⟨⟨_,rfl⟩,ov6,hm6,((((((HF0.out _).trans hf1).trans hf2).trans hf3).trans hf4).trans hf5).trans hf6⟩
set_option maxRecDepth 100000 in
theorem let9_w (E : WE w0 p base pv ps vs) {kf : Nat -> ByteArray -> ByteArray} (hmo : ∀ j o,o.size <= (kf j o).size) (hK : ∀ j,j < kl -> ∀ o1,(kf j o1).size <= 100000000 -> KiW w0 p pv i k a wd nm na nl nc ka kl kc j o1 (kf j o1)) (hkl : kl <= 100) {ns : List ByteArray} (hN : w0.ownsRow base 9 1 (.slice na nl nc) ns.length (ns.map Value.string)) (hnn : ns.length <= 100) (hns : ∀ x ∈ ns,x.size <= 100000) (hk3 : kl = 2) (hk : k = 9) (hR : (kf 1 (wr1 (kf 0 (wr1 (lw 0 (wr1 (wr1 o (txt 3)) (txt 4)) true ns) (txt 27))) (txt 5))).size <= 100000000) (h : WM w0 w p pv ov o) :
 Calls Tryz.prog 258 #[.pointer (some ⟨p,0,none⟩),.int .i64 (i : Nat),.agg #[.int .i64 (k : Nat),.int .i64 (a : Nat),.int .i64 (wd : Nat),.int .i64 nm,.slice na nl nc,.slice ka kl kc]] w fun e w' => (∃ u,e = .returned u) /\ ∃ ov',WM w0 w' p pv ov' (kf 1 (wr1 (kf 0 (wr1 (lw 0 (wr1 (wr1 o (txt 3)) (txt 4)) true ns) (txt 27))) (txt 5))) /\ WF p w w' := by
 subst hk3
 have HM : Hid (WM w0 w p pv ov o) := h
 have HK : Hid (∀ j,j < 2 -> ∀ o1,(kf j o1).size <= 100000000 -> KiW w0 p pv i k a wd nm na nl nc ka 2 kc j o1 (kf j o1)) := hK
 have HNR : Hid (w0.ownsRow base 9 1 (.slice na nl nc) ns.length (ns.map Value.string)) := hN
 have HNS : Hid (∀ x ∈ ns,x.size <= 100000) := hns
 have np : w.heap.size ≠ p := by have := lt_of_block h.blk;omega
 obtain ⟨o1,e1⟩ : ∃ o1,wr1 o (txt 3) = o1 := ⟨_,rfl⟩
 have z1 := wr1_size o (txt 3)
 rw [e1] at hR z1 ⊢
 have Q1 : Hid (wr1 o (txt 3) = o1) := e1
 clear e1
 obtain ⟨o2,e2⟩ : ∃ o2,wr1 o1 (txt 4) = o2 := ⟨_,rfl⟩
 have z2 := wr1_size o1 (txt 4)
 rw [e2] at hR z2 ⊢
 have Q2 : Hid (wr1 o1 (txt 4) = o2) := e2
 clear e2
 obtain ⟨o3,e3⟩ : ∃ o3,lw 0 o2 true ns = o3 := ⟨_,rfl⟩
 have z3 := lw_size 0 ns o2 true
 rw [e3] at hR z3 ⊢
 have Q3 : Hid (lw 0 o2 true ns = o3) := e3
 clear e3
 obtain ⟨o4,e4⟩ : ∃ o4,wr1 o3 (txt 27) = o4 := ⟨_,rfl⟩
 have z4 := wr1_size o3 (txt 27)
 rw [e4] at hR z4 ⊢
 have Q4 : Hid (wr1 o3 (txt 27) = o4) := e4
 clear e4
 obtain ⟨o5,e5⟩ : ∃ o5,kf 0 o4 = o5 := ⟨_,rfl⟩
 have z5 := hmo 0 o4
 rw [e5] at hR z5 ⊢
 have Q5 : Hid (kf 0 o4 = o5) := e5
 clear e5
 obtain ⟨o6,e6⟩ : ∃ o6,wr1 o5 (txt 5) = o6 := ⟨_,rfl⟩
 have z6 := wr1_size o5 (txt 5)
 rw [e6] at hR z6 ⊢
 have Q6 : Hid (wr1 o5 (txt 5) = o6) := e6
 clear e6
 obtain ⟨o7,e7⟩ : ∃ o7,kf 1 o6 = o7 := ⟨_,rfl⟩
 have z7 := hmo 1 o6
 rw [e7] at hR z7 ⊢
 have Q7 : Hid (kf 1 o6 = o7) := e7
 clear e7
 have HK5 : Hid (KiW w0 p pv i k a wd nm na nl nc ka 2 kc 0 o4 o5) := by
  have h5 := HK.out 0 (by omega) o4 (by rw [Q5.out];omega)
  rw [Q5.out] at h5
  exact h5
 have HK7 : Hid (KiW w0 p pv i k a wd nm na nl nc ka 2 kc 1 o6 o7) := by
  have h5 := HK.out 1 (by omega) o6 (by rw [Q7.out];omega)
  rw [Q7.out] at h5
  exact h5
 have HF0 : Hid (∀ x,WF p w (w.alloc x)) := fun x => HM.out.fr ((Below.refl _ _).alloc (Nat.le_refl _) _)
 clear h hK hN hns
 subst hk
 all_goals
  go_enter Tryz.func258,Tryz.ntmps258
  go_wp2_with (first
   | (go_at_call 181;refine (word_w (k := 3) (by omega) (by omega) E (HM.out.al _)).mono ?_;rw [Q1.out];rintro _ w1 ⟨⟨u1,rfl⟩,ov1,hm1,hf1⟩;have bx1 := hf1.rest _ _ _ (blk_new w _) np (by decide);have c0 := blk_at bx1 0 rfl;have c1 := blk_at bx1 1 rfl;have c2 := blk_at bx1 2 rfl;have c3 := blk_at bx1 3 rfl;have c4 := blk_at bx1 4 rfl;have c5 := blk_at bx1 5 rfl;clear HM)
   | (go_at_call 181;refine (word_w (k := 4) (by omega) (by omega) E hm1).mono ?_;rw [Q2.out];rintro _ w2 ⟨⟨u2,rfl⟩,ov2,hm2,hf2⟩;have bx2 := hf2.rest _ _ _ bx1 np (by decide);have c0 := blk_at bx2 0 rfl;have c1 := blk_at bx2 1 rfl;have c2 := blk_at bx2 2 rfl;have c3 := blk_at bx2 3 rfl;have c4 := blk_at bx2 4 rfl;have c5 := blk_at bx2 5 rfl;clear hm1)
   | (go_at_call 256;refine (list_w (k := 0) (by omega) hnn HNS.out Q3.out (by omega) HNR.out E hm2).mono ?_;rintro _ w3 ⟨⟨u3,rfl⟩,ov3,hm3,hf3⟩;have bx3 := hf3.rest _ _ _ bx2 np (by decide);have c0 := blk_at bx3 0 rfl;have c1 := blk_at bx3 1 rfl;have c2 := blk_at bx3 2 rfl;have c3 := blk_at bx3 3 rfl;have c4 := blk_at bx3 4 rfl;have c5 := blk_at bx3 5 rfl;clear hm2)
   | (go_at_call 181;refine (word_w (k := 27) (by omega) (by omega) E hm3).mono ?_;rw [Q4.out];rintro _ w4 ⟨⟨u4,rfl⟩,ov4,hm4,hf4⟩;have bx4 := hf4.rest _ _ _ bx3 np (by decide);have c0 := blk_at bx4 0 rfl;have c1 := blk_at bx4 1 rfl;have c2 := blk_at bx4 2 rfl;have c3 := blk_at bx4 3 rfl;have c4 := blk_at bx4 4 rfl;have c5 := blk_at bx4 5 rfl;clear hm3)
   | (go_at_call 260;refine (HK5.out.go hm4).mono ?_;rintro _ w5 ⟨⟨u5,rfl⟩,ov5,hm5,hf5⟩;have bx5 := hf5.rest _ _ _ bx4 np (by decide);have c0 := blk_at bx5 0 rfl;have c1 := blk_at bx5 1 rfl;have c2 := blk_at bx5 2 rfl;have c3 := blk_at bx5 3 rfl;have c4 := blk_at bx5 4 rfl;have c5 := blk_at bx5 5 rfl;clear hm4)
   | (go_at_call 181;refine (word_w (k := 5) (by omega) (by omega) E hm5).mono ?_;rw [Q6.out];rintro _ w6 ⟨⟨u6,rfl⟩,ov6,hm6,hf6⟩;have bx6 := hf6.rest _ _ _ bx5 np (by decide);have c0 := blk_at bx6 0 rfl;have c1 := blk_at bx6 1 rfl;have c2 := blk_at bx6 2 rfl;have c3 := blk_at bx6 3 rfl;have c4 := blk_at bx6 4 rfl;have c5 := blk_at bx6 5 rfl;clear hm5)
   | (go_at_call 260;refine (HK7.out.go hm6).mono ?_;rintro _ w7 ⟨⟨u7,rfl⟩,ov7,hm7,hf7⟩;have bx7 := hf7.rest _ _ _ bx6 np (by decide);have c0 := blk_at bx7 0 rfl;have c1 := blk_at bx7 1 rfl;have c2 := blk_at bx7 2 rfl;have c3 := blk_at bx7 3 rfl;have c4 := blk_at bx7 4 rfl;have c5 := blk_at bx7 5 rfl;clear hm6))
  go_returns
  exact ⟨⟨_,rfl⟩,ov7,hm7,(((((((HF0.out _).trans hf1).trans hf2).trans hf3).trans hf4).trans hf5).trans hf6).trans hf7⟩
set_option maxRecDepth 100000 in
theorem let10_w (E : WE w0 p base pv ps vs) {kf : Nat -> ByteArray -> ByteArray} (hmo : ∀ j o,o.size <= (kf j o).size) (hK : ∀ j,j < kl -> ∀ o1,(kf j o1).size <= 100000000 -> KiW w0 p pv i k a wd nm na nl nc ka kl kc j o1 (kf j o1)) (hkl : kl <= 100) {ns : List ByteArray} (hN : w0.ownsRow base 9 1 (.slice na nl nc) ns.length (ns.map Value.string)) (hnn : ns.length <= 100) (hns : ∀ x ∈ ns,x.size <= 100000) (hk3 : kl = 2) (hk : k = 10) (hR : (kf 1 (wr1 (kf 0 (wr1 (wr1 (lw 25 (wr1 (wr1 o (txt 3)) (txt 23)) true ns) (txt 24)) (txt 27))) (txt 5))).size <= 100000000) (h : WM w0 w p pv ov o) :
 Calls Tryz.prog 258 #[.pointer (some ⟨p,0,none⟩),.int .i64 (i : Nat),.agg #[.int .i64 (k : Nat),.int .i64 (a : Nat),.int .i64 (wd : Nat),.int .i64 nm,.slice na nl nc,.slice ka kl kc]] w fun e w' => (∃ u,e = .returned u) /\ ∃ ov',WM w0 w' p pv ov' (kf 1 (wr1 (kf 0 (wr1 (wr1 (lw 25 (wr1 (wr1 o (txt 3)) (txt 23)) true ns) (txt 24)) (txt 27))) (txt 5))) /\ WF p w w' := by
 subst hk3
 have HM : Hid (WM w0 w p pv ov o) := h
 have HK : Hid (∀ j,j < 2 -> ∀ o1,(kf j o1).size <= 100000000 -> KiW w0 p pv i k a wd nm na nl nc ka 2 kc j o1 (kf j o1)) := hK
 have HNR : Hid (w0.ownsRow base 9 1 (.slice na nl nc) ns.length (ns.map Value.string)) := hN
 have HNS : Hid (∀ x ∈ ns,x.size <= 100000) := hns
 have np : w.heap.size ≠ p := by have := lt_of_block h.blk;omega
 obtain ⟨o1,e1⟩ : ∃ o1,wr1 o (txt 3) = o1 := ⟨_,rfl⟩
 have z1 := wr1_size o (txt 3)
 rw [e1] at hR z1 ⊢
 have Q1 : Hid (wr1 o (txt 3) = o1) := e1
 clear e1
 obtain ⟨o2,e2⟩ : ∃ o2,wr1 o1 (txt 23) = o2 := ⟨_,rfl⟩
 have z2 := wr1_size o1 (txt 23)
 rw [e2] at hR z2 ⊢
 have Q2 : Hid (wr1 o1 (txt 23) = o2) := e2
 clear e2
 obtain ⟨o3,e3⟩ : ∃ o3,lw 25 o2 true ns = o3 := ⟨_,rfl⟩
 have z3 := lw_size 25 ns o2 true
 rw [e3] at hR z3 ⊢
 have Q3 : Hid (lw 25 o2 true ns = o3) := e3
 clear e3
 obtain ⟨o4,e4⟩ : ∃ o4,wr1 o3 (txt 24) = o4 := ⟨_,rfl⟩
 have z4 := wr1_size o3 (txt 24)
 rw [e4] at hR z4 ⊢
 have Q4 : Hid (wr1 o3 (txt 24) = o4) := e4
 clear e4
 obtain ⟨o5,e5⟩ : ∃ o5,wr1 o4 (txt 27) = o5 := ⟨_,rfl⟩
 have z5 := wr1_size o4 (txt 27)
 rw [e5] at hR z5 ⊢
 have Q5 : Hid (wr1 o4 (txt 27) = o5) := e5
 clear e5
 obtain ⟨o6,e6⟩ : ∃ o6,kf 0 o5 = o6 := ⟨_,rfl⟩
 have z6 := hmo 0 o5
 rw [e6] at hR z6 ⊢
 have Q6 : Hid (kf 0 o5 = o6) := e6
 clear e6
 obtain ⟨o7,e7⟩ : ∃ o7,wr1 o6 (txt 5) = o7 := ⟨_,rfl⟩
 have z7 := wr1_size o6 (txt 5)
 rw [e7] at hR z7 ⊢
 have Q7 : Hid (wr1 o6 (txt 5) = o7) := e7
 clear e7
 obtain ⟨o8,e8⟩ : ∃ o8,kf 1 o7 = o8 := ⟨_,rfl⟩
 have z8 := hmo 1 o7
 rw [e8] at hR z8 ⊢
 have Q8 : Hid (kf 1 o7 = o8) := e8
 clear e8
 have HK6 : Hid (KiW w0 p pv i k a wd nm na nl nc ka 2 kc 0 o5 o6) := by
  have h5 := HK.out 0 (by omega) o5 (by rw [Q6.out];omega)
  rw [Q6.out] at h5
  exact h5
 have HK8 : Hid (KiW w0 p pv i k a wd nm na nl nc ka 2 kc 1 o7 o8) := by
  have h5 := HK.out 1 (by omega) o7 (by rw [Q8.out];omega)
  rw [Q8.out] at h5
  exact h5
 have HF0 : Hid (∀ x,WF p w (w.alloc x)) := fun x => HM.out.fr ((Below.refl _ _).alloc (Nat.le_refl _) _)
 clear h hK hN hns
 subst hk
 all_goals
  go_enter Tryz.func258,Tryz.ntmps258
  go_wp2_with (first
   | (go_at_call 181;refine (word_w (k := 3) (by omega) (by omega) E (HM.out.al _)).mono ?_;rw [Q1.out];rintro _ w1 ⟨⟨u1,rfl⟩,ov1,hm1,hf1⟩;have bx1 := hf1.rest _ _ _ (blk_new w _) np (by decide);have c0 := blk_at bx1 0 rfl;have c1 := blk_at bx1 1 rfl;have c2 := blk_at bx1 2 rfl;have c3 := blk_at bx1 3 rfl;have c4 := blk_at bx1 4 rfl;have c5 := blk_at bx1 5 rfl;clear HM)
   | (go_at_call 181;refine (word_w (k := 23) (by omega) (by omega) E hm1).mono ?_;rw [Q2.out];rintro _ w2 ⟨⟨u2,rfl⟩,ov2,hm2,hf2⟩;have bx2 := hf2.rest _ _ _ bx1 np (by decide);have c0 := blk_at bx2 0 rfl;have c1 := blk_at bx2 1 rfl;have c2 := blk_at bx2 2 rfl;have c3 := blk_at bx2 3 rfl;have c4 := blk_at bx2 4 rfl;have c5 := blk_at bx2 5 rfl;clear hm1)
   | (go_at_call 256;refine (list_w (k := 25) (by omega) hnn HNS.out Q3.out (by omega) HNR.out E hm2).mono ?_;rintro _ w3 ⟨⟨u3,rfl⟩,ov3,hm3,hf3⟩;have bx3 := hf3.rest _ _ _ bx2 np (by decide);have c0 := blk_at bx3 0 rfl;have c1 := blk_at bx3 1 rfl;have c2 := blk_at bx3 2 rfl;have c3 := blk_at bx3 3 rfl;have c4 := blk_at bx3 4 rfl;have c5 := blk_at bx3 5 rfl;clear hm2)
   | (go_at_call 181;refine (word_w (k := 24) (by omega) (by omega) E hm3).mono ?_;rw [Q4.out];rintro _ w4 ⟨⟨u4,rfl⟩,ov4,hm4,hf4⟩;have bx4 := hf4.rest _ _ _ bx3 np (by decide);have c0 := blk_at bx4 0 rfl;have c1 := blk_at bx4 1 rfl;have c2 := blk_at bx4 2 rfl;have c3 := blk_at bx4 3 rfl;have c4 := blk_at bx4 4 rfl;have c5 := blk_at bx4 5 rfl;clear hm3)
   | (go_at_call 181;refine (word_w (k := 27) (by omega) (by omega) E hm4).mono ?_;rw [Q5.out];rintro _ w5 ⟨⟨u5,rfl⟩,ov5,hm5,hf5⟩;have bx5 := hf5.rest _ _ _ bx4 np (by decide);have c0 := blk_at bx5 0 rfl;have c1 := blk_at bx5 1 rfl;have c2 := blk_at bx5 2 rfl;have c3 := blk_at bx5 3 rfl;have c4 := blk_at bx5 4 rfl;have c5 := blk_at bx5 5 rfl;clear hm4)
   | (go_at_call 260;refine (HK6.out.go hm5).mono ?_;rintro _ w6 ⟨⟨u6,rfl⟩,ov6,hm6,hf6⟩;have bx6 := hf6.rest _ _ _ bx5 np (by decide);have c0 := blk_at bx6 0 rfl;have c1 := blk_at bx6 1 rfl;have c2 := blk_at bx6 2 rfl;have c3 := blk_at bx6 3 rfl;have c4 := blk_at bx6 4 rfl;have c5 := blk_at bx6 5 rfl;clear hm5)
   | (go_at_call 181;refine (word_w (k := 5) (by omega) (by omega) E hm6).mono ?_;rw [Q7.out];rintro _ w7 ⟨⟨u7,rfl⟩,ov7,hm7,hf7⟩;have bx7 := hf7.rest _ _ _ bx6 np (by decide);have c0 := blk_at bx7 0 rfl;have c1 := blk_at bx7 1 rfl;have c2 := blk_at bx7 2 rfl;have c3 := blk_at bx7 3 rfl;have c4 := blk_at bx7 4 rfl;have c5 := blk_at bx7 5 rfl;clear hm6)
   | (go_at_call 260;refine (HK8.out.go hm7).mono ?_;rintro _ w8 ⟨⟨u8,rfl⟩,ov8,hm8,hf8⟩;have bx8 := hf8.rest _ _ _ bx7 np (by decide);have c0 := blk_at bx8 0 rfl;have c1 := blk_at bx8 1 rfl;have c2 := blk_at bx8 2 rfl;have c3 := blk_at bx8 3 rfl;have c4 := blk_at bx8 4 rfl;have c5 := blk_at bx8 5 rfl;clear hm7))
  go_returns
  exact ⟨⟨_,rfl⟩,ov8,hm8,((((((((HF0.out _).trans hf1).trans hf2).trans hf3).trans hf4).trans hf5).trans hf6).trans hf7).trans hf8⟩
set_option maxRecDepth 100000 in
theorem bare1_w (E : WE w0 p base pv ps vs) {n : Nat} (hn : n <= 4611686018427387903) (hnm : nm = (n : Int)) (hk : k = 1) (hR : (wr1 o (dec n)).size <= 100000000) (h : WM w0 w p pv ov o) :
 Calls Tryz.prog 180 #[.pointer (some ⟨p,0,none⟩),.int .i64 (i : Nat),.agg #[.int .i64 (k : Nat),.int .i64 (a : Nat),.int .i64 (wd : Nat),.int .i64 nm,.slice na nl nc,.slice ka kl kc]] w fun e w' => (∃ u,e = .returned u) /\ ∃ ov',WM w0 w' p pv ov' (wr1 o (dec n)) /\ WF p w w' := by
 have HM : Hid (WM w0 w p pv ov o) := h
 have np : w.heap.size ≠ p := by have := lt_of_block h.blk;omega
 subst hnm
 obtain ⟨o1,e1⟩ : ∃ o1,wr1 o (dec n) = o1 := ⟨_,rfl⟩
 have z1 := wr1_size o (dec n)
 rw [e1] at hR z1 ⊢
 have Q1 : Hid (wr1 o (dec n) = o1) := e1
 clear e1
 have HF0 : Hid (∀ x,WF p w (w.alloc x)) := fun x => HM.out.fr ((Below.refl _ _).alloc (Nat.le_refl _) _)
 clear h
 subst hk
 all_goals
  go_enter Tryz.func180,Tryz.ntmps180
  go_wp2_with (first
   | (go_at_call 255;refine (number_w (n := n) hn (by omega) E (HM.out.al _)).mono ?_;rw [Q1.out];rintro _ w1 ⟨⟨u1,rfl⟩,ov1,hm1,hf1⟩;have bx1 := hf1.rest _ _ _ (blk_new w _) np (by decide);have c0 := blk_at bx1 0 rfl;have c1 := blk_at bx1 1 rfl;have c2 := blk_at bx1 2 rfl;have c3 := blk_at bx1 3 rfl;have c4 := blk_at bx1 4 rfl;have c5 := blk_at bx1 5 rfl;clear HM))
  go_returns
  exact ⟨⟨_,rfl⟩,ov1,hm1,(HF0.out _).trans hf1⟩
set_option maxRecDepth 100000 in
theorem bare5_w (E : WE w0 p base pv ps vs) {ns : List ByteArray} (hN : w0.ownsRow base 9 1 (.slice na nl nc) ns.length (ns.map Value.string)) (hnn : ns.length <= 100) (hns : ∀ x ∈ ns,x.size <= 100000)  (hk : k = 5) (hR : (lw 0 o true ns).size <= 100000000) (h : WM w0 w p pv ov o) :
 Calls Tryz.prog 180 #[.pointer (some ⟨p,0,none⟩),.int .i64 (i : Nat),.agg #[.int .i64 (k : Nat),.int .i64 (a : Nat),.int .i64 (wd : Nat),.int .i64 nm,.slice na nl nc,.slice ka kl kc]] w fun e w' => (∃ u,e = .returned u) /\ ∃ ov',WM w0 w' p pv ov' (lw 0 o true ns) /\ WF p w w' := by
 have HM : Hid (WM w0 w p pv ov o) := h
 have HNR : Hid (w0.ownsRow base 9 1 (.slice na nl nc) ns.length (ns.map Value.string)) := hN
 have HNS : Hid (∀ x ∈ ns,x.size <= 100000) := hns
 have np : w.heap.size ≠ p := by have := lt_of_block h.blk;omega
 obtain ⟨o1,e1⟩ : ∃ o1,lw 0 o true ns = o1 := ⟨_,rfl⟩
 have z1 := lw_size 0 ns o true
 rw [e1] at hR z1 ⊢
 have Q1 : Hid (lw 0 o true ns = o1) := e1
 clear e1
 have HF0 : Hid (∀ x,WF p w (w.alloc x)) := fun x => HM.out.fr ((Below.refl _ _).alloc (Nat.le_refl _) _)
 clear h hN hns
 subst hk
 all_goals
  go_enter Tryz.func180,Tryz.ntmps180
  go_wp2_with (first
   | (go_at_call 256;refine (list_w (k := 0) (by omega) hnn HNS.out Q1.out (by omega) HNR.out E (HM.out.al _)).mono ?_;rintro _ w1 ⟨⟨u1,rfl⟩,ov1,hm1,hf1⟩;have bx1 := hf1.rest _ _ _ (blk_new w _) np (by decide);have c0 := blk_at bx1 0 rfl;have c1 := blk_at bx1 1 rfl;have c2 := blk_at bx1 2 rfl;have c3 := blk_at bx1 3 rfl;have c4 := blk_at bx1 4 rfl;have c5 := blk_at bx1 5 rfl;clear HM))
  go_returns
  exact ⟨⟨_,rfl⟩,ov1,hm1,(HF0.out _).trans hf1⟩
set_option maxRecDepth 100000 in
theorem bare67_w (E : WE w0 p base pv ps vs) {kf : Nat -> ByteArray -> ByteArray} (hmo : ∀ j o,o.size <= (kf j o).size) (hK : ∀ j,j < kl -> ∀ o1,(kf j o1).size <= 100000000 -> KiW w0 p pv i k a wd nm na nl nc ka kl kc j o1 (kf j o1)) (hkl : kl <= 100)  (hk : k = 6 \/ k = 7) (hR : (wr1 (ksF 25 kf kl (wr1 o (txt 23))) (txt 24)).size <= 100000000) (h : WM w0 w p pv ov o) :
 Calls Tryz.prog 180 #[.pointer (some ⟨p,0,none⟩),.int .i64 (i : Nat),.agg #[.int .i64 (k : Nat),.int .i64 (a : Nat),.int .i64 (wd : Nat),.int .i64 nm,.slice na nl nc,.slice ka kl kc]] w fun e w' => (∃ u,e = .returned u) /\ ∃ ov',WM w0 w' p pv ov' (wr1 (ksF 25 kf kl (wr1 o (txt 23))) (txt 24)) /\ WF p w w' := by
 have HM : Hid (WM w0 w p pv ov o) := h
 have HK : Hid (∀ j,j < kl -> ∀ o1,(kf j o1).size <= 100000000 -> KiW w0 p pv i k a wd nm na nl nc ka kl kc j o1 (kf j o1)) := hK
 have np : w.heap.size ≠ p := by have := lt_of_block h.blk;omega
 obtain ⟨o1,e1⟩ : ∃ o1,wr1 o (txt 23) = o1 := ⟨_,rfl⟩
 have z1 := wr1_size o (txt 23)
 rw [e1] at hR z1 ⊢
 have Q1 : Hid (wr1 o (txt 23) = o1) := e1
 clear e1
 obtain ⟨o2,e2⟩ : ∃ o2,ksF 25 kf kl o1 = o2 := ⟨_,rfl⟩
 have z2 := ksF_size (sg := 25) hmo o1 kl 0 (by omega)
 rw [e2] at hR z2 ⊢
 have z2 : o1.size <= o2.size := z2
 have Q2 : Hid (ksF 25 kf kl o1 = o2) := e2
 clear e2
 obtain ⟨o3,e3⟩ : ∃ o3,wr1 o2 (txt 24) = o3 := ⟨_,rfl⟩
 have z3 := wr1_size o2 (txt 24)
 rw [e3] at hR z3 ⊢
 have Q3 : Hid (wr1 o2 (txt 24) = o3) := e3
 clear e3
 have HF0 : Hid (∀ x,WF p w (w.alloc x)) := fun x => HM.out.fr ((Below.refl _ _).alloc (Nat.le_refl _) _)
 clear h hK
 rcases hk with rfl | rfl
 all_goals
  go_enter Tryz.func180,Tryz.ntmps180
  go_wp2_with (first
   | (go_at_call 181;refine (word_w (k := 23) (by omega) (by omega) E (HM.out.al _)).mono ?_;rw [Q1.out];rintro _ w1 ⟨⟨u1,rfl⟩,ov1,hm1,hf1⟩;have bx1 := hf1.rest _ _ _ (blk_new w _) np (by decide);have c0 := blk_at bx1 0 rfl;have c1 := blk_at bx1 1 rfl;have c2 := blk_at bx1 2 rfl;have c3 := blk_at bx1 3 rfl;have c4 := blk_at bx1 4 rfl;have c5 := blk_at bx1 5 rfl;clear HM)
   | (go_at_call 257;refine (kids_w (sg := 25) (kf := kf) E (by omega) hkl hmo HK.out (by rw [Q2.out];omega) hm1).mono ?_;rw [Q2.out];rintro _ w2 ⟨⟨u2,rfl⟩,ov2,hm2,hf2⟩;have bx2 := hf2.rest _ _ _ bx1 np (by decide);have c0 := blk_at bx2 0 rfl;have c1 := blk_at bx2 1 rfl;have c2 := blk_at bx2 2 rfl;have c3 := blk_at bx2 3 rfl;have c4 := blk_at bx2 4 rfl;have c5 := blk_at bx2 5 rfl;clear hm1)
   | (go_at_call 181;refine (word_w (k := 24) (by omega) (by omega) E hm2).mono ?_;rw [Q3.out];rintro _ w3 ⟨⟨u3,rfl⟩,ov3,hm3,hf3⟩;have bx3 := hf3.rest _ _ _ bx2 np (by decide);have c0 := blk_at bx3 0 rfl;have c1 := blk_at bx3 1 rfl;have c2 := blk_at bx3 2 rfl;have c3 := blk_at bx3 3 rfl;have c4 := blk_at bx3 4 rfl;have c5 := blk_at bx3 5 rfl;clear hm2))
  go_returns
  exact ⟨⟨_,rfl⟩,ov3,hm3,(((HF0.out _).trans hf1).trans hf2).trans hf3⟩
set_option maxRecDepth 100000 in
theorem bare12_w (E : WE w0 p base pv ps vs) {kf : Nat -> ByteArray -> ByteArray} (hmo : ∀ j o,o.size <= (kf j o).size) (hK : ∀ j,j < kl -> ∀ o1,(kf j o1).size <= 100000000 -> KiW w0 p pv i k a wd nm na nl nc ka kl kc j o1 (kf j o1)) (hkl : kl <= 100) {ns : List ByteArray} (hN : w0.ownsRow base 9 1 (.slice na nl nc) ns.length (ns.map Value.string)) (hnn : ns.length <= 100) (hns : ∀ x ∈ ns,x.size <= 100000) (hwd : wd < 35) (hk3 : kl = 1) (hk : k = 12) (hR : (kf 0 (wr1 (lw 0 (wr1 o (txt wd)) true ns) (txt 22))).size <= 100000000) (h : WM w0 w p pv ov o) :
 Calls Tryz.prog 180 #[.pointer (some ⟨p,0,none⟩),.int .i64 (i : Nat),.agg #[.int .i64 (k : Nat),.int .i64 (a : Nat),.int .i64 (wd : Nat),.int .i64 nm,.slice na nl nc,.slice ka kl kc]] w fun e w' => (∃ u,e = .returned u) /\ ∃ ov',WM w0 w' p pv ov' (kf 0 (wr1 (lw 0 (wr1 o (txt wd)) true ns) (txt 22))) /\ WF p w w' := by
 subst hk3
 have HM : Hid (WM w0 w p pv ov o) := h
 have HK : Hid (∀ j,j < 1 -> ∀ o1,(kf j o1).size <= 100000000 -> KiW w0 p pv i k a wd nm na nl nc ka 1 kc j o1 (kf j o1)) := hK
 have HNR : Hid (w0.ownsRow base 9 1 (.slice na nl nc) ns.length (ns.map Value.string)) := hN
 have HNS : Hid (∀ x ∈ ns,x.size <= 100000) := hns
 have np : w.heap.size ≠ p := by have := lt_of_block h.blk;omega
 obtain ⟨o1,e1⟩ : ∃ o1,wr1 o (txt wd) = o1 := ⟨_,rfl⟩
 have z1 := wr1_size o (txt wd)
 rw [e1] at hR z1 ⊢
 have Q1 : Hid (wr1 o (txt wd) = o1) := e1
 clear e1
 obtain ⟨o2,e2⟩ : ∃ o2,lw 0 o1 true ns = o2 := ⟨_,rfl⟩
 have z2 := lw_size 0 ns o1 true
 rw [e2] at hR z2 ⊢
 have Q2 : Hid (lw 0 o1 true ns = o2) := e2
 clear e2
 obtain ⟨o3,e3⟩ : ∃ o3,wr1 o2 (txt 22) = o3 := ⟨_,rfl⟩
 have z3 := wr1_size o2 (txt 22)
 rw [e3] at hR z3 ⊢
 have Q3 : Hid (wr1 o2 (txt 22) = o3) := e3
 clear e3
 obtain ⟨o4,e4⟩ : ∃ o4,kf 0 o3 = o4 := ⟨_,rfl⟩
 have z4 := hmo 0 o3
 rw [e4] at hR z4 ⊢
 have Q4 : Hid (kf 0 o3 = o4) := e4
 clear e4
 have HK4 : Hid (KiW w0 p pv i k a wd nm na nl nc ka 1 kc 0 o3 o4) := by
  have h5 := HK.out 0 (by omega) o3 (by rw [Q4.out];omega)
  rw [Q4.out] at h5
  exact h5
 have HF0 : Hid (∀ x,WF p w (w.alloc x)) := fun x => HM.out.fr ((Below.refl _ _).alloc (Nat.le_refl _) _)
 clear h hK hN hns
 subst hk
 all_goals
  go_enter Tryz.func180,Tryz.ntmps180
  go_wp2_with (first
   | (go_at_call 181;refine (word_w (k := wd) hwd (by omega) E (HM.out.al _)).mono ?_;rw [Q1.out];rintro _ w1 ⟨⟨u1,rfl⟩,ov1,hm1,hf1⟩;have bx1 := hf1.rest _ _ _ (blk_new w _) np (by decide);have c0 := blk_at bx1 0 rfl;have c1 := blk_at bx1 1 rfl;have c2 := blk_at bx1 2 rfl;have c3 := blk_at bx1 3 rfl;have c4 := blk_at bx1 4 rfl;have c5 := blk_at bx1 5 rfl;clear HM)
   | (go_at_call 256;refine (list_w (k := 0) (by omega) hnn HNS.out Q2.out (by omega) HNR.out E hm1).mono ?_;rintro _ w2 ⟨⟨u2,rfl⟩,ov2,hm2,hf2⟩;have bx2 := hf2.rest _ _ _ bx1 np (by decide);have c0 := blk_at bx2 0 rfl;have c1 := blk_at bx2 1 rfl;have c2 := blk_at bx2 2 rfl;have c3 := blk_at bx2 3 rfl;have c4 := blk_at bx2 4 rfl;have c5 := blk_at bx2 5 rfl;clear hm1)
   | (go_at_call 181;refine (word_w (k := 22) (by omega) (by omega) E hm2).mono ?_;rw [Q3.out];rintro _ w3 ⟨⟨u3,rfl⟩,ov3,hm3,hf3⟩;have bx3 := hf3.rest _ _ _ bx2 np (by decide);have c0 := blk_at bx3 0 rfl;have c1 := blk_at bx3 1 rfl;have c2 := blk_at bx3 2 rfl;have c3 := blk_at bx3 3 rfl;have c4 := blk_at bx3 4 rfl;have c5 := blk_at bx3 5 rfl;clear hm2)
   | (go_at_call 260;refine (HK4.out.go hm3).mono ?_;rintro _ w4 ⟨⟨u4,rfl⟩,ov4,hm4,hf4⟩;have bx4 := hf4.rest _ _ _ bx3 np (by decide);have c0 := blk_at bx4 0 rfl;have c1 := blk_at bx4 1 rfl;have c2 := blk_at bx4 2 rfl;have c3 := blk_at bx4 3 rfl;have c4 := blk_at bx4 4 rfl;have c5 := blk_at bx4 5 rfl;clear hm3))
  go_returns
  exact ⟨⟨_,rfl⟩,ov4,hm4,((((HF0.out _).trans hf1).trans hf2).trans hf3).trans hf4⟩
set_option maxRecDepth 100000 in
theorem bareB_w (E : WE w0 p base pv ps vs) {kf : Nat -> ByteArray -> ByteArray} (hmo : ∀ j o,o.size <= (kf j o).size) (hK : ∀ j,j < kl -> ∀ o1,(kf j o1).size <= 100000000 -> KiW w0 p pv i k a wd nm na nl nc ka kl kc j o1 (kf j o1)) (hkl : kl <= 100) (hwd : wd < 35) (hk : k = 15 \/ k = 16 \/ k = 17 \/ k = 18) (hR : (ksF wd kf kl o).size <= 100000000) (h : WM w0 w p pv ov o) :
 Calls Tryz.prog 180 #[.pointer (some ⟨p,0,none⟩),.int .i64 (i : Nat),.agg #[.int .i64 (k : Nat),.int .i64 (a : Nat),.int .i64 (wd : Nat),.int .i64 nm,.slice na nl nc,.slice ka kl kc]] w fun e w' => (∃ u,e = .returned u) /\ ∃ ov',WM w0 w' p pv ov' (ksF wd kf kl o) /\ WF p w w' := by
 have HM : Hid (WM w0 w p pv ov o) := h
 have HK : Hid (∀ j,j < kl -> ∀ o1,(kf j o1).size <= 100000000 -> KiW w0 p pv i k a wd nm na nl nc ka kl kc j o1 (kf j o1)) := hK
 have np : w.heap.size ≠ p := by have := lt_of_block h.blk;omega
 obtain ⟨o1,e1⟩ : ∃ o1,ksF wd kf kl o = o1 := ⟨_,rfl⟩
 have z1 := ksF_size (sg := wd) hmo o kl 0 (by omega)
 rw [e1] at hR z1 ⊢
 have z1 : o.size <= o1.size := z1
 have Q1 : Hid (ksF wd kf kl o = o1) := e1
 clear e1
 have HF0 : Hid (∀ x,WF p w (w.alloc x)) := fun x => HM.out.fr ((Below.refl _ _).alloc (Nat.le_refl _) _)
 clear h hK
 rcases hk with rfl | rfl | rfl | rfl
 all_goals
  go_enter Tryz.func180,Tryz.ntmps180
  go_wp2_with (first
   | (go_at_call 257;refine (kids_w (sg := wd) (kf := kf) E hwd hkl hmo HK.out (by rw [Q1.out];omega) (HM.out.al _)).mono ?_;rw [Q1.out];rintro _ w1 ⟨⟨u1,rfl⟩,ov1,hm1,hf1⟩;have bx1 := hf1.rest _ _ _ (blk_new w _) np (by decide);have c0 := blk_at bx1 0 rfl;have c1 := blk_at bx1 1 rfl;have c2 := blk_at bx1 2 rfl;have c3 := blk_at bx1 3 rfl;have c4 := blk_at bx1 4 rfl;have c5 := blk_at bx1 5 rfl;clear HM))
  go_returns
  exact ⟨⟨_,rfl⟩,ov1,hm1,(HF0.out _).trans hf1⟩
set_option maxRecDepth 100000 in
theorem bare20_w (E : WE w0 p base pv ps vs) {kf : Nat -> ByteArray -> ByteArray} (hmo : ∀ j o,o.size <= (kf j o).size) (hK : ∀ j,j < kl -> ∀ o1,(kf j o1).size <= 100000000 -> KiW w0 p pv i k a wd nm na nl nc ka kl kc j o1 (kf j o1)) (hkl : kl <= 100) (hwd : wd < 35) (hk : k = 20) (hR : (wr1 (ksF wd kf kl o) (txt 24)).size <= 100000000) (h : WM w0 w p pv ov o) :
 Calls Tryz.prog 180 #[.pointer (some ⟨p,0,none⟩),.int .i64 (i : Nat),.agg #[.int .i64 (k : Nat),.int .i64 (a : Nat),.int .i64 (wd : Nat),.int .i64 nm,.slice na nl nc,.slice ka kl kc]] w fun e w' => (∃ u,e = .returned u) /\ ∃ ov',WM w0 w' p pv ov' (wr1 (ksF wd kf kl o) (txt 24)) /\ WF p w w' := by
 have HM : Hid (WM w0 w p pv ov o) := h
 have HK : Hid (∀ j,j < kl -> ∀ o1,(kf j o1).size <= 100000000 -> KiW w0 p pv i k a wd nm na nl nc ka kl kc j o1 (kf j o1)) := hK
 have np : w.heap.size ≠ p := by have := lt_of_block h.blk;omega
 obtain ⟨o1,e1⟩ : ∃ o1,ksF wd kf kl o = o1 := ⟨_,rfl⟩
 have z1 := ksF_size (sg := wd) hmo o kl 0 (by omega)
 rw [e1] at hR z1 ⊢
 have z1 : o.size <= o1.size := z1
 have Q1 : Hid (ksF wd kf kl o = o1) := e1
 clear e1
 obtain ⟨o2,e2⟩ : ∃ o2,wr1 o1 (txt 24) = o2 := ⟨_,rfl⟩
 have z2 := wr1_size o1 (txt 24)
 rw [e2] at hR z2 ⊢
 have Q2 : Hid (wr1 o1 (txt 24) = o2) := e2
 clear e2
 have HF0 : Hid (∀ x,WF p w (w.alloc x)) := fun x => HM.out.fr ((Below.refl _ _).alloc (Nat.le_refl _) _)
 clear h hK
 subst hk
 all_goals
  go_enter Tryz.func180,Tryz.ntmps180
  go_wp2_with (first
   | (go_at_call 257;refine (kids_w (sg := wd) (kf := kf) E hwd hkl hmo HK.out (by rw [Q1.out];omega) (HM.out.al _)).mono ?_;rw [Q1.out];rintro _ w1 ⟨⟨u1,rfl⟩,ov1,hm1,hf1⟩;have bx1 := hf1.rest _ _ _ (blk_new w _) np (by decide);have c0 := blk_at bx1 0 rfl;have c1 := blk_at bx1 1 rfl;have c2 := blk_at bx1 2 rfl;have c3 := blk_at bx1 3 rfl;have c4 := blk_at bx1 4 rfl;have c5 := blk_at bx1 5 rfl;clear HM)
   | (go_at_call 181;refine (word_w (k := 24) (by omega) (by omega) E hm1).mono ?_;rw [Q2.out];rintro _ w2 ⟨⟨u2,rfl⟩,ov2,hm2,hf2⟩;have bx2 := hf2.rest _ _ _ bx1 np (by decide);have c0 := blk_at bx2 0 rfl;have c1 := blk_at bx2 1 rfl;have c2 := blk_at bx2 2 rfl;have c3 := blk_at bx2 3 rfl;have c4 := blk_at bx2 4 rfl;have c5 := blk_at bx2 5 rfl;clear hm1))
  go_returns
  exact ⟨⟨_,rfl⟩,ov2,hm2,((HF0.out _).trans hf1).trans hf2⟩
set_option maxRecDepth 100000 in
theorem bareD_w (E : WE w0 p base pv ps vs) {kf : Nat -> ByteArray -> ByteArray} (hmo : ∀ j o,o.size <= (kf j o).size) (hK : ∀ j,j < kl -> ∀ o1,(kf j o1).size <= 100000000 -> KiW w0 p pv i k a wd nm na nl nc ka kl kc j o1 (kf j o1)) (hkl : kl <= 100) (hwd : wd < 35) (hk : k = 2 \/ k = 3 \/ k = 4 \/ k = 13 \/ k = 14 \/ k = 19 \/ k = 21 \/ k = 22 \/ k = 23 \/ k = 24) (hR : (ksF 0 kf kl (wr1 o (txt wd))).size <= 100000000) (h : WM w0 w p pv ov o) :
 Calls Tryz.prog 180 #[.pointer (some ⟨p,0,none⟩),.int .i64 (i : Nat),.agg #[.int .i64 (k : Nat),.int .i64 (a : Nat),.int .i64 (wd : Nat),.int .i64 nm,.slice na nl nc,.slice ka kl kc]] w fun e w' => (∃ u,e = .returned u) /\ ∃ ov',WM w0 w' p pv ov' (ksF 0 kf kl (wr1 o (txt wd))) /\ WF p w w' := by
 have HM : Hid (WM w0 w p pv ov o) := h
 have HK : Hid (∀ j,j < kl -> ∀ o1,(kf j o1).size <= 100000000 -> KiW w0 p pv i k a wd nm na nl nc ka kl kc j o1 (kf j o1)) := hK
 have np : w.heap.size ≠ p := by have := lt_of_block h.blk;omega
 obtain ⟨o1,e1⟩ : ∃ o1,wr1 o (txt wd) = o1 := ⟨_,rfl⟩
 have z1 := wr1_size o (txt wd)
 rw [e1] at hR z1 ⊢
 have Q1 : Hid (wr1 o (txt wd) = o1) := e1
 clear e1
 obtain ⟨o2,e2⟩ : ∃ o2,ksF 0 kf kl o1 = o2 := ⟨_,rfl⟩
 have z2 := ksF_size (sg := 0) hmo o1 kl 0 (by omega)
 rw [e2] at hR z2 ⊢
 have z2 : o1.size <= o2.size := z2
 have Q2 : Hid (ksF 0 kf kl o1 = o2) := e2
 clear e2
 have HF0 : Hid (∀ x,WF p w (w.alloc x)) := fun x => HM.out.fr ((Below.refl _ _).alloc (Nat.le_refl _) _)
 clear h hK
 rcases hk with rfl | rfl | rfl | rfl | rfl | rfl | rfl | rfl | rfl | rfl
 all_goals
  go_enter Tryz.func180,Tryz.ntmps180
  go_wp2_with (first
   | (go_at_call 181;refine (word_w (k := wd) hwd (by omega) E (HM.out.al _)).mono ?_;rw [Q1.out];rintro _ w1 ⟨⟨u1,rfl⟩,ov1,hm1,hf1⟩;have bx1 := hf1.rest _ _ _ (blk_new w _) np (by decide);have c0 := blk_at bx1 0 rfl;have c1 := blk_at bx1 1 rfl;have c2 := blk_at bx1 2 rfl;have c3 := blk_at bx1 3 rfl;have c4 := blk_at bx1 4 rfl;have c5 := blk_at bx1 5 rfl;clear HM)
   | (go_at_call 257;refine (kids_w (sg := 0) (kf := kf) E (by omega) hkl hmo HK.out (by rw [Q2.out];omega) hm1).mono ?_;rw [Q2.out];rintro _ w2 ⟨⟨u2,rfl⟩,ov2,hm2,hf2⟩;have bx2 := hf2.rest _ _ _ bx1 np (by decide);have c0 := blk_at bx2 0 rfl;have c1 := blk_at bx2 1 rfl;have c2 := blk_at bx2 2 rfl;have c3 := blk_at bx2 3 rfl;have c4 := blk_at bx2 4 rfl;have c5 := blk_at bx2 5 rfl;clear hm1))
  go_returns
  exact ⟨⟨_,rfl⟩,ov2,hm2,((HF0.out _).trans hf1).trans hf2⟩
set_option maxRecDepth 100000 in
theorem bareL_w {R : ByteArray} (hC : ∀ (w : World) (ov : Value),WM w0 w p pv ov o -> Calls Tryz.prog 258 #[.pointer (some ⟨p,0,none⟩),.int .i64 (i : Nat),.agg #[.int .i64 (k : Nat),.int .i64 (a : Nat),.int .i64 (wd : Nat),.int .i64 nm,.slice na nl nc,.slice ka kl kc]] w fun e w' => (∃ u,e = .returned u) /\ ∃ ov',WM w0 w' p pv ov' R /\ WF p w w') (hk : k = 8 \/ k = 9 \/ k = 10) (h : WM w0 w p pv ov o) :
 Calls Tryz.prog 180 #[.pointer (some ⟨p,0,none⟩),.int .i64 (i : Nat),.agg #[.int .i64 (k : Nat),.int .i64 (a : Nat),.int .i64 (wd : Nat),.int .i64 nm,.slice na nl nc,.slice ka kl kc]] w fun e w' => (∃ u,e = .returned u) /\ ∃ ov',WM w0 w' p pv ov' R /\ WF p w w' := by
 have HM : Hid (WM w0 w p pv ov o) := h
 have HC : Hid (∀ (w : World) (ov : Value),WM w0 w p pv ov o -> Calls Tryz.prog 258 #[.pointer (some ⟨p,0,none⟩),.int .i64 (i : Nat),.agg #[.int .i64 (k : Nat),.int .i64 (a : Nat),.int .i64 (wd : Nat),.int .i64 nm,.slice na nl nc,.slice ka kl kc]] w fun e w' => (∃ u,e = .returned u) /\ ∃ ov',WM w0 w' p pv ov' R /\ WF p w w') := hC
 clear h hC
 rcases hk with rfl | rfl | rfl
 all_goals
  go_enter Tryz.func180,Tryz.ntmps180
  go_wp2_with (go_at_call 258;refine (HC.out _ _ (HM.out.al _)).mono ?_;rintro _ w1 ⟨⟨u1,rfl⟩,ov1,hm1,hf1⟩)
  go_returns
  exact ⟨⟨_,rfl⟩,ov1,hm1,(HM.out.fr ((Below.refl _ _).alloc (Nat.le_refl _) _)).trans hf1⟩
set_option maxRecDepth 100000 in
theorem bareI_w {R : ByteArray} (hC : ∀ (w : World) (ov : Value),WM w0 w p pv ov o -> Calls Tryz.prog 259 #[.pointer (some ⟨p,0,none⟩),.int .i64 (i : Nat),.agg #[.int .i64 (k : Nat),.int .i64 (a : Nat),.int .i64 (wd : Nat),.int .i64 nm,.slice na nl nc,.slice ka kl kc]] w fun e w' => (∃ u,e = .returned u) /\ ∃ ov',WM w0 w' p pv ov' R /\ WF p w w') (hk : k = 11) (h : WM w0 w p pv ov o) :
 Calls Tryz.prog 180 #[.pointer (some ⟨p,0,none⟩),.int .i64 (i : Nat),.agg #[.int .i64 (k : Nat),.int .i64 (a : Nat),.int .i64 (wd : Nat),.int .i64 nm,.slice na nl nc,.slice ka kl kc]] w fun e w' => (∃ u,e = .returned u) /\ ∃ ov',WM w0 w' p pv ov' R /\ WF p w w' := by
 have HM : Hid (WM w0 w p pv ov o) := h
 have HC : Hid (∀ (w : World) (ov : Value),WM w0 w p pv ov o -> Calls Tryz.prog 259 #[.pointer (some ⟨p,0,none⟩),.int .i64 (i : Nat),.agg #[.int .i64 (k : Nat),.int .i64 (a : Nat),.int .i64 (wd : Nat),.int .i64 nm,.slice na nl nc,.slice ka kl kc]] w fun e w' => (∃ u,e = .returned u) /\ ∃ ov',WM w0 w' p pv ov' R /\ WF p w w') := hC
 clear h hC
 subst hk
 all_goals
  go_enter Tryz.func180,Tryz.ntmps180
  go_wp2_with (go_at_call 259;refine (HC.out _ _ (HM.out.al _)).mono ?_;rintro _ w1 ⟨⟨u1,rfl⟩,ov1,hm1,hf1⟩)
  go_returns
  exact ⟨⟨_,rfl⟩,ov1,hm1,(HM.out.fr ((Below.refl _ _).alloc (Nat.le_refl _) _)).trans hf1⟩
def BaW (w0 : World) (p : Nat) (pv : Value) (i k a wd : Nat) (nm : Int) (na : Option Addr) (nl nc : Nat) (ka : Option Addr) (kl kc : Nat) (o R : ByteArray) : Prop := ∀ (w : World) (ov : Value),WM w0 w p pv ov o -> Calls Tryz.prog 180 #[.pointer (some ⟨p,0,none⟩),.int .i64 (i : Nat),.agg #[.int .i64 (k : Nat),.int .i64 (a : Nat),.int .i64 (wd : Nat),.int .i64 nm,.slice na nl nc,.slice ka kl kc]] w fun e w' => (∃ u,e = .returned u) /\ ∃ ov',WM w0 w' p pv ov' R /\ WF p w w'
theorem BaW.go {R : ByteArray} (h : BaW w0 p pv i k a wd nm na nl nc ka kl kc o R) (hm : WM w0 w p pv ov o) : Calls Tryz.prog 180 #[.pointer (some ⟨p,0,none⟩),.int .i64 (i : Nat),.agg #[.int .i64 (k : Nat),.int .i64 (a : Nat),.int .i64 (wd : Nat),.int .i64 nm,.slice na nl nc,.slice ka kl kc]] w fun e w' => (∃ u,e = .returned u) /\ ∃ ov',WM w0 w' p pv ov' R /\ WF p w w' := h w ov hm
set_option maxRecDepth 100000 in
theorem part_w {q : Nat} {R : ByteArray} (E : WE w0 p base pv ps vs) (hI : PtI ps vs i k a wd nm na nl nc ka kl kc) (hk : k < 26) (hq : q <= 7)
 (hb1 : q <= rk k -> BaW w0 p pv i k a wd nm na nl nc ka kl kc o R) (hb2 : rk k < q -> ∃ R1,BaW w0 p pv i k a wd nm na nl nc ka kl kc (wr1 o (txt 23)) R1 /\ wr1 R1 (txt 24) = R /\ R1.size <= 100000000) (ho : o.size <= 100000000) : PaW w0 p pv i q o R := by
 intro w ov h
 have HM : Hid (WM w0 w p pv ov o) := h
 have c0 := blk_at h.blk 0 rfl
 have np : ∀ W,WM w0 W p pv ov o -> W.heap.size ≠ p := fun W hW => by have := lt_of_block hW.blk;omega
 have HNP : Hid (∀ W,WM w0 W p pv ov o -> W.heap.size ≠ p) := np
 have HT : Hid (∀ (W : World) (ov : Value),WM w0 W p pv ov o -> Calls Tryz.prog 178 #[.agg #[pv],.int .i64 (i : Nat)] W fun e w' => e = .returned (.agg #[.int .i64 (k : Nat),.int .i64 (a : Nat),.int .i64 (wd : Nat),.int .i64 nm,.slice na nl nc,.slice ka kl kc]) /\ Below W.heap.size W w') := fun W ov hW => by
  have := treePart_any (Nat.le_trans E.len (by omega)) (hW.pt E) hI.lt hI.lt'
  rw [hI.k,hI.a,hI.wd,hI.nm,hI.nv,hI.kv] at this
  exact this
 obtain ⟨av,cv,hav⟩ := own_slice E.pt.own
 obtain ⟨rv,hrv⟩ : ∃ rv,rk k = rv := ⟨_,rfl⟩
 have HW : Hid (∀ W,Calls Tryz.prog 179 #[.int .i64 (k : Nat)] W fun e w' => e = .returned (.int .i64 (rv : Nat)) /\ w' = W) := fun W => by rw [<- hrv];exact rankOf_any hk W
 rw [hrv] at hb1 hb2
 have H1 : Hid (q <= rv -> BaW w0 p pv i k a wd nm na nl nc ka kl kc o R) := hb1
 have H2 : Hid (rv < q -> ∃ R1,BaW w0 p pv i k a wd nm na nl nc ka kl kc (wr1 o (txt 23)) R1 /\ wr1 R1 (txt 24) = R /\ R1.size <= 100000000) := hb2
 obtain ⟨npv,hnpv⟩ : ∃ npv,npv = ps.length := ⟨_,rfl⟩
 rw [<- hnpv] at hav
 subst hav
 clear h hb1 hb2 hrv hI hnpv np
 by_cases hc : q <= rv
 ·have hd : decide ((rv : Int) >= (q : Int)) = true := by simp;omega
  have HB1 : Hid _ := H1.out hc
  clear H1 H2
  go_enter Tryz.func105,Tryz.ntmps105
  go_wp2_with (first
   | (go_at_call 178;refine (HT.out _ ov HM.out).mono ?_;rintro _ w1 ⟨rfl,hb1⟩;have hm1 := HM.out.below hb1;have hf1 := HM.out.fr hb1;have bx := blk_new w1 (.cells #[.int .i64 (k : Nat),.int .i64 (a : Nat),.int .i64 (wd : Nat),.int .i64 nm,.slice na nl nc,.slice ka kl kc] 302);have c0 := blk_at bx 0 rfl;have c1 := blk_at bx 1 rfl;have c2 := blk_at bx 2 rfl;have c3 := blk_at bx 3 rfl;have c4 := blk_at bx 4 rfl;have c5 := blk_at bx 5 rfl;have hf2 := hf1.trans (hm1.fr ((Below.refl _ _).alloc (Nat.le_refl _) (.cells #[.int .i64 (k : Nat),.int .i64 (a : Nat),.int .i64 (wd : Nat),.int .i64 nm,.slice na nl nc,.slice ka kl kc] 302)));clear bx)
   | (go_at_call 179;refine (HW.out _).mono ?_;rintro _ w2 ⟨rfl,hw2⟩;have hw2 := hw2.symm;subst hw2)
   | (go_at_call 180;refine (HB1.out _ _ (hm1.al _)).mono ?_;rintro _ w3 ⟨⟨u3,rfl⟩,ov3,hm3,hf3⟩))
  go_returns
  exact ⟨⟨_,rfl⟩,ov3,hm3,hf2.trans hf3⟩
 ·have hd : decide ((rv : Int) >= (q : Int)) = false := by simp;omega
  obtain ⟨R1,hB1,hR1,hs1⟩ := H2.out (by omega)
  have HB1 : Hid _ := hB1
  have HR1 : Hid (wr1 R1 (txt 24) = R) := hR1
  clear H1 H2 hB1 hR1
  go_enter Tryz.func105,Tryz.ntmps105
  go_wp2_with (first
   | (go_at_call 178;refine (HT.out _ ov HM.out).mono ?_;rintro _ w1 ⟨rfl,hb1⟩;have hm1 := HM.out.below hb1;have hf1 := HM.out.fr hb1;have bx := blk_new w1 (.cells #[.int .i64 (k : Nat),.int .i64 (a : Nat),.int .i64 (wd : Nat),.int .i64 nm,.slice na nl nc,.slice ka kl kc] 302);have c00 := blk_at bx 0 rfl;have hf2 := hf1.trans (hm1.fr ((Below.refl _ _).alloc (Nat.le_refl _) (.cells #[.int .i64 (k : Nat),.int .i64 (a : Nat),.int .i64 (wd : Nat),.int .i64 nm,.slice na nl nc,.slice ka kl kc] 302)));have npx := HNP.out _ hm1;clear HM)
   | (go_at_call 179;refine (HW.out _).mono ?_;rintro _ w2 ⟨rfl,hw2⟩;have hw2 := hw2.symm;subst hw2)
   | (go_at_call 181;refine (word_w (k := 23) (by omega) ho E (hm1.al _)).mono ?_;rintro _ w4 ⟨⟨u4,rfl⟩,ov4,hm4,hf4⟩;have bx4 := hf4.rest _ _ _ bx npx (by decide);have c0 := blk_at bx4 0 rfl;have c1 := blk_at bx4 1 rfl;have c2 := blk_at bx4 2 rfl;have c3 := blk_at bx4 3 rfl;have c4 := blk_at bx4 4 rfl;have c5 := blk_at bx4 5 rfl;clear hm1 bx c00)
   | (go_at_call 180;refine (HB1.out _ _ hm4).mono ?_;rintro _ w5 ⟨⟨u5,rfl⟩,ov5,hm5,hf5⟩;clear hm4)
   | (go_at_call 181;refine (word_w (k := 24) (by omega) hs1 E hm5).mono ?_;rw [HR1.out];rintro _ w6 ⟨⟨u6,rfl⟩,ov6,hm6,hf6⟩))
  go_returns
  exact ⟨⟨_,rfl⟩,ov6,hm6,hf2.trans (hf4.trans (hf5.trans hf6))⟩
end
end Go.Proofs.YtmkdoejpgkgpbaaGreatDoor
