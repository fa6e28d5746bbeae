import Derived.Test.YtmkdoejpgkgpbaaGreatDoorS14
import Derived.Deep.RegionWith
import Derived.Deep.Cut
import Derived.Deep.CutRange
import Derived.Deep.DeepCutAuto
set_option linter.unusedVariables false
set_option linter.unusedSimpArgs false
set_option maxHeartbeats 20000000
namespace Go.Proofs.YtmkdoejpgkgpbaaGreatDoor
open Go.RowKit Sl
theorem leaf_done {w : World} {bt : Nat} {form name : ByteArray} {pos num : Int}
 (hblk : w.heap[bt]? = some (.cells #[.string form,.int .i64 pos,.int .i64 num,.string name,.slice none 0 0,.slice none 0 0] 205 (0,0))) :
 HT w bt w.heap.size (.pointer (some ⟨bt,0,none⟩)) (.nd form pos num name [] []) := kids_done (KidsAt.none w (bt + 1)) (by omega) (Nat.le_refl _) hblk
theorem get_done {w w1 w2 w3 : World} {bt p1 p3 : Nat} {a b : G} {pos : Int} {e : TypeId} (hb1 : Below w.heap.size w w1) (hbt : bt < w.heap.size) (hs1 : w.heap.size <= w1.heap.size) (hb2 : Below w1.heap.size w1 w2) (hb3 : Below w2.heap.size w2 w3)
 (ht1 : HT w2 w1.heap.size w2.heap.size (.pointer (some ⟨p1,0,none⟩)) a) (ht3 : HT w3 w2.heap.size w3.heap.size (.pointer (some ⟨p3,0,none⟩)) b) :
 ∃ v,Ending.returned (.pointer (some ⟨w3.heap.size + 1,0,none⟩)) = .returned v /\
   HT ((w3.alloc (.cells #[.pointer (some ⟨p1,0,none⟩),.pointer (some ⟨p3,0,none⟩)] e (0,0))).alloc (.cells #[.string f_get,.int .i64 pos,.int .i64 0,.string f_0,.slice none 0 0,.slice (some ⟨w3.heap.size,0,none⟩) 2 2] 205 (0,0))) bt
    ((w3.alloc (.cells #[.pointer (some ⟨p1,0,none⟩),.pointer (some ⟨p3,0,none⟩)] e (0,0))).alloc (.cells #[.string f_get,.int .i64 pos,.int .i64 0,.string f_0,.slice none 0 0,.slice (some ⟨w3.heap.size,0,none⟩) 2 2] 205 (0,0))).heap.size v (.nd f_get pos 0 f_0 [] [a,b]) /\
   Below bt w ((w3.alloc (.cells #[.pointer (some ⟨p1,0,none⟩),.pointer (some ⟨p3,0,none⟩)] e (0,0))).alloc (.cells #[.string f_get,.int .i64 pos,.int .i64 0,.string f_0,.slice none 0 0,.slice (some ⟨w3.heap.size,0,none⟩) 2 2] 205 (0,0))) := by
 have hs2 := hb2.size
 have hs3 := hb3.size
 obtain ⟨W1,hW1⟩ : ∃ W1,W1 = w3.alloc (.cells #[.pointer (some ⟨p1,0,none⟩),.pointer (some ⟨p3,0,none⟩)] e (0,0)) := ⟨_,rfl⟩
 have hblk1 := blk_new w3 (.cells #[.pointer (some ⟨p1,0,none⟩),.pointer (some ⟨p3,0,none⟩)] e (0,0))
 have hbW : Below w3.heap.size w3 W1 := by rw [hW1];exact (Below.refl _ _).alloc (Nat.le_refl _) _
 have hsW : W1.heap.size = w3.heap.size + 1 := by rw [hW1];simp
 rw [<- hW1] at hblk1 ⊢
 clear hW1
 obtain ⟨ob,hob⟩ : ∃ ob : Obj,ob = .cells #[.string f_get,.int .i64 pos,.int .i64 0,.string f_0,.slice none 0 0,.slice (some ⟨w3.heap.size,0,none⟩) 2 2] 205 (0,0) := ⟨_,rfl⟩
 rw [<- hob]
 have hblk2 := blk_new W1 ob
 have hbV : Below W1.heap.size W1 (W1.alloc ob) := (Below.refl _ _).alloc (Nat.le_refl _) _
 have hsV : (W1.alloc ob).heap.size = w3.heap.size + 2 := by rw [World.size_alloc,hsW]
 obtain ⟨V,hV⟩ : ∃ V,V = W1.alloc ob := ⟨_,rfl⟩
 rw [<- hV] at hblk2 hbV hsV ⊢
 rw [hob,hsW] at hblk2
 have b3V : Below w3.heap.size w3 V := hbW.trans (hbV.mono (by omega))
 refine ⟨_,rfl,.nd (ps := [.pointer (some ⟨p1,0,none⟩),.pointer (some ⟨p3,0,none⟩)]) (by omega) (by omega) hblk2 (Or.inl ⟨rfl,_,_,rfl⟩) (Or.inr ⟨w3.heap.size,0,2,rfl,by omega,by omega,by simp,fun i u hu => ?_⟩) (.cons ?_ (.cons ?_ .nil)),?_⟩
 ·rw [hbV.cell (p := ⟨w3.heap.size,0 + i,none⟩) (by show w3.heap.size < _;omega),(cells_of_block hblk1 (0 + i)).1,Nat.zero_add]
  simpa using hu
 ·exact ((ht1.keep (belowHeld (hb3.trans (b3V.mono hs3)) _))).wide (by omega) (by omega)
 ·exact (ht3.keep (belowHeld b3V _)).wide (by omega) (by omega)
 ·exact ((hb1.mono (by omega)).trans (hb2.mono (by omega))).trans ((hb3.mono (by omega)).trans (b3V.mono (by omega)))
set_option maxRecDepth 100000 in
theorem opd_nu {L : List Tok} {p : Int} (hx : ixL L = 0) (h0 : kdAt L 0 = 1) (hv : numV (tokAt L 0).t = some (tokAt L 0).n) (hvs : (tokAt L 0).t.size <= 1000) (hl : 0 < L.length) : SubOK 189 p L (.nd f_num p (tokAt L 0).n f_0 [] []) := by
 intro n bl off cap bt w hn hL hcap hblt hbt hblk0 hr hok
 subst hn
 have hl1 : 1 <= L.length := by omega
 have hk := kdAt_cell hr hok (i := 0) hl1
 have hk35 := kdAt_lt hok (i := 0) hl1
 simp only [Nat.zero_mul,Nat.add_zero] at hk
 have e1 : ((nameK (kdAt L 0)).toList == [110,117,109]) = true := by rw [nk1 hk35];simp;omega
 have e11 : ((nameK (kdAt L 0)).toList == [116,114,117,101]) = false := by rw [nk11 hk35];simp;omega
 have e12 : ((nameK (kdAt L 0)).toList == [102,97,108,115,101]) = false := by rw [nk12 hk35];simp;omega
 have e13 : ((nameK (kdAt L 0)).toList == [114,101,97,100]) = false := by rw [nk13 hk35];simp;omega
 have e2 : ((nameK (kdAt L 0)).toList == [105,100]) = false := by rw [nk2 hk35];simp;omega
 have e23 : ((nameK (kdAt L 0)).toList == [40]) = false := by rw [nk23 hk35];simp;omega
 obtain ⟨nm,hnm⟩ : ∃ nm,nameK (kdAt L 0) = nm := ⟨_,rfl⟩
 rw [hnm] at hk e1 e11 e12 e13 e2 e23
 clear hnm h0
 have ht := txtAt_cell hr (i := 0) (by omega)
 simp only [Nat.zero_mul,Nat.add_zero] at ht
 obtain ⟨t0,ht0⟩ : ∃ t0 : ByteArray,(tokAt L 0).t = t0 := ⟨_,rfl⟩
 rw [ht0] at ht hv hvs
 obtain ⟨n0,hn0⟩ : ∃ n0 : Nat,(tokAt L 0).n = n0 := ⟨_,rfl⟩
 rw [hn0] at hv ⊢
 have HV : Hid (numV t0 = some n0) := hv
 clear hv hn0
 clear ht0
 have HR : Hid (RW w bl off L) := hr
 have HK : Hid (∀ t ∈ L,okTok t) := hok
 have HBK : Hid (w.heap[bt]? = some (treeB p)) := hblk0
 have HX : Hid (ixL L = 0) := hx
 clear hr hok hblk0 hx
 go_enter Tryz.func189,Tryz.ntmps189
 go_wp2_with (go_at_call 186;refine (depths_any L bl off cap w hL hcap (by omega) HR.out HK.out).mono ?_;rintro e w1 ⟨v,rfl,hv,hb1⟩;obtain ⟨gd,dcap,rfl,hd1,hd2,hd3,hd4⟩ := own_shapeP hv hl1)
 have hd3' := hd3
 have HV1 : Hid (w1.ownsRow w.heap.size 3 1 (.slice (some ⟨gd,0,none⟩) L.length dcap) L.length ((dsF 0 L).map (Value.int .i64))) := hv
 have HRW : Hid (RW w1 bl off L) := HR.out.below hb1 (by omega)
 have hs1 := hb1.size
 have hblk := blk_below HBK.out hb1 hbt
 clear hv hd3 hd4 hd1
 go_loop [6,7] (fun u v => ∃ x y : Nat,1 <= y /\ y <= L.length /\ x <= L.length /\ ixN L (L.length - y) y x = 0 /\ u = .int .i64 x /\ v = .int .i64 y) (fun _ v => L.length - (intOf v).toNat)
 case atStart => exact ⟨0,1,Nat.le_refl _,hl1,Nat.zero_le _,HX.out,rfl,rfl⟩
 case round =>
  obtain ⟨at_,j,hj1,hj,hal,hs,rfl,rfl⟩ := hrel
  have HS' : Hid (ixN L (L.length - j) j at_ = 0) := hs
  clear hs
  by_cases hlt : j < L.length
  ·obtain ⟨c1,_,_⟩ := HRW.out j hlt
   obtain ⟨hkn,hk35⟩ := HK.out L[j] (by simp)
   have hdd := ddAt_cell HV1.out j hlt
   rw [hkn] at c1
   have q18 := nk18 hk35
   obtain ⟨kk,hkk⟩ : ∃ kk,L[j].k = kk := ⟨_,rfl⟩
   obtain ⟨dv,hdv⟩ : ∃ dv,ddAt L j = dv := ⟨_,rfl⟩
   rw [hkk] at c1 q18
   rw [hdv] at hdd
   have HST : Hid (ixN L (L.length - (j + 1)) (j + 1) (if dv = 0 /\ kk = 18 then j else at_) = 0) := by
    show _ = _
    have := HS'.out
    rw [show L.length - j = (L.length - (j + 1)) + 1 by omega,ixN,hdv,kdAt_eq L j hlt,hkk] at this
    exact this
   clear hkn hkk hdv hk35
   by_cases hd0 : dv = 0
   ·rw [hd0] at hdd HST
    clear hd0
    by_cases h18 : kk = 18
    ·have e18 : ((nameK kk).toList == [46,40]) = true := by rw [q18];simpa using h18
     have H18 : Hid (kk = 18) := h18
     clear q18 h18
     go_wp2_with fail
     go_round
     case rel => exact ⟨j,j + 1,by omega,by omega,by omega,(by have h := HST.out;rw [if_pos ⟨rfl,H18.out⟩] at h;exact h),rfl,by go_num⟩
     case measure => simp [intOf];omega
    ·have e18 : ((nameK kk).toList == [46,40]) = false := by rw [q18];simpa using h18
     have H18 : Hid (¬ kk = 18) := h18
     clear q18 h18
     go_wp2_with fail
     go_round
     case rel => exact ⟨at_,j + 1,by omega,by omega,by omega,(by have h := HST.out;rw [if_neg (fun h' => H18.out h'.2)] at h;exact h),rfl,by go_num⟩
     case measure => simp [intOf];omega
   ·have hd0' : (dv == 0) = false := by simpa using hd0
    have HD0 : Hid (¬ dv = 0) := hd0
    clear hd0 q18
    go_wp2_with fail
    go_round
    case rel => exact ⟨at_,j + 1,by omega,by omega,by omega,(by have h := HST.out;rw [if_neg (fun h' => HD0.out h'.1)] at h;exact h),rfl,by go_num⟩
    case measure => simp [intOf];omega
  ·have hz : at_ = 0 := by
    have := HS'.out
    rw [show L.length - j = 0 by omega,ixN] at this
    exact this
   subst hz
   clear HS' hal
   have hc0 := blk_at hblk 0 rfl
   have hc2 := blk_at hblk 2 rfl
   have hc3 := blk_at hblk 3 rfl
   have hf0 := blk_at_f hblk 0
   have hf2 := blk_at_f hblk 2
   have hf3 := blk_at_f hblk 3
   have hk1 := (hb1.cell (p := ⟨bl,off,none⟩) (by show bl < _;omega)).trans hk
   have ht1 := (hb1.cell (p := ⟨bl,off + 1,none⟩) (by show bl < _;omega)).trans ht
   go_wp2_with (go_at_call 112;refine (value_any t0 hvs _).mono ?_;rintro e w2 ⟨x,rfl,hxv,hw2⟩;subst hw2)
   go_ret
   have hx0 := hxv n0 HV.out
   subst hx0
   exact ⟨_,rfl,leaf_done (block_setCell (block_setCell (hblk) 0 _) 2 _),(hb1.mono (by omega)).trans (Sole.below (((Sole.refl bt w1).set _).set _))⟩
set_option maxRecDepth 100000 in
theorem opd_tr {L : List Tok} {p : Int} (hx : ixL L = 0) (h0 : kdAt L 0 = 11) (hl : 0 < L.length) : SubOK 189 p L (.nd f_bool p 1 f_0 [] []) := by
 intro n bl off cap bt w hn hL hcap hblt hbt hblk0 hr hok
 subst hn
 have hl1 : 1 <= L.length := by omega
 have hk := kdAt_cell hr hok (i := 0) hl1
 have hk35 := kdAt_lt hok (i := 0) hl1
 simp only [Nat.zero_mul,Nat.add_zero] at hk
 have e1 : ((nameK (kdAt L 0)).toList == [110,117,109]) = false := by rw [nk1 hk35];simp;omega
 have e11 : ((nameK (kdAt L 0)).toList == [116,114,117,101]) = true := by rw [nk11 hk35];simp;omega
 have e12 : ((nameK (kdAt L 0)).toList == [102,97,108,115,101]) = false := by rw [nk12 hk35];simp;omega
 have e13 : ((nameK (kdAt L 0)).toList == [114,101,97,100]) = false := by rw [nk13 hk35];simp;omega
 have e2 : ((nameK (kdAt L 0)).toList == [105,100]) = false := by rw [nk2 hk35];simp;omega
 have e23 : ((nameK (kdAt L 0)).toList == [40]) = false := by rw [nk23 hk35];simp;omega
 obtain ⟨nm,hnm⟩ : ∃ nm,nameK (kdAt L 0) = nm := ⟨_,rfl⟩
 rw [hnm] at hk e1 e11 e12 e13 e2 e23
 clear hnm h0
 have HR : Hid (RW w bl off L) := hr
 have HK : Hid (∀ t ∈ L,okTok t) := hok
 have HBK : Hid (w.heap[bt]? = some (treeB p)) := hblk0
 have HX : Hid (ixL L = 0) := hx
 clear hr hok hblk0 hx
 go_enter Tryz.func189,Tryz.ntmps189
 go_wp2_with (go_at_call 186;refine (depths_any L bl off cap w hL hcap (by omega) HR.out HK.out).mono ?_;rintro e w1 ⟨v,rfl,hv,hb1⟩;obtain ⟨gd,dcap,rfl,hd1,hd2,hd3,hd4⟩ := own_shapeP hv hl1)
 have hd3' := hd3
 have HV1 : Hid (w1.ownsRow w.heap.size 3 1 (.slice (some ⟨gd,0,none⟩) L.length dcap) L.length ((dsF 0 L).map (Value.int .i64))) := hv
 have HRW : Hid (RW w1 bl off L) := HR.out.below hb1 (by omega)
 have hs1 := hb1.size
 have hblk := blk_below HBK.out hb1 hbt
 clear hv hd3 hd4 hd1
 go_loop [6,7] (fun u v => ∃ x y : Nat,1 <= y /\ y <= L.length /\ x <= L.length /\ ixN L (L.length - y) y x = 0 /\ u = .int .i64 x /\ v = .int .i64 y) (fun _ v => L.length - (intOf v).toNat)
 case atStart => exact ⟨0,1,Nat.le_refl _,hl1,Nat.zero_le _,HX.out,rfl,rfl⟩
 case round =>
  obtain ⟨at_,j,hj1,hj,hal,hs,rfl,rfl⟩ := hrel
  have HS' : Hid (ixN L (L.length - j) j at_ = 0) := hs
  clear hs
  by_cases hlt : j < L.length
  ·obtain ⟨c1,_,_⟩ := HRW.out j hlt
   obtain ⟨hkn,hk35⟩ := HK.out L[j] (by simp)
   have hdd := ddAt_cell HV1.out j hlt
   rw [hkn] at c1
   have q18 := nk18 hk35
   obtain ⟨kk,hkk⟩ : ∃ kk,L[j].k = kk := ⟨_,rfl⟩
   obtain ⟨dv,hdv⟩ : ∃ dv,ddAt L j = dv := ⟨_,rfl⟩
   rw [hkk] at c1 q18
   rw [hdv] at hdd
   have HST : Hid (ixN L (L.length - (j + 1)) (j + 1) (if dv = 0 /\ kk = 18 then j else at_) = 0) := by
    show _ = _
    have := HS'.out
    rw [show L.length - j = (L.length - (j + 1)) + 1 by omega,ixN,hdv,kdAt_eq L j hlt,hkk] at this
    exact this
   clear hkn hkk hdv hk35
   by_cases hd0 : dv = 0
   ·rw [hd0] at hdd HST
    clear hd0
    by_cases h18 : kk = 18
    ·have e18 : ((nameK kk).toList == [46,40]) = true := by rw [q18];simpa using h18
     have H18 : Hid (kk = 18) := h18
     clear q18 h18
     go_wp2_with fail
     go_round
     case rel => exact ⟨j,j + 1,by omega,by omega,by omega,(by have h := HST.out;rw [if_pos ⟨rfl,H18.out⟩] at h;exact h),rfl,by go_num⟩
     case measure => simp [intOf];omega
    ·have e18 : ((nameK kk).toList == [46,40]) = false := by rw [q18];simpa using h18
     have H18 : Hid (¬ kk = 18) := h18
     clear q18 h18
     go_wp2_with fail
     go_round
     case rel => exact ⟨at_,j + 1,by omega,by omega,by omega,(by have h := HST.out;rw [if_neg (fun h' => H18.out h'.2)] at h;exact h),rfl,by go_num⟩
     case measure => simp [intOf];omega
   ·have hd0' : (dv == 0) = false := by simpa using hd0
    have HD0 : Hid (¬ dv = 0) := hd0
    clear hd0 q18
    go_wp2_with fail
    go_round
    case rel => exact ⟨at_,j + 1,by omega,by omega,by omega,(by have h := HST.out;rw [if_neg (fun h' => HD0.out h'.1)] at h;exact h),rfl,by go_num⟩
    case measure => simp [intOf];omega
  ·have hz : at_ = 0 := by
    have := HS'.out
    rw [show L.length - j = 0 by omega,ixN] at this
    exact this
   subst hz
   clear HS' hal
   have hc0 := blk_at hblk 0 rfl
   have hc2 := blk_at hblk 2 rfl
   have hc3 := blk_at hblk 3 rfl
   have hf0 := blk_at_f hblk 0
   have hf2 := blk_at_f hblk 2
   have hf3 := blk_at_f hblk 3
   have hk1 := (hb1.cell (p := ⟨bl,off,none⟩) (by show bl < _;omega)).trans hk
   go_wp2_with fail
   go_ret
   exact ⟨_,rfl,leaf_done (block_setCell (block_setCell (hblk) 0 _) 2 _),(hb1.mono (by omega)).trans (Sole.below (((Sole.refl bt w1).set _).set _))⟩
set_option maxRecDepth 100000 in
theorem opd_fa {L : List Tok} {p : Int} (hx : ixL L = 0) (h0 : kdAt L 0 = 12) (hl : 0 < L.length) : SubOK 189 p L (.nd f_bool p 0 f_0 [] []) := by
 intro n bl off cap bt w hn hL hcap hblt hbt hblk0 hr hok
 subst hn
 have hl1 : 1 <= L.length := by omega
 have hk := kdAt_cell hr hok (i := 0) hl1
 have hk35 := kdAt_lt hok (i := 0) hl1
 simp only [Nat.zero_mul,Nat.add_zero] at hk
 have e1 : ((nameK (kdAt L 0)).toList == [110,117,109]) = false := by rw [nk1 hk35];simp;omega
 have e11 : ((nameK (kdAt L 0)).toList == [116,114,117,101]) = false := by rw [nk11 hk35];simp;omega
 have e12 : ((nameK (kdAt L 0)).toList == [102,97,108,115,101]) = true := by rw [nk12 hk35];simp;omega
 have e13 : ((nameK (kdAt L 0)).toList == [114,101,97,100]) = false := by rw [nk13 hk35];simp;omega
 have e2 : ((nameK (kdAt L 0)).toList == [105,100]) = false := by rw [nk2 hk35];simp;omega
 have e23 : ((nameK (kdAt L 0)).toList == [40]) = false := by rw [nk23 hk35];simp;omega
 obtain ⟨nm,hnm⟩ : ∃ nm,nameK (kdAt L 0) = nm := ⟨_,rfl⟩
 rw [hnm] at hk e1 e11 e12 e13 e2 e23
 clear hnm h0
 have HR : Hid (RW w bl off L) := hr
 have HK : Hid (∀ t ∈ L,okTok t) := hok
 have HBK : Hid (w.heap[bt]? = some (treeB p)) := hblk0
 have HX : Hid (ixL L = 0) := hx
 clear hr hok hblk0 hx
 go_enter Tryz.func189,Tryz.ntmps189
 go_wp2_with (go_at_call 186;refine (depths_any L bl off cap w hL hcap (by omega) HR.out HK.out).mono ?_;rintro e w1 ⟨v,rfl,hv,hb1⟩;obtain ⟨gd,dcap,rfl,hd1,hd2,hd3,hd4⟩ := own_shapeP hv hl1)
 have hd3' := hd3
 have HV1 : Hid (w1.ownsRow w.heap.size 3 1 (.slice (some ⟨gd,0,none⟩) L.length dcap) L.length ((dsF 0 L).map (Value.int .i64))) := hv
 have HRW : Hid (RW w1 bl off L) := HR.out.below hb1 (by omega)
 have hs1 := hb1.size
 have hblk := blk_below HBK.out hb1 hbt
 clear hv hd3 hd4 hd1
 go_loop [6,7] (fun u v => ∃ x y : Nat,1 <= y /\ y <= L.length /\ x <= L.length /\ ixN L (L.length - y) y x = 0 /\ u = .int .i64 x /\ v = .int .i64 y) (fun _ v => L.length - (intOf v).toNat)
 case atStart => exact ⟨0,1,Nat.le_refl _,hl1,Nat.zero_le _,HX.out,rfl,rfl⟩
 case round =>
  obtain ⟨at_,j,hj1,hj,hal,hs,rfl,rfl⟩ := hrel
  have HS' : Hid (ixN L (L.length - j) j at_ = 0) := hs
  clear hs
  by_cases hlt : j < L.length
  ·obtain ⟨c1,_,_⟩ := HRW.out j hlt
   obtain ⟨hkn,hk35⟩ := HK.out L[j] (by simp)
   have hdd := ddAt_cell HV1.out j hlt
   rw [hkn] at c1
   have q18 := nk18 hk35
   obtain ⟨kk,hkk⟩ : ∃ kk,L[j].k = kk := ⟨_,rfl⟩
   obtain ⟨dv,hdv⟩ : ∃ dv,ddAt L j = dv := ⟨_,rfl⟩
   rw [hkk] at c1 q18
   rw [hdv] at hdd
   have HST : Hid (ixN L (L.length - (j + 1)) (j + 1) (if dv = 0 /\ kk = 18 then j else at_) = 0) := by
    show _ = _
    have := HS'.out
    rw [show L.length - j = (L.length - (j + 1)) + 1 by omega,ixN,hdv,kdAt_eq L j hlt,hkk] at this
    exact this
   clear hkn hkk hdv hk35
   by_cases hd0 : dv = 0
   ·rw [hd0] at hdd HST
    clear hd0
    by_cases h18 : kk = 18
    ·have e18 : ((nameK kk).toList == [46,40]) = true := by rw [q18];simpa using h18
     have H18 : Hid (kk = 18) := h18
     clear q18 h18
     go_wp2_with fail
     go_round
     case rel => exact ⟨j,j + 1,by omega,by omega,by omega,(by have h := HST.out;rw [if_pos ⟨rfl,H18.out⟩] at h;exact h),rfl,by go_num⟩
     case measure => simp [intOf];omega
    ·have e18 : ((nameK kk).toList == [46,40]) = false := by rw [q18];simpa using h18
     have H18 : Hid (¬ kk = 18) := h18
     clear q18 h18
     go_wp2_with fail
     go_round
     case rel => exact ⟨at_,j + 1,by omega,by omega,by omega,(by have h := HST.out;rw [if_neg (fun h' => H18.out h'.2)] at h;exact h),rfl,by go_num⟩
     case measure => simp [intOf];omega
   ·have hd0' : (dv == 0) = false := by simpa using hd0
    have HD0 : Hid (¬ dv = 0) := hd0
    clear hd0 q18
    go_wp2_with fail
    go_round
    case rel => exact ⟨at_,j + 1,by omega,by omega,by omega,(by have h := HST.out;rw [if_neg (fun h' => HD0.out h'.1)] at h;exact h),rfl,by go_num⟩
    case measure => simp [intOf];omega
  ·have hz : at_ = 0 := by
    have := HS'.out
    rw [show L.length - j = 0 by omega,ixN] at this
    exact this
   subst hz
   clear HS' hal
   have hc0 := blk_at hblk 0 rfl
   have hc2 := blk_at hblk 2 rfl
   have hc3 := blk_at hblk 3 rfl
   have hf0 := blk_at_f hblk 0
   have hf2 := blk_at_f hblk 2
   have hf3 := blk_at_f hblk 3
   have hk1 := (hb1.cell (p := ⟨bl,off,none⟩) (by show bl < _;omega)).trans hk
   go_wp2_with fail
   go_ret
   exact ⟨_,rfl,leaf_done (block_setCell (hblk) 0 _),(hb1.mono (by omega)).trans (Sole.below ((Sole.refl bt w1).set _))⟩
set_option maxRecDepth 100000 in
theorem opd_rd {L : List Tok} {p : Int} (hx : ixL L = 0) (h0 : kdAt L 0 = 13) (hl : 0 < L.length) : SubOK 189 p L (.nd f_read p 0 f_0 [] []) := by
 intro n bl off cap bt w hn hL hcap hblt hbt hblk0 hr hok
 subst hn
 have hl1 : 1 <= L.length := by omega
 have hk := kdAt_cell hr hok (i := 0) hl1
 have hk35 := kdAt_lt hok (i := 0) hl1
 simp only [Nat.zero_mul,Nat.add_zero] at hk
 have e1 : ((nameK (kdAt L 0)).toList == [110,117,109]) = false := by rw [nk1 hk35];simp;omega
 have e11 : ((nameK (kdAt L 0)).toList == [116,114,117,101]) = false := by rw [nk11 hk35];simp;omega
 have e12 : ((nameK (kdAt L 0)).toList == [102,97,108,115,101]) = false := by rw [nk12 hk35];simp;omega
 have e13 : ((nameK (kdAt L 0)).toList == [114,101,97,100]) = true := by rw [nk13 hk35];simp;omega
 have e2 : ((nameK (kdAt L 0)).toList == [105,100]) = false := by rw [nk2 hk35];simp;omega
 have e23 : ((nameK (kdAt L 0)).toList == [40]) = false := by rw [nk23 hk35];simp;omega
 obtain ⟨nm,hnm⟩ : ∃ nm,nameK (kdAt L 0) = nm := ⟨_,rfl⟩
 rw [hnm] at hk e1 e11 e12 e13 e2 e23
 clear hnm h0
 have HR : Hid (RW w bl off L) := hr
 have HK : Hid (∀ t ∈ L,okTok t) := hok
 have HBK : Hid (w.heap[bt]? = some (treeB p)) := hblk0
 have HX : Hid (ixL L = 0) := hx
 clear hr hok hblk0 hx
 go_enter Tryz.func189,Tryz.ntmps189
 go_wp2_with (go_at_call 186;refine (depths_any L bl off cap w hL hcap (by omega) HR.out HK.out).mono ?_;rintro e w1 ⟨v,rfl,hv,hb1⟩;obtain ⟨gd,dcap,rfl,hd1,hd2,hd3,hd4⟩ := own_shapeP hv hl1)
 have hd3' := hd3
 have HV1 : Hid (w1.ownsRow w.heap.size 3 1 (.slice (some ⟨gd,0,none⟩) L.length dcap) L.length ((dsF 0 L).map (Value.int .i64))) := hv
 have HRW : Hid (RW w1 bl off L) := HR.out.below hb1 (by omega)
 have hs1 := hb1.size
 have hblk := blk_below HBK.out hb1 hbt
 clear hv hd3 hd4 hd1
 go_loop [6,7] (fun u v => ∃ x y : Nat,1 <= y /\ y <= L.length /\ x <= L.length /\ ixN L (L.length - y) y x = 0 /\ u = .int .i64 x /\ v = .int .i64 y) (fun _ v => L.length - (intOf v).toNat)
 case atStart => exact ⟨0,1,Nat.le_refl _,hl1,Nat.zero_le _,HX.out,rfl,rfl⟩
 case round =>
  obtain ⟨at_,j,hj1,hj,hal,hs,rfl,rfl⟩ := hrel
  have HS' : Hid (ixN L (L.length - j) j at_ = 0) := hs
  clear hs
  by_cases hlt : j < L.length
  ·obtain ⟨c1,_,_⟩ := HRW.out j hlt
   obtain ⟨hkn,hk35⟩ := HK.out L[j] (by simp)
   have hdd := ddAt_cell HV1.out j hlt
   rw [hkn] at c1
   have q18 := nk18 hk35
   obtain ⟨kk,hkk⟩ : ∃ kk,L[j].k = kk := ⟨_,rfl⟩
   obtain ⟨dv,hdv⟩ : ∃ dv,ddAt L j = dv := ⟨_,rfl⟩
   rw [hkk] at c1 q18
   rw [hdv] at hdd
   have HST : Hid (ixN L (L.length - (j + 1)) (j + 1) (if dv = 0 /\ kk = 18 then j else at_) = 0) := by
    show _ = _
    have := HS'.out
    rw [show L.length - j = (L.length - (j + 1)) + 1 by omega,ixN,hdv,kdAt_eq L j hlt,hkk] at this
    exact this
   clear hkn hkk hdv hk35
   by_cases hd0 : dv = 0
   ·rw [hd0] at hdd HST
    clear hd0
    by_cases h18 : kk = 18
    ·have e18 : ((nameK kk).toList == [46,40]) = true := by rw [q18];simpa using h18
     have H18 : Hid (kk = 18) := h18
     clear q18 h18
     go_wp2_with fail
     go_round
     case rel => exact ⟨j,j + 1,by omega,by omega,by omega,(by have h := HST.out;rw [if_pos ⟨rfl,H18.out⟩] at h;exact h),rfl,by go_num⟩
     case measure => simp [intOf];omega
    ·have e18 : ((nameK kk).toList == [46,40]) = false := by rw [q18];simpa using h18
     have H18 : Hid (¬ kk = 18) := h18
     clear q18 h18
     go_wp2_with fail
     go_round
     case rel => exact ⟨at_,j + 1,by omega,by omega,by omega,(by have h := HST.out;rw [if_neg (fun h' => H18.out h'.2)] at h;exact h),rfl,by go_num⟩
     case measure => simp [intOf];omega
   ·have hd0' : (dv == 0) = false := by simpa using hd0
    have HD0 : Hid (¬ dv = 0) := hd0
    clear hd0 q18
    go_wp2_with fail
    go_round
    case rel => exact ⟨at_,j + 1,by omega,by omega,by omega,(by have h := HST.out;rw [if_neg (fun h' => HD0.out h'.1)] at h;exact h),rfl,by go_num⟩
    case measure => simp [intOf];omega
  ·have hz : at_ = 0 := by
    have := HS'.out
    rw [show L.length - j = 0 by omega,ixN] at this
    exact this
   subst hz
   clear HS' hal
   have hc0 := blk_at hblk 0 rfl
   have hc2 := blk_at hblk 2 rfl
   have hc3 := blk_at hblk 3 rfl
   have hf0 := blk_at_f hblk 0
   have hf2 := blk_at_f hblk 2
   have hf3 := blk_at_f hblk 3
   have hk1 := (hb1.cell (p := ⟨bl,off,none⟩) (by show bl < _;omega)).trans hk
   go_wp2_with fail
   go_ret
   exact ⟨_,rfl,leaf_done (block_setCell (hblk) 0 _),(hb1.mono (by omega)).trans (Sole.below ((Sole.refl bt w1).set _))⟩
set_option maxRecDepth 100000 in
theorem opd_vr {L : List Tok} {p : Int} (hx : ixL L = 0) (h0 : kdAt L 0 = 2) (hl : 0 < L.length) : SubOK 189 p L (.nd f_var p 0 (tokAt L 0).t [] []) := by
 intro n bl off cap bt w hn hL hcap hblt hbt hblk0 hr hok
 subst hn
 have hl1 : 1 <= L.length := by omega
 have hk := kdAt_cell hr hok (i := 0) hl1
 have hk35 := kdAt_lt hok (i := 0) hl1
 simp only [Nat.zero_mul,Nat.add_zero] at hk
 have e1 : ((nameK (kdAt L 0)).toList == [110,117,109]) = false := by rw [nk1 hk35];simp;omega
 have e11 : ((nameK (kdAt L 0)).toList == [116,114,117,101]) = false := by rw [nk11 hk35];simp;omega
 have e12 : ((nameK (kdAt L 0)).toList == [102,97,108,115,101]) = false := by rw [nk12 hk35];simp;omega
 have e13 : ((nameK (kdAt L 0)).toList == [114,101,97,100]) = false := by rw [nk13 hk35];simp;omega
 have e2 : ((nameK (kdAt L 0)).toList == [105,100]) = true := by rw [nk2 hk35];simp;omega
 have e23 : ((nameK (kdAt L 0)).toList == [40]) = false := by rw [nk23 hk35];simp;omega
 obtain ⟨nm,hnm⟩ : ∃ nm,nameK (kdAt L 0) = nm := ⟨_,rfl⟩
 rw [hnm] at hk e1 e11 e12 e13 e2 e23
 clear hnm h0
 have ht := txtAt_cell hr (i := 0) (by omega)
 simp only [Nat.zero_mul,Nat.add_zero] at ht
 obtain ⟨t0,ht0⟩ : ∃ t0 : ByteArray,(tokAt L 0).t = t0 := ⟨_,rfl⟩
 rw [ht0] at ht ⊢
 clear ht0
 have HR : Hid (RW w bl off L) := hr
 have HK : Hid (∀ t ∈ L,okTok t) := hok
 have HBK : Hid (w.heap[bt]? = some (treeB p)) := hblk0
 have HX : Hid (ixL L = 0) := hx
 clear hr hok hblk0 hx
 go_enter Tryz.func189,Tryz.ntmps189
 go_wp2_with (go_at_call 186;refine (depths_any L bl off cap w hL hcap (by omega) HR.out HK.out).mono ?_;rintro e w1 ⟨v,rfl,hv,hb1⟩;obtain ⟨gd,dcap,rfl,hd1,hd2,hd3,hd4⟩ := own_shapeP hv hl1)
 have hd3' := hd3
 have HV1 : Hid (w1.ownsRow w.heap.size 3 1 (.slice (some ⟨gd,0,none⟩) L.length dcap) L.length ((dsF 0 L).map (Value.int .i64))) := hv
 have HRW : Hid (RW w1 bl off L) := HR.out.below hb1 (by omega)
 have hs1 := hb1.size
 have hblk := blk_below HBK.out hb1 hbt
 clear hv hd3 hd4 hd1
 go_loop [6,7] (fun u v => ∃ x y : Nat,1 <= y /\ y <= L.length /\ x <= L.length /\ ixN L (L.length - y) y x = 0 /\ u = .int .i64 x /\ v = .int .i64 y) (fun _ v => L.length - (intOf v).toNat)
 case atStart => exact ⟨0,1,Nat.le_refl _,hl1,Nat.zero_le _,HX.out,rfl,rfl⟩
 case round =>
  obtain ⟨at_,j,hj1,hj,hal,hs,rfl,rfl⟩ := hrel
  have HS' : Hid (ixN L (L.length - j) j at_ = 0) := hs
  clear hs
  by_cases hlt : j < L.length
  ·obtain ⟨c1,_,_⟩ := HRW.out j hlt
   obtain ⟨hkn,hk35⟩ := HK.out L[j] (by simp)
   have hdd := ddAt_cell HV1.out j hlt
   rw [hkn] at c1
   have q18 := nk18 hk35
   obtain ⟨kk,hkk⟩ : ∃ kk,L[j].k = kk := ⟨_,rfl⟩
   obtain ⟨dv,hdv⟩ : ∃ dv,ddAt L j = dv := ⟨_,rfl⟩
   rw [hkk] at c1 q18
   rw [hdv] at hdd
   have HST : Hid (ixN L (L.length - (j + 1)) (j + 1) (if dv = 0 /\ kk = 18 then j else at_) = 0) := by
    show _ = _
    have := HS'.out
    rw [show L.length - j = (L.length - (j + 1)) + 1 by omega,ixN,hdv,kdAt_eq L j hlt,hkk] at this
    exact this
   clear hkn hkk hdv hk35
   by_cases hd0 : dv = 0
   ·rw [hd0] at hdd HST
    clear hd0
    by_cases h18 : kk = 18
    ·have e18 : ((nameK kk).toList == [46,40]) = true := by rw [q18];simpa using h18
     have H18 : Hid (kk = 18) := h18
     clear q18 h18
     go_wp2_with fail
     go_round
     case rel => exact ⟨j,j + 1,by omega,by omega,by omega,(by have h := HST.out;rw [if_pos ⟨rfl,H18.out⟩] at h;exact h),rfl,by go_num⟩
     case measure => simp [intOf];omega
    ·have e18 : ((nameK kk).toList == [46,40]) = false := by rw [q18];simpa using h18
     have H18 : Hid (¬ kk = 18) := h18
     clear q18 h18
     go_wp2_with fail
     go_round
     case rel => exact ⟨at_,j + 1,by omega,by omega,by omega,(by have h := HST.out;rw [if_neg (fun h' => H18.out h'.2)] at h;exact h),rfl,by go_num⟩
     case measure => simp [intOf];omega
   ·have hd0' : (dv == 0) = false := by simpa using hd0
    have HD0 : Hid (¬ dv = 0) := hd0
    clear hd0 q18
    go_wp2_with fail
    go_round
    case rel => exact ⟨at_,j + 1,by omega,by omega,by omega,(by have h := HST.out;rw [if_neg (fun h' => HD0.out h'.1)] at h;exact h),rfl,by go_num⟩
    case measure => simp [intOf];omega
  ·have hz : at_ = 0 := by
    have := HS'.out
    rw [show L.length - j = 0 by omega,ixN] at this
    exact this
   subst hz
   clear HS' hal
   have hc0 := blk_at hblk 0 rfl
   have hc2 := blk_at hblk 2 rfl
   have hc3 := blk_at hblk 3 rfl
   have hf0 := blk_at_f hblk 0
   have hf2 := blk_at_f hblk 2
   have hf3 := blk_at_f hblk 3
   have hk1 := (hb1.cell (p := ⟨bl,off,none⟩) (by show bl < _;omega)).trans hk
   have ht1 := (hb1.cell (p := ⟨bl,off + 1,none⟩) (by show bl < _;omega)).trans ht
   go_wp2_with fail
   go_ret
   exact ⟨_,rfl,leaf_done (block_setCell (block_setCell (hblk) 0 _) 3 _),(hb1.mono (by omega)).trans (Sole.below (((Sole.refl bt w1).set _).set _))⟩
set_option maxRecDepth 100000 in
theorem opd_bk {L : List Tok} {g : G} {p : Int} (hx : ixL L = 0) (h0 : kdAt L 0 = 23) (hl : 1 < L.length) (hs : SubOK 263 p (cutL L 1 (L.length - 1)) g) : SubOK 189 p L g := by
 intro n bl off cap bt w hn hL hcap hblt hbt hblk0 hr hok
 subst hn
 have hl1 : 1 <= L.length := by omega
 have hk := kdAt_cell hr hok (i := 0) hl1
 have hk35 := kdAt_lt hok (i := 0) hl1
 simp only [Nat.zero_mul,Nat.add_zero] at hk
 have e1 : ((nameK (kdAt L 0)).toList == [110,117,109]) = false := by rw [nk1 hk35];simp;omega
 have e11 : ((nameK (kdAt L 0)).toList == [116,114,117,101]) = false := by rw [nk11 hk35];simp;omega
 have e12 : ((nameK (kdAt L 0)).toList == [102,97,108,115,101]) = false := by rw [nk12 hk35];simp;omega
 have e13 : ((nameK (kdAt L 0)).toList == [114,101,97,100]) = false := by rw [nk13 hk35];simp;omega
 have e2 : ((nameK (kdAt L 0)).toList == [105,100]) = false := by rw [nk2 hk35];simp;omega
 have e23 : ((nameK (kdAt L 0)).toList == [40]) = true := by rw [nk23 hk35];simp;omega
 obtain ⟨nm,hnm⟩ : ∃ nm,nameK (kdAt L 0) = nm := ⟨_,rfl⟩
 rw [hnm] at hk e1 e11 e12 e13 e2 e23
 clear hnm h0
 have HS : Hid (SubOK 263 p (cutL L 1 (L.length - 1)) g) := hs
 have hcl : Hid ((cutL L 1 (L.length - 1)).length = L.length - 1 - 1) := cutL_len L (by omega) (by omega)
 clear hs
 have HR : Hid (RW w bl off L) := hr
 have HK : Hid (∀ t ∈ L,okTok t) := hok
 have HBK : Hid (w.heap[bt]? = some (treeB p)) := hblk0
 have HX : Hid (ixL L = 0) := hx
 clear hr hok hblk0 hx
 go_enter Tryz.func189,Tryz.ntmps189
 go_wp2_with (go_at_call 186;refine (depths_any L bl off cap w hL hcap (by omega) HR.out HK.out).mono ?_;rintro e w1 ⟨v,rfl,hv,hb1⟩;obtain ⟨gd,dcap,rfl,hd1,hd2,hd3,hd4⟩ := own_shapeP hv hl1)
 have hd3' := hd3
 have HV1 : Hid (w1.ownsRow w.heap.size 3 1 (.slice (some ⟨gd,0,none⟩) L.length dcap) L.length ((dsF 0 L).map (Value.int .i64))) := hv
 have HRW : Hid (RW w1 bl off L) := HR.out.below hb1 (by omega)
 have hs1 := hb1.size
 have hblk := blk_below HBK.out hb1 hbt
 clear hv hd3 hd4 hd1
 go_loop [6,7] (fun u v => ∃ x y : Nat,1 <= y /\ y <= L.length /\ x <= L.length /\ ixN L (L.length - y) y x = 0 /\ u = .int .i64 x /\ v = .int .i64 y) (fun _ v => L.length - (intOf v).toNat)
 case atStart => exact ⟨0,1,Nat.le_refl _,hl1,Nat.zero_le _,HX.out,rfl,rfl⟩
 case round =>
  obtain ⟨at_,j,hj1,hj,hal,hs,rfl,rfl⟩ := hrel
  have HS' : Hid (ixN L (L.length - j) j at_ = 0) := hs
  clear hs
  by_cases hlt : j < L.length
  ·obtain ⟨c1,_,_⟩ := HRW.out j hlt
   obtain ⟨hkn,hk35⟩ := HK.out L[j] (by simp)
   have hdd := ddAt_cell HV1.out j hlt
   rw [hkn] at c1
   have q18 := nk18 hk35
   obtain ⟨kk,hkk⟩ : ∃ kk,L[j].k = kk := ⟨_,rfl⟩
   obtain ⟨dv,hdv⟩ : ∃ dv,ddAt L j = dv := ⟨_,rfl⟩
   rw [hkk] at c1 q18
   rw [hdv] at hdd
   have HST : Hid (ixN L (L.length - (j + 1)) (j + 1) (if dv = 0 /\ kk = 18 then j else at_) = 0) := by
    show _ = _
    have := HS'.out
    rw [show L.length - j = (L.length - (j + 1)) + 1 by omega,ixN,hdv,kdAt_eq L j hlt,hkk] at this
    exact this
   clear hkn hkk hdv hk35
   by_cases hd0 : dv = 0
   ·rw [hd0] at hdd HST
    clear hd0
    by_cases h18 : kk = 18
    ·have e18 : ((nameK kk).toList == [46,40]) = true := by rw [q18];simpa using h18
     have H18 : Hid (kk = 18) := h18
     clear q18 h18
     go_wp2_with fail
     go_round
     case rel => exact ⟨j,j + 1,by omega,by omega,by omega,(by have h := HST.out;rw [if_pos ⟨rfl,H18.out⟩] at h;exact h),rfl,by go_num⟩
     case measure => simp [intOf];omega
    ·have e18 : ((nameK kk).toList == [46,40]) = false := by rw [q18];simpa using h18
     have H18 : Hid (¬ kk = 18) := h18
     clear q18 h18
     go_wp2_with fail
     go_round
     case rel => exact ⟨at_,j + 1,by omega,by omega,by omega,(by have h := HST.out;rw [if_neg (fun h' => H18.out h'.2)] at h;exact h),rfl,by go_num⟩
     case measure => simp [intOf];omega
   ·have hd0' : (dv == 0) = false := by simpa using hd0
    have HD0 : Hid (¬ dv = 0) := hd0
    clear hd0 q18
    go_wp2_with fail
    go_round
    case rel => exact ⟨at_,j + 1,by omega,by omega,by omega,(by have h := HST.out;rw [if_neg (fun h' => HD0.out h'.1)] at h;exact h),rfl,by go_num⟩
    case measure => simp [intOf];omega
  ·have hz : at_ = 0 := by
    have := HS'.out
    rw [show L.length - j = 0 by omega,ixN] at this
    exact this
   subst hz
   clear HS' hal
   have hk1 := (hb1.cell (p := ⟨bl,off,none⟩) (by show bl < _;omega)).trans hk
   go_wp2_with (go_at_call 263;refine (HS.out _ bl _ _ bt _ (by rw [hcl.out]) (by rw [hcl.out];omega) (by rw [hcl.out];omega) hblt (by omega) (by exact hblk) (by exact HRW.out.cut 1 (L.length - 1)) (ok_cut HK.out 1 (L.length - 1))).mono ?_;rintro _ w2 ⟨v2,rfl,ht2,hb2⟩;obtain ⟨p2,rfl,hp2,hp2'⟩ := ht2.ptr)
   go_ret
   exact ⟨_,rfl,ht2,(hb1.mono (by omega)).trans hb2⟩
set_option maxRecDepth 100000 in
theorem opd_gt {L : List Tok} {a b : G} {i : Nat} {p : Int} (hx : ixL L = i) (hi : 0 < i) (hl : i + 2 < L.length) (ha : SubOK 189 (tokAt L 0).p (cutL L 0 i) a) (hb : TreeOK (cutL L (i + 1) (L.length - 1)) b) : SubOK 189 p L (.nd f_get (tokAt L i).p 0 f_0 [] [a,b]) := by
 intro n bl off cap bt w hn hL hcap hblt hbt hblk0 hr hok
 subst hn
 have hl1 : 1 <= L.length := by omega
 have hk := kdAt_cell hr hok (i := 0) hl1
 have hk35 := kdAt_lt hok (i := 0) hl1
 simp only [Nat.zero_mul,Nat.add_zero] at hk
 clear hk hk35
 have hp := posAt_cell hr (i := 0) (by omega)
 simp only [Nat.zero_mul,Nat.add_zero] at hp
 have hpi := posAt_cell hr (i := i) (by omega)
 obtain ⟨p0,hp0⟩ : ∃ p0 : Int,((tokAt L 0).p : Int) = p0 := ⟨_,rfl⟩
 obtain ⟨pi,hpi'⟩ : ∃ pi : Int,((tokAt L i).p : Int) = pi := ⟨_,rfl⟩
 rw [hp0] at hp ha
 rw [hpi'] at hpi ⊢
 have HA : Hid (SubOK 189 p0 (cutL L 0 i) a) := ha
 have HB : Hid (TreeOK (cutL L (i + 1) (L.length - 1)) b) := hb
 have hca : Hid ((cutL L 0 i).length = i) := cutL_len L (by omega) (by omega)
 have hcb : Hid ((cutL L (i + 1) (L.length - 1)).length = L.length - 1 - (i + 1)) := cutL_len L (by omega) (by omega)
 clear ha hb hp0 hpi'
 have HR : Hid (RW w bl off L) := hr
 have HK : Hid (∀ t ∈ L,okTok t) := hok
 have HBK : Hid (w.heap[bt]? = some (treeB p)) := hblk0
 have HX : Hid (ixL L = i) := hx
 clear hr hok hblk0 hx
 go_enter Tryz.func189,Tryz.ntmps189
 go_wp2_with (go_at_call 186;refine (depths_any L bl off cap w hL hcap (by omega) HR.out HK.out).mono ?_;rintro e w1 ⟨v,rfl,hv,hb1⟩;obtain ⟨gd,dcap,rfl,hd1,hd2,hd3,hd4⟩ := own_shapeP hv hl1)
 have hd3' := hd3
 have HV1 : Hid (w1.ownsRow w.heap.size 3 1 (.slice (some ⟨gd,0,none⟩) L.length dcap) L.length ((dsF 0 L).map (Value.int .i64))) := hv
 have HRW : Hid (RW w1 bl off L) := HR.out.below hb1 (by omega)
 have hs1 := hb1.size
 have hblk := blk_below HBK.out hb1 hbt
 clear hv hd3 hd4 hd1
 go_loop [6,7] (fun u v => ∃ x y : Nat,1 <= y /\ y <= L.length /\ x <= L.length /\ ixN L (L.length - y) y x = i /\ u = .int .i64 x /\ v = .int .i64 y) (fun _ v => L.length - (intOf v).toNat)
 case atStart => exact ⟨0,1,Nat.le_refl _,hl1,Nat.zero_le _,HX.out,rfl,rfl⟩
 case round =>
  obtain ⟨at_,j,hj1,hj,hal,hs,rfl,rfl⟩ := hrel
  have HS' : Hid (ixN L (L.length - j) j at_ = i) := hs
  clear hs
  by_cases hlt : j < L.length
  ·obtain ⟨c1,_,_⟩ := HRW.out j hlt
   obtain ⟨hkn,hk35⟩ := HK.out L[j] (by simp)
   have hdd := ddAt_cell HV1.out j hlt
   rw [hkn] at c1
   have q18 := nk18 hk35
   obtain ⟨kk,hkk⟩ : ∃ kk,L[j].k = kk := ⟨_,rfl⟩
   obtain ⟨dv,hdv⟩ : ∃ dv,ddAt L j = dv := ⟨_,rfl⟩
   rw [hkk] at c1 q18
   rw [hdv] at hdd
   have HST : Hid (ixN L (L.length - (j + 1)) (j + 1) (if dv = 0 /\ kk = 18 then j else at_) = i) := by
    show _ = _
    have := HS'.out
    rw [show L.length - j = (L.length - (j + 1)) + 1 by omega,ixN,hdv,kdAt_eq L j hlt,hkk] at this
    exact this
   clear hkn hkk hdv hk35
   by_cases hd0 : dv = 0
   ·rw [hd0] at hdd HST
    clear hd0
    by_cases h18 : kk = 18
    ·have e18 : ((nameK kk).toList == [46,40]) = true := by rw [q18];simpa using h18
     have H18 : Hid (kk = 18) := h18
     clear q18 h18
     go_wp2_with fail
     go_round
     case rel => exact ⟨j,j + 1,by omega,by omega,by omega,(by have h := HST.out;rw [if_pos ⟨rfl,H18.out⟩] at h;exact h),rfl,by go_num⟩
     case measure => simp [intOf];omega
    ·have e18 : ((nameK kk).toList == [46,40]) = false := by rw [q18];simpa using h18
     have H18 : Hid (¬ kk = 18) := h18
     clear q18 h18
     go_wp2_with fail
     go_round
     case rel => exact ⟨at_,j + 1,by omega,by omega,by omega,(by have h := HST.out;rw [if_neg (fun h' => H18.out h'.2)] at h;exact h),rfl,by go_num⟩
     case measure => simp [intOf];omega
   ·have hd0' : (dv == 0) = false := by simpa using hd0
    have HD0 : Hid (¬ dv = 0) := hd0
    clear hd0 q18
    go_wp2_with fail
    go_round
    case rel => exact ⟨at_,j + 1,by omega,by omega,by omega,(by have h := HST.out;rw [if_neg (fun h' => HD0.out h'.1)] at h;exact h),rfl,by go_num⟩
    case measure => simp [intOf];omega
  ·have hz : at_ = i := by
    have := HS'.out
    rw [show L.length - j = 0 by omega,ixN] at this
    exact this
   subst hz
   clear HS' hal
   have hp1 := (hb1.cell (p := ⟨bl,off + 2,none⟩) (by show bl < _;omega)).trans hp
   clear hp
   go_upto_region 10 with fail
   go_cut [9] (fun s9 wx => ∃ p1,s9 = .pointer (some ⟨p1,0,none⟩) /\ HT wx w1.heap.size wx.heap.size s9 a /\ Below w1.heap.size w1 wx)
   case first =>
    go_region_with (go_at_call 189;refine (HA.out _ bl _ _ w1.heap.size _ (by rw [hca.out]) (by rw [hca.out];omega) (by rw [hca.out];omega) (by omega) (by simp) (by exact blk_new w1 _) (by exact (HRW.out.alloc (by omega) _).cut 0 at_) (ok_cut HK.out 0 at_)).mono ?_;rintro _ w2 ⟨v2,rfl,ht2,hb2⟩;obtain ⟨p2,rfl,hp2,hp2'⟩ := ht2.ptr)
    all_goals (try go_wp2_with fail)
    all_goals go_meet
    all_goals exact ⟨_,rfl,ht2,((Below.refl w1.heap.size w1).alloc (Nat.le_refl _) _).trans ⟨hb2.os,hb2.tape,hb2.output,hb2.size,hb2.block⟩⟩
   case rest =>
    obtain ⟨p1,rfl,ht1,hb2⟩ := hcut
    have hs2 := hb2.size
    have HR2 : Hid (RW wc bl off L) := HRW.out.below hb2 (by omega)
    have hpi2 := ((hb1.trans (hb2.mono hs1)).cell (p := ⟨bl,off + at_ * 3 + 2,none⟩) (by show bl < _;omega)).trans hpi
    go_wp2_with (go_at_call 69;refine (HB.out _ bl _ _ _ (by rw [hcb.out]) (by rw [hcb.out];omega) (by rw [hcb.out];omega) (by omega) (by exact HR2.out.cut (at_ + 1) (L.length - 1)) (ok_cut HK.out (at_ + 1) (L.length - 1))).mono ?_;rintro _ w3 ⟨v3,rfl,ht3,hb3⟩;obtain ⟨p3,rfl,hp3,hp3'⟩ := ht3.ptr;have hpi3 := (hb3.cell (p := ⟨bl,off + at_ * 3 + 2,none⟩) (by show bl < _;omega)).trans hpi2;have hs3 := hb3.size)
    go_ret
    exact get_done hb1 hbt hs1 hb2 hb3 ht1 ht3
end Go.Proofs.YtmkdoejpgkgpbaaGreatDoor
