import Derived.Test.YtmkdoejpgkgpbaaGreatDoorS13
set_option linter.unusedVariables false
set_option linter.unusedSimpArgs false
set_option maxHeartbeats 20000000
namespace Go.Proofs.YtmkdoejpgkgpbaaGreatDoor
open Go.RowKit Sl
set_option maxRecDepth 100000 in
theorem tree_sq {L : List Tok} {a b : G} {c i : Nat} (hc4 : c < 4) (hc : c = 0) (h3 : kdAt L 0 ≠ 3) (h6 : kdAt L 0 ≠ 6) (h9 : kdAt L 0 ≠ 9) (hz : ∀ d,d < c -> spl (clsN d) L = 0) (hi : spl (clsN c) L = i) (hi0 : 0 < i) (hil : i + 1 < L.length)
 (ha : TreeOK (cutL L 0 i) a) (hb : TreeOK (L.drop (i + 1)) b) : TreeOK L (.nd f_seq (tokAt L i).p 0 f_0 [] [a,b]) := by
 intro n bl off cap w hn hL hcap hbl hr hok
 subst hn
 have hl0 : 0 < L.length := by omega
 have hk := kdAt_cell hr hok (i := 0) hl0
 have hp := posAt_cell hr (i := 0) hl0
 have hk35 := kdAt_lt hok (i := 0) hl0
 simp only [Nat.zero_mul,Nat.add_zero] at hk hp
 have HR : Hid (RW w bl off L) := hr
 have HK : Hid (∀ t ∈ L,okTok t) := hok
 have e1 : ((nameK (kdAt L 0)).toList == [108,101,116]) = false := by rw [nk3 hk35];simpa using h3
 have e2 : ((nameK (kdAt L 0)).toList == [105,102]) = false := by rw [nk6 hk35];simpa using h6
 have e3 : ((nameK (kdAt L 0)).toList == [102,117,110]) = false := by rw [nk9 hk35];simpa using h9
 have hpi := posAt_cell hr (i := i) (by omega)
 have hti := txtAt_cell hr (i := i) (by omega)
 obtain ⟨nm,hnm⟩ : ∃ nm,nameK (kdAt L 0) = nm := ⟨_,rfl⟩
 rw [hnm] at hk e1 e2 e3
 have HA : Hid (TreeOK (cutL L 0 i) a) := ha
 have HB : Hid (TreeOK (L.drop (i + 1)) b) := hb
 have HZ : Hid (∀ d,d < c -> spl (clsN d) L = 0) := hz
 have HI : Hid (spl (clsN c) L = i) := hi
 obtain ⟨p0,hp0⟩ : ∃ p0 : Int,((tokAt L 0).p : Int) = p0 := ⟨_,rfl⟩
 obtain ⟨pi,hpi'⟩ : ∃ pi : Int,((tokAt L i).p : Int) = pi := ⟨_,rfl⟩
 obtain ⟨ti,hti'⟩ : ∃ ti : ByteArray,(tokAt L i).t = ti := ⟨_,rfl⟩
 rw [hp0] at hp
 rw [hpi'] at hpi ⊢
 rw [hti'] at hti
 clear hr hok hi hz h3 h6 h9 hnm ha hb hp0 hpi' hti' hk35
 go_enter Tryz.func69,Tryz.ntmps69
 go_wp2_with fail
 go_loopw [12] (fun v wr => ∃ k : Nat,k <= c /\ v = .int .i64 k /\ Below (w.heap.size + 2) ((w.alloc (treeB p0)).alloc clsO) wr) (fun v _ => 4 - (intOf v).toNat)
 case atStart => exact ⟨0,Nat.zero_le _,rfl,Below.refl _ _⟩
 case round =>
  obtain ⟨k,hkc,rfl,hbw⟩ := hrel
  have hsw := hbw.size
  simp only [World.size_alloc] at hsw
  have hw0 : Below w.heap.size w wr := (((Below.refl w.heap.size w).alloc (Nat.le_refl _) _).alloc (by simp) _).trans (hbw.mono (by omega))
  have HRR : Hid (RW wr bl off L) := HR.out.below hw0 hbl
  have hck := cls_cell w p0 hbw k (by omega)
  have hblk0 := blk_below (blk_below (blk_new w (treeB p0)) ((Below.refl _ _).alloc (Nat.le_refl _) clsO) (by simp)) hbw (by omega)
  have HBK : Hid (wr.heap[w.heap.size]? = some (treeB p0)) := hblk0
  clear hblk0
  by_cases hkk : k < c
  ·exact absurd hkk (by omega)
  ·have hkc' : k = c := by omega
   subst hkc'
   have ecl : ((clsB k).toList == [59]) = true := clsB_semi (by omega) |>.trans (by simp;omega)
   clear hc
   obtain ⟨cb,hcb⟩ : ∃ cb,clsB k = cb := ⟨_,rfl⟩
   have HCB : Hid (clsB k = cb) := hcb
   rw [hcb] at ecl hck
   have hpi2 := (hw0.cell (p := ⟨bl,off + i * 3 + 2,none⟩) (by show bl < _;omega)).trans hpi
   have hti2 := (hw0.cell (p := ⟨bl,off + i * 3 + 1,none⟩) (by show bl < _;omega)).trans hti
   clear hcb
   go_wp2_with (first
    | (go_at_call 118;refine (split_cls' L (c := k) HCB.out (by omega) hL hl0 hcap (by omega) HRR.out HK.out HI.out).mono ?_;rintro _ w1 ⟨rfl,hb1⟩;have hs1 := hb1.size;have HR1 : Hid (RW w1 bl off L) := HRR.out.below hb1 (by omega);have hpi3 := (hb1.cell (p := ⟨bl,off + i * 3 + 2,none⟩) (by show bl < _;omega)).trans hpi2;have hti3 := (hb1.cell (p := ⟨bl,off + i * 3 + 1,none⟩) (by show bl < _;omega)).trans hti2;have hck3 := (hb1.cell (p := ⟨w.heap.size + 1,k,none⟩) (by show w.heap.size + 1 < _;omega)).trans hck;have hblk := blk_below HBK.out hb1 (by omega);have hc0 := blk_at hblk 0 rfl;have hc1 := blk_at hblk 1 rfl;have hc3 := blk_at hblk 3 rfl;have hf0 := blk_at_f hblk 0;have hf1 := blk_at_f hblk 1;have hf3 := blk_at_f hblk 3)
    | (go_at_call 69;refine (HA.out _ bl _ _ _ (by rw [cutL_len _ (by omega) (by omega)];omega) (by rw [cutL_len _ (by omega) (by omega)];omega) (by rw [cutL_len _ (by omega) (by omega)];omega) (by simp only [size_setCell];omega) (by exact (HR1.out.below (Sole.below ((((((Sole.refl w.heap.size w1).set _).set _).set _).set _).set _)) hbl).cut 0 i) (ok_cut HK.out 0 i)).mono ?_;rintro _ w2 ⟨v2,rfl,ht2,hb2⟩;obtain ⟨p2,rfl,hp2,hp2'⟩ := ht2.ptr;obtain ⟨hs2,hb12,hh12⟩ := sole_then hb2 ((((((Sole.refl w.heap.size w1).set _).set _).set _).set _).set _) (by omega);have hblk2 := blk_below (block_setCell (block_setCell (block_setCell (block_setCell (block_setCell hblk 1 _) 0 _) 3 _) 0 _) 3 _) hb2 (by simp only [size_setCell];omega);have HR2 : Hid (RW w2 bl off L) := HR1.out.below hb12 hbl;simp only [size_setCell] at hp2)
    | (go_at_call 69;refine (HB.out _ bl _ _ _ (by rw [List.length_drop]) (by rw [List.length_drop];omega) (by rw [List.length_drop];omega) (by omega) (by exact HR2.out.drop (i + 1)) (ok_drop HK.out (i + 1))).mono ?_;rintro _ w3 ⟨v3,rfl,ht3,hb3⟩;obtain ⟨p3,rfl,hp3,hp3'⟩ := ht3.ptr;have hs3' := hb3.size;have hblk3 := blk_below hblk2 hb3 (by omega);have hc5 := blk_cell hblk3 5 rfl;have hf5 := blk_free hblk3 5))
   go_ret
   refine ⟨_,rfl,ht_fin (ps := [.pointer (some ⟨p2,0,none⟩),.pointer (some ⟨p3,0,none⟩)]) hblk3 (Nat.le_refl _) rfl (Or.inl ⟨rfl,_,_,rfl⟩) (.cons ((ht2.keep (belowHeld hb3 _)).wide (by simp only [size_setCell];omega) (by omega)) (.cons (ht3.wide (by omega) (Nat.le_refl _)) .nil)),?_⟩
   exact ((((hw0.trans (hb1.mono (by omega))).trans hb12)).trans (hb3.mono (by omega))).alloc (by omega) _ |>.setCell (Nat.le_refl _) _
set_option maxRecDepth 100000 in
theorem tree_op {L : List Tok} {a b : G} {c i : Nat} (hc4 : c < 4) (hc : 0 < c) (h3 : kdAt L 0 ≠ 3) (h6 : kdAt L 0 ≠ 6) (h9 : kdAt L 0 ≠ 9) (hz : ∀ d,d < c -> spl (clsN d) L = 0) (hi : spl (clsN c) L = i) (hi0 : 0 < i) (hil : i + 1 < L.length)
 (ha : TreeOK (cutL L 0 i) a) (hb : TreeOK (L.drop (i + 1)) b) : TreeOK L (.nd f_op (tokAt L i).p 0 (tokAt L i).t [] [a,b]) := by
 intro n bl off cap w hn hL hcap hbl hr hok
 subst hn
 have hl0 : 0 < L.length := by omega
 have hk := kdAt_cell hr hok (i := 0) hl0
 have hp := posAt_cell hr (i := 0) hl0
 have hk35 := kdAt_lt hok (i := 0) hl0
 simp only [Nat.zero_mul,Nat.add_zero] at hk hp
 have HR : Hid (RW w bl off L) := hr
 have HK : Hid (∀ t ∈ L,okTok t) := hok
 have e1 : ((nameK (kdAt L 0)).toList == [108,101,116]) = false := by rw [nk3 hk35];simpa using h3
 have e2 : ((nameK (kdAt L 0)).toList == [105,102]) = false := by rw [nk6 hk35];simpa using h6
 have e3 : ((nameK (kdAt L 0)).toList == [102,117,110]) = false := by rw [nk9 hk35];simpa using h9
 have hpi := posAt_cell hr (i := i) (by omega)
 have hti := txtAt_cell hr (i := i) (by omega)
 obtain ⟨nm,hnm⟩ : ∃ nm,nameK (kdAt L 0) = nm := ⟨_,rfl⟩
 rw [hnm] at hk e1 e2 e3
 have HA : Hid (TreeOK (cutL L 0 i) a) := ha
 have HB : Hid (TreeOK (L.drop (i + 1)) b) := hb
 have HZ : Hid (∀ d,d < c -> spl (clsN d) L = 0) := hz
 have HI : Hid (spl (clsN c) L = i) := hi
 obtain ⟨p0,hp0⟩ : ∃ p0 : Int,((tokAt L 0).p : Int) = p0 := ⟨_,rfl⟩
 obtain ⟨pi,hpi'⟩ : ∃ pi : Int,((tokAt L i).p : Int) = pi := ⟨_,rfl⟩
 obtain ⟨ti,hti'⟩ : ∃ ti : ByteArray,(tokAt L i).t = ti := ⟨_,rfl⟩
 rw [hp0] at hp
 rw [hpi'] at hpi ⊢
 rw [hti'] at hti ⊢
 clear hr hok hi hz h3 h6 h9 hnm ha hb hp0 hpi' hti' hk35
 go_enter Tryz.func69,Tryz.ntmps69
 go_wp2_with fail
 go_loopw [12] (fun v wr => ∃ k : Nat,k <= c /\ v = .int .i64 k /\ Below (w.heap.size + 2) ((w.alloc (treeB p0)).alloc clsO) wr) (fun v _ => 4 - (intOf v).toNat)
 case atStart => exact ⟨0,Nat.zero_le _,rfl,Below.refl _ _⟩
 case round =>
  obtain ⟨k,hkc,rfl,hbw⟩ := hrel
  have hsw := hbw.size
  simp only [World.size_alloc] at hsw
  have hw0 : Below w.heap.size w wr := (((Below.refl w.heap.size w).alloc (Nat.le_refl _) _).alloc (by simp) _).trans (hbw.mono (by omega))
  have HRR : Hid (RW wr bl off L) := HR.out.below hw0 hbl
  have hck := cls_cell w p0 hbw k (by omega)
  have hblk0 := blk_below (blk_below (blk_new w (treeB p0)) ((Below.refl _ _).alloc (Nat.le_refl _) clsO) (by simp)) hbw (by omega)
  have HBK : Hid (wr.heap[w.heap.size]? = some (treeB p0)) := hblk0
  clear hblk0
  by_cases hkk : k < c
  ·have HZK : Hid (spl (clsN k) L = 0) := HZ.out k hkk
   go_wp2_with (go_at_call 118;refine (split_cls L (c := k) (by omega) hL hl0 hcap (by omega) HRR.out HK.out HZK.out).mono ?_;rintro _ w1 ⟨rfl,hb1⟩)
   go_roundw
   case rel => exact ⟨k + 1,by omega,by go_num,hbw.trans (hb1.mono (by omega))⟩
   case measure => simp [intOf];omega
  ·have hkc' : k = c := by omega
   subst hkc'
   have ecl : ((clsB k).toList == [59]) = false := clsB_semi (by omega) |>.trans (by simp;omega)
   clear hc
   obtain ⟨cb,hcb⟩ : ∃ cb,clsB k = cb := ⟨_,rfl⟩
   have HCB : Hid (clsB k = cb) := hcb
   rw [hcb] at ecl hck
   have hpi2 := (hw0.cell (p := ⟨bl,off + i * 3 + 2,none⟩) (by show bl < _;omega)).trans hpi
   have hti2 := (hw0.cell (p := ⟨bl,off + i * 3 + 1,none⟩) (by show bl < _;omega)).trans hti
   clear hcb
   go_wp2_with (first
    | (go_at_call 118;refine (split_cls' L (c := k) HCB.out (by omega) hL hl0 hcap (by omega) HRR.out HK.out HI.out).mono ?_;rintro _ w1 ⟨rfl,hb1⟩;have hs1 := hb1.size;have HR1 : Hid (RW w1 bl off L) := HRR.out.below hb1 (by omega);have hpi3 := (hb1.cell (p := ⟨bl,off + i * 3 + 2,none⟩) (by show bl < _;omega)).trans hpi2;have hti3 := (hb1.cell (p := ⟨bl,off + i * 3 + 1,none⟩) (by show bl < _;omega)).trans hti2;have hck3 := (hb1.cell (p := ⟨w.heap.size + 1,k,none⟩) (by show w.heap.size + 1 < _;omega)).trans hck;have hblk := blk_below HBK.out hb1 (by omega);have hc0 := blk_at hblk 0 rfl;have hc1 := blk_at hblk 1 rfl;have hc3 := blk_at hblk 3 rfl;have hf0 := blk_at_f hblk 0;have hf1 := blk_at_f hblk 1;have hf3 := blk_at_f hblk 3)
    | (go_at_call 69;refine (HA.out _ bl _ _ _ (by rw [cutL_len _ (by omega) (by omega)];omega) (by rw [cutL_len _ (by omega) (by omega)];omega) (by rw [cutL_len _ (by omega) (by omega)];omega) (by simp only [size_setCell];omega) (by exact (HR1.out.below (Sole.below ((((Sole.refl w.heap.size w1).set _).set _).set _)) hbl).cut 0 i) (ok_cut HK.out 0 i)).mono ?_;rintro _ w2 ⟨v2,rfl,ht2,hb2⟩;obtain ⟨p2,rfl,hp2,hp2'⟩ := ht2.ptr;obtain ⟨hs2,hb12,hh12⟩ := sole_then hb2 ((((Sole.refl w.heap.size w1).set _).set _).set _) (by omega);have hblk2 := blk_below (block_setCell (block_setCell (block_setCell hblk 1 _) 0 _) 3 _) hb2 (by simp only [size_setCell];omega);have HR2 : Hid (RW w2 bl off L) := HR1.out.below hb12 hbl;simp only [size_setCell] at hp2)
    | (go_at_call 69;refine (HB.out _ bl _ _ _ (by rw [List.length_drop]) (by rw [List.length_drop];omega) (by rw [List.length_drop];omega) (by omega) (by exact HR2.out.drop (i + 1)) (ok_drop HK.out (i + 1))).mono ?_;rintro _ w3 ⟨v3,rfl,ht3,hb3⟩;obtain ⟨p3,rfl,hp3,hp3'⟩ := ht3.ptr;have hs3' := hb3.size;have hblk3 := blk_below hblk2 hb3 (by omega);have hc5 := blk_cell hblk3 5 rfl;have hf5 := blk_free hblk3 5))
   go_ret
   refine ⟨_,rfl,ht_fin (ps := [.pointer (some ⟨p2,0,none⟩),.pointer (some ⟨p3,0,none⟩)]) hblk3 (Nat.le_refl _) rfl (Or.inl ⟨rfl,_,_,rfl⟩) (.cons ((ht2.keep (belowHeld hb3 _)).wide (by simp only [size_setCell];omega) (by omega)) (.cons (ht3.wide (by omega) (Nat.le_refl _)) .nil)),?_⟩
   exact ((((hw0.trans (hb1.mono (by omega))).trans hb12)).trans (hb3.mono (by omega))).alloc (by omega) _ |>.setCell (Nat.le_refl _) _
theorem nlen_cls : ((#[.string ⟨#[59]⟩,.string ⟨#[61]⟩,.string ⟨#[43]⟩,.string ⟨#[42]⟩] : Array Value)).size = 4 := rfl
set_option maxRecDepth 100000 in
theorem tree_ng {L : List Tok} {a : G} (h0 : kdAt L 0 = 31) (hz : ∀ d,d < 4 -> spl (clsN d) L = 0) (hl : 1 < L.length) (ha : TreeOK (L.drop 1) a) : TreeOK L (.nd f_neg (tokAt L 0).p 0 f_0 [] [a]) := by
 have h3 : kdAt L 0 ≠ 3 := by omega
 have h6 : kdAt L 0 ≠ 6 := by omega
 have h9 : kdAt L 0 ≠ 9 := by omega
 intro n bl off cap w hn hL hcap hbl hr hok
 subst hn
 have hl0 : 0 < L.length := by omega
 have hk := kdAt_cell hr hok (i := 0) hl0
 have hp := posAt_cell hr (i := 0) hl0
 have hk35 := kdAt_lt hok (i := 0) hl0
 simp only [Nat.zero_mul,Nat.add_zero] at hk hp
 have HR : Hid (RW w bl off L) := hr
 have HK : Hid (∀ t ∈ L,okTok t) := hok
 have e1 : ((nameK (kdAt L 0)).toList == [108,101,116]) = false := by rw [nk3 hk35];simpa using h3
 have e2 : ((nameK (kdAt L 0)).toList == [105,102]) = false := by rw [nk6 hk35];simpa using h6
 have e3 : ((nameK (kdAt L 0)).toList == [102,117,110]) = false := by rw [nk9 hk35];simpa using h9
 have e4 : ((nameK (kdAt L 0)).toList == [45]) = true := by rw [nk31 hk35];simp;omega
 have e5 : ((nameK (kdAt L 0)).toList == [110,111,116]) = false := by rw [nk10 hk35];simp;omega
 obtain ⟨nm,hnm⟩ : ∃ nm,nameK (kdAt L 0) = nm := ⟨_,rfl⟩
 rw [hnm] at hk e1 e2 e3 e4 e5
 obtain ⟨p0,hp0⟩ : ∃ p0 : Int,((tokAt L 0).p : Int) = p0 := ⟨_,rfl⟩
 have HA : Hid (TreeOK (L.drop 1) a) := ha
 have HZ : Hid (∀ d,d < 4 -> spl (clsN d) L = 0) := hz
 rw [hp0] at hp ⊢
 clear hr hok hz hnm ha hp0 hk35
 clear h0
 clear h3 h6 h9
 go_enter Tryz.func69,Tryz.ntmps69
 go_wp2_with fail
 go_loopw [12] (fun v wr => ∃ k : Nat,k <= 4 /\ v = .int .i64 k /\ Below (w.heap.size + 2) ((w.alloc (treeB p0)).alloc clsO) wr) (fun v _ => 4 - (intOf v).toNat)
 case atStart => exact ⟨0,by omega,rfl,Below.refl _ _⟩
 case round =>
  obtain ⟨k,hkc,rfl,hbw⟩ := hrel
  have hsw := hbw.size
  simp only [World.size_alloc] at hsw
  have hw0 : Below w.heap.size w wr := (((Below.refl w.heap.size w).alloc (Nat.le_refl _) _).alloc (by simp) _).trans (hbw.mono (by omega))
  have HRR : Hid (RW wr bl off L) := HR.out.below hw0 hbl
  have hblk0 := blk_below (blk_below (blk_new w (treeB p0)) ((Below.refl _ _).alloc (Nat.le_refl _) clsO) (by simp)) hbw (by omega)
  have HBK : Hid (wr.heap[w.heap.size]? = some (treeB p0)) := hblk0
  clear hblk0
  by_cases hkk : k < 4
  ·have HZK : Hid (spl (clsN k) L = 0) := HZ.out k hkk
   have hck := cls_cell w p0 hbw k (by omega)
   go_wp2_with (go_at_call 118;refine (split_cls L (c := k) (by omega) hL hl0 hcap (by omega) HRR.out HK.out HZK.out).mono ?_;rintro _ w1 ⟨rfl,hb1⟩)
   go_roundw
   case rel => exact ⟨k + 1,by omega,by go_num,hbw.trans (hb1.mono (by omega))⟩
   case measure => simp [intOf];omega
  ·have hkc' : k = 4 := by omega
   subst hkc'
   have hk' := (hw0.cell (p := ⟨bl,off,none⟩) (by show bl < _;omega)).trans hk
   have hc0 := blk_at HBK.out 0 rfl
   have hf0 := blk_at_f HBK.out 0
   go_wp2_with (go_at_call 69;refine (HA.out _ bl _ _ _ (by rw [List.length_drop]) (by rw [List.length_drop];omega) (by rw [List.length_drop];omega) (by simp only [size_setCell];omega) (by exact (HRR.out.below (Sole.below (((Sole.refl w.heap.size wr).set _).set _)) hbl).drop 1) (ok_drop HK.out 1)).mono ?_;rintro _ w2 ⟨v2,rfl,ht2,hb2⟩;obtain ⟨p2,rfl,hp2,hp2'⟩ := ht2.ptr;obtain ⟨hs2,hb12,hh12⟩ := sole_then hb2 (((Sole.refl w.heap.size wr).set _).set _) (by omega);have hblk2 := blk_below (block_setCell (block_setCell (HBK.out) 0 _) 0 _) hb2 (by simp only [size_setCell];omega);have hc5 := blk_cell hblk2 5 rfl;have hf5 := blk_free hblk2 5;simp only [size_setCell] at hp2)
   go_ret
   refine ⟨_,rfl,ht_fin (ps := [.pointer (some ⟨p2,0,none⟩)]) hblk2 (Nat.le_refl _) rfl (Or.inl ⟨rfl,_,_,rfl⟩) (.cons (ht2.wide (by simp only [size_setCell];omega) (Nat.le_refl _)) .nil),?_⟩
   exact (hw0.trans hb12).alloc (by omega) _ |>.setCell (Nat.le_refl _) _
set_option maxRecDepth 100000 in
theorem tree_nt {L : List Tok} {a : G} (h0 : kdAt L 0 = 10) (hz : ∀ d,d < 4 -> spl (clsN d) L = 0) (hl : 1 < L.length) (ha : TreeOK (L.drop 1) a) : TreeOK L (.nd f_not (tokAt L 0).p 0 f_0 [] [a]) := by
 have h3 : kdAt L 0 ≠ 3 := by omega
 have h6 : kdAt L 0 ≠ 6 := by omega
 have h9 : kdAt L 0 ≠ 9 := by omega
 intro n bl off cap w hn hL hcap hbl hr hok
 subst hn
 have hl0 : 0 < L.length := by omega
 have hk := kdAt_cell hr hok (i := 0) hl0
 have hp := posAt_cell hr (i := 0) hl0
 have hk35 := kdAt_lt hok (i := 0) hl0
 simp only [Nat.zero_mul,Nat.add_zero] at hk hp
 have HR : Hid (RW w bl off L) := hr
 have HK : Hid (∀ t ∈ L,okTok t) := hok
 have e1 : ((nameK (kdAt L 0)).toList == [108,101,116]) = false := by rw [nk3 hk35];simpa using h3
 have e2 : ((nameK (kdAt L 0)).toList == [105,102]) = false := by rw [nk6 hk35];simpa using h6
 have e3 : ((nameK (kdAt L 0)).toList == [102,117,110]) = false := by rw [nk9 hk35];simpa using h9
 have e4 : ((nameK (kdAt L 0)).toList == [45]) = false := by rw [nk31 hk35];simp;omega
 have e5 : ((nameK (kdAt L 0)).toList == [110,111,116]) = true := by rw [nk10 hk35];simp;omega
 obtain ⟨nm,hnm⟩ : ∃ nm,nameK (kdAt L 0) = nm := ⟨_,rfl⟩
 rw [hnm] at hk e1 e2 e3 e4 e5
 obtain ⟨p0,hp0⟩ : ∃ p0 : Int,((tokAt L 0).p : Int) = p0 := ⟨_,rfl⟩
 have HA : Hid (TreeOK (L.drop 1) a) := ha
 have HZ : Hid (∀ d,d < 4 -> spl (clsN d) L = 0) := hz
 rw [hp0] at hp ⊢
 clear hr hok hz hnm ha hp0 hk35
 clear h0
 clear h3 h6 h9
 go_enter Tryz.func69,Tryz.ntmps69
 go_wp2_with fail
 go_loopw [12] (fun v wr => ∃ k : Nat,k <= 4 /\ v = .int .i64 k /\ Below (w.heap.size + 2) ((w.alloc (treeB p0)).alloc clsO) wr) (fun v _ => 4 - (intOf v).toNat)
 case atStart => exact ⟨0,by omega,rfl,Below.refl _ _⟩
 case round =>
  obtain ⟨k,hkc,rfl,hbw⟩ := hrel
  have hsw := hbw.size
  simp only [World.size_alloc] at hsw
  have hw0 : Below w.heap.size w wr := (((Below.refl w.heap.size w).alloc (Nat.le_refl _) _).alloc (by simp) _).trans (hbw.mono (by omega))
  have HRR : Hid (RW wr bl off L) := HR.out.below hw0 hbl
  have hblk0 := blk_below (blk_below (blk_new w (treeB p0)) ((Below.refl _ _).alloc (Nat.le_refl _) clsO) (by simp)) hbw (by omega)
  have HBK : Hid (wr.heap[w.heap.size]? = some (treeB p0)) := hblk0
  clear hblk0
  by_cases hkk : k < 4
  ·have HZK : Hid (spl (clsN k) L = 0) := HZ.out k hkk
   have hck := cls_cell w p0 hbw k (by omega)
   go_wp2_with (go_at_call 118;refine (split_cls L (c := k) (by omega) hL hl0 hcap (by omega) HRR.out HK.out HZK.out).mono ?_;rintro _ w1 ⟨rfl,hb1⟩)
   go_roundw
   case rel => exact ⟨k + 1,by omega,by go_num,hbw.trans (hb1.mono (by omega))⟩
   case measure => simp [intOf];omega
  ·have hkc' : k = 4 := by omega
   subst hkc'
   have hk' := (hw0.cell (p := ⟨bl,off,none⟩) (by show bl < _;omega)).trans hk
   have hc0 := blk_at HBK.out 0 rfl
   have hf0 := blk_at_f HBK.out 0
   go_wp2_with (go_at_call 69;refine (HA.out _ bl _ _ _ (by rw [List.length_drop]) (by rw [List.length_drop];omega) (by rw [List.length_drop];omega) (by simp only [size_setCell];omega) (by exact (HRR.out.below (Sole.below ((Sole.refl w.heap.size wr).set _)) hbl).drop 1) (ok_drop HK.out 1)).mono ?_;rintro _ w2 ⟨v2,rfl,ht2,hb2⟩;obtain ⟨p2,rfl,hp2,hp2'⟩ := ht2.ptr;obtain ⟨hs2,hb12,hh12⟩ := sole_then hb2 ((Sole.refl w.heap.size wr).set _) (by omega);have hblk2 := blk_below (block_setCell (HBK.out) 0 _) hb2 (by simp only [size_setCell];omega);have hc5 := blk_cell hblk2 5 rfl;have hf5 := blk_free hblk2 5;simp only [size_setCell] at hp2)
   go_ret
   refine ⟨_,rfl,ht_fin (ps := [.pointer (some ⟨p2,0,none⟩)]) hblk2 (Nat.le_refl _) rfl (Or.inl ⟨rfl,_,_,rfl⟩) (.cons (ht2.wide (by simp only [size_setCell];omega) (Nat.le_refl _)) .nil),?_⟩
   exact (hw0.trans hb12).alloc (by omega) _ |>.setCell (Nat.le_refl _) _
set_option maxRecDepth 100000 in
theorem tree_ca {L : List Tok} {a : G} (h3 : kdAt L 0 ≠ 3) (h6 : kdAt L 0 ≠ 6) (h9 : kdAt L 0 ≠ 9) (h31 : kdAt L 0 ≠ 31) (h10 : kdAt L 0 ≠ 10) (hz : ∀ d,d < 4 -> spl (clsN d) L = 0) (hl0 : 0 < L.length) (ha : SubOK 119 (tokAt L 0).p L a) : TreeOK L a := by
 have hl := hl0
 intro n bl off cap w hn hL hcap hbl hr hok
 subst hn
 have hl0 : 0 < L.length := by omega
 have hk := kdAt_cell hr hok (i := 0) hl0
 have hp := posAt_cell hr (i := 0) hl0
 have hk35 := kdAt_lt hok (i := 0) hl0
 simp only [Nat.zero_mul,Nat.add_zero] at hk hp
 have HR : Hid (RW w bl off L) := hr
 have HK : Hid (∀ t ∈ L,okTok t) := hok
 have e1 : ((nameK (kdAt L 0)).toList == [108,101,116]) = false := by rw [nk3 hk35];simpa using h3
 have e2 : ((nameK (kdAt L 0)).toList == [105,102]) = false := by rw [nk6 hk35];simpa using h6
 have e3 : ((nameK (kdAt L 0)).toList == [102,117,110]) = false := by rw [nk9 hk35];simpa using h9
 have e4 : ((nameK (kdAt L 0)).toList == [45]) = false := by rw [nk31 hk35];simp;omega
 have e5 : ((nameK (kdAt L 0)).toList == [110,111,116]) = false := by rw [nk10 hk35];simp;omega
 obtain ⟨nm,hnm⟩ : ∃ nm,nameK (kdAt L 0) = nm := ⟨_,rfl⟩
 rw [hnm] at hk e1 e2 e3 e4 e5
 obtain ⟨p0,hp0⟩ : ∃ p0 : Int,((tokAt L 0).p : Int) = p0 := ⟨_,rfl⟩
 have HA : Hid (SubOK 119 p0 L a) := (by rw [<- hp0];exact ha)
 have HZ : Hid (∀ d,d < 4 -> spl (clsN d) L = 0) := hz
 rw [hp0] at hp
 clear hr hok hz hnm ha hp0 hk35
 clear h31 h10
 clear h3 h6 h9
 go_enter Tryz.func69,Tryz.ntmps69
 go_wp2_with fail
 go_loopw [12] (fun v wr => ∃ k : Nat,k <= 4 /\ v = .int .i64 k /\ Below (w.heap.size + 2) ((w.alloc (treeB p0)).alloc clsO) wr) (fun v _ => 4 - (intOf v).toNat)
 case atStart => exact ⟨0,by omega,rfl,Below.refl _ _⟩
 case round =>
  obtain ⟨k,hkc,rfl,hbw⟩ := hrel
  have hsw := hbw.size
  simp only [World.size_alloc] at hsw
  have hw0 : Below w.heap.size w wr := (((Below.refl w.heap.size w).alloc (Nat.le_refl _) _).alloc (by simp) _).trans (hbw.mono (by omega))
  have HRR : Hid (RW wr bl off L) := HR.out.below hw0 hbl
  have hblk0 := blk_below (blk_below (blk_new w (treeB p0)) ((Below.refl _ _).alloc (Nat.le_refl _) clsO) (by simp)) hbw (by omega)
  have HBK : Hid (wr.heap[w.heap.size]? = some (treeB p0)) := hblk0
  clear hblk0
  by_cases hkk : k < 4
  ·have HZK : Hid (spl (clsN k) L = 0) := HZ.out k hkk
   have hck := cls_cell w p0 hbw k (by omega)
   go_wp2_with (go_at_call 118;refine (split_cls L (c := k) (by omega) hL hl0 hcap (by omega) HRR.out HK.out HZK.out).mono ?_;rintro _ w1 ⟨rfl,hb1⟩)
   go_roundw
   case rel => exact ⟨k + 1,by omega,by go_num,hbw.trans (hb1.mono (by omega))⟩
   case measure => simp [intOf];omega
  ·have hkc' : k = 4 := by omega
   subst hkc'
   have hk' := (hw0.cell (p := ⟨bl,off,none⟩) (by show bl < _;omega)).trans hk
   have hc0 := blk_at HBK.out 0 rfl
   have hf0 := blk_at_f HBK.out 0
   go_wp2_with (go_at_call 119;refine (HA.out _ bl off cap w.heap.size _ rfl hL hcap hbl (by omega) HBK.out HRR.out HK.out).mono ?_;rintro _ w2 ⟨v2,rfl,ht2,hb2⟩;obtain ⟨p2,rfl,hp2,hp2'⟩ := ht2.ptr)
   go_ret
   exact ⟨_,rfl,ht2,hw0.trans hb2⟩
def HTa (w : World) (lo : Nat) (row : Option Nat) : List Value -> List G -> Prop
 | [],[] => True
 | v :: vs,g :: gs => (∃ B n,lo <= B /\ n <= w.heap.size /\ (∀ r,row = some r -> r < B \/ n <= r) /\ HT w B n v g) /\ HTa w lo row vs gs
 | _,_ => False
theorem HTa.len {w : World} {lo : Nat} {row : Option Nat} : ∀ {vs : List Value} {gs : List G},HTa w lo row vs gs -> vs.length = gs.length := by
 intro vs
 induction vs with
 | nil => intro gs h;cases gs with | nil => rfl | cons => exact h.elim
 | cons v vs ih => intro gs h;cases gs with | nil => exact h.elim | cons g gs => simp [ih h.2]
theorem HTa.all {w : World} {lo : Nat} {row : Option Nat} : ∀ {vs : List Value} {gs : List G},HTa w lo row vs gs -> HTs w lo w.heap.size vs gs := by
 intro vs
 induction vs with
 | nil => intro gs h;cases gs with | nil => exact .nil | cons => exact h.elim
 | cons v vs ih =>
   intro gs h
   cases gs with
   | nil => exact h.elim
   | cons g gs =>
     obtain ⟨⟨B,n,h1,h2,_,h4⟩,h5⟩ := h
     exact .cons (h4.wide h1 h2) (ih h5)
theorem HTa.snoc {w : World} {lo : Nat} {row : Option Nat} {v : Value} {g : G} (hv : ∃ B n,lo <= B /\ n <= w.heap.size /\ (∀ r,row = some r -> r < B \/ n <= r) /\ HT w B n v g) : ∀ {vs : List Value} {gs : List G},HTa w lo row vs gs -> HTa w lo row (vs ++ [v]) (gs ++ [g]) := by
 intro vs
 induction vs with
 | nil => intro gs h;cases gs with | nil => exact ⟨hv,trivial⟩ | cons => exact h.elim
 | cons u vs ih =>
   intro gs h
   cases gs with
   | nil => exact h.elim
   | cons x gs => exact ⟨h.1,ih h.2⟩
theorem HTa.keep {w w' : World} {lo : Nat} {row row' : Option Nat} (hsz : w.heap.size <= w'.heap.size) (hb : ∀ b,lo <= b -> b < w.heap.size -> row ≠ some b -> w'.heap[b]? = w.heap[b]?) (hr : row' = row \/ ∃ r,row' = some r /\ w.heap.size <= r) :
 ∀ {vs : List Value} {gs : List G},HTa w lo row vs gs -> HTa w' lo row' vs gs := by
 intro vs
 induction vs with
 | nil => intro gs h;cases gs with | nil => trivial | cons => exact h.elim
 | cons v vs ih =>
   intro gs h
   cases gs with
   | nil => exact h.elim
   | cons g gs =>
     obtain ⟨⟨B,n,h1,h2,h3,h4⟩,h5⟩ := h
     refine ⟨⟨B,n,h1,by omega,fun r hrr => ?_,h4.keep fun b hB hn => hb b (by omega) (by omega) fun hrow => ?_⟩,ih h5⟩
     ·rcases hr with hr | ⟨r',hr,hr2⟩
      ·exact h3 r (by rw [<- hr];exact hrr)
      ·rw [hr] at hrr;simp at hrr;omega
     ·rcases h3 b hrow with h | h <;> omega
structure KidsAt (w : World) (base : Nat) (kv : Value) (ps : List Value) (gs : List G) : Prop where
 own : w.ownsRow base 55 1 kv ps.length ps
 ht : HTa w base kv.ownBlock ps gs
theorem KidsAt.none (w : World) (base : Nat) : KidsAt w base (.slice none 0 0) [] [] := ⟨World.ownsRow_nil _ _ _ _,trivial⟩
structure Only (bt base : Nat) (w w' : World) : Prop where
 below : Below bt w w'
 rest : ∀ b,b < base -> b ≠ bt -> w'.heap[b]? = w.heap[b]?
theorem Only.refl (bt base : Nat) (w : World) : Only bt base w w := ⟨Below.refl _ _,fun _ _ _ => rfl⟩
theorem Only.trans {bt base : Nat} {w w1 w2 : World} (h : Only bt base w w1) (h2 : Only bt base w1 w2) : Only bt base w w2 :=
 ⟨h.below.trans h2.below,fun b h1 h3 => (h2.rest b h1 h3).trans (h.rest b h1 h3)⟩
theorem Only.of {bt base : Nat} {w w1 : World} (h : Below base w w1) (hb : bt <= base) : Only bt base w w1 := ⟨h.mono hb,fun b h1 _ => h.block b h1⟩
theorem Only.sole {bt base : Nat} {w w1 : World} (h : Sole bt w w1) : Only bt base w w1 := ⟨h.1,fun b _ h2 => h.2.2 b h2⟩
theorem kids_step {w1 w3 : World} {base bt B1 : Nat} {kv kv' v : Value} {ps : List Value} {gs : List G} {g : G} {o : Obj} (hk : KidsAt w1 base kv ps gs) (hbt : bt < base) (hbase : base <= B1)
 (hrB : ∀ r,kv.ownBlock = some r -> r < B1) (ht : HT w1 B1 w1.heap.size v g)
 (hown : w3.ownsRow base 55 1 kv' (ps.length + 1) (ps ++ [v])) (hg : (w1.alloc o).grownBy w3 kv.ownBlock) (hrow : kv'.ownBlock = kv.ownBlock \/ kv'.ownBlock = some (w1.alloc o).heap.size) (u : Value) :
 KidsAt (w3.setCell ⟨bt,5,none⟩ u) base kv' (ps ++ [v]) (gs ++ [g]) /\ Only bt base w1 (w3.setCell ⟨bt,5,none⟩ u) /\ w1.heap.size <= w3.heap.size := by
 have hs3 := hg.size
 rw [World.size_alloc] at hs3
 obtain ⟨pb,_,hp1,hp2⟩ := ht.ptr
 have hrl : ∀ r,kv.ownBlock = some r -> base <= r /\ r < w1.heap.size := hk.own.lt
 have hh : ∀ b,b < w1.heap.size -> b ≠ bt -> kv.ownBlock ≠ some b -> (w3.setCell ⟨bt,5,none⟩ u).heap[b]? = w1.heap[b]? := fun b h1 h2 h3 => by
  rw [Below.heap_setCell _ _ _ _ h2,hg.block b (by rw [World.size_alloc];omega) (fun h => h3 h.symm),Below.heap_alloc _ _ _ (by omega)]
 refine ⟨⟨?_,?_⟩,⟨⟨?_,?_,?_,?_,?_⟩,?_⟩,by omega⟩
 ·rw [List.length_append];exact ownsRow_setCell_below hown (by exact hbt) u
 ·refine HTa.snoc ⟨B1,w1.heap.size,by omega,by rw [size_setCell];omega,fun r hr => ?_,ht.keep fun b h1 h2 => ?_⟩ (hk.ht.keep (by rw [size_setCell];omega) (fun b h1 h2 h3 => hh b h2 (by omega) h3) ?_)
  ·rcases hrow with h | h
   ·rw [h] at hr;exact Or.inl (hrB r hr)
   ·rw [h,World.size_alloc] at hr;simp at hr;omega
  ·exact hh b h2 (by omega) (fun h => by have := hrB b h;omega)
  ·rcases hrow with h | h
   ·exact Or.inl h
   ·exact Or.inr ⟨_,h,by rw [World.size_alloc];omega⟩
 ·exact hg.os
 ·exact hg.tape
 ·exact hg.output
 ·rw [size_setCell];omega
 ·intro b h1;exact hh b (by omega) (by omega) (fun h => by have := hrl b h;omega)
 ·intro b h1 h2;exact hh b (by omega) h2 (fun h => by have := hrl b h;omega)
theorem KidsAt.sole {w w' : World} {base bt : Nat} {kv : Value} {ps : List Value} {gs : List G} (hk : KidsAt w base kv ps gs) (h : Sole bt w w') (hbt : bt < base) : KidsAt w' base kv ps gs := by
 refine ⟨⟨hk.own.1,?_⟩,hk.ht.keep (by rw [h.2.1];exact Nat.le_refl _) (fun b h1 _ _ => h.2.2 b (by omega)) (.inl rfl)⟩
 rcases hk.own.2 with h0 | ⟨g,cap,cur,h1,h2,h3,h4⟩
 ·exact .inl h0
 ·exact .inr ⟨g,cap,cur,h1,h2,by rw [h.2.2 g (by omega)];exact h3,h4⟩
theorem kids_done {w : World} {base bt B : Nat} {kv : Value} {ps : List Value} {gs : List G} {form name : ByteArray} {pos num : Int} (hk : KidsAt w base kv ps gs) (hbt : bt < base) (hB : B <= bt)
 (hblk : w.heap[bt]? = some (.cells #[.string form,.int .i64 pos,.int .i64 num,.string name,.slice none 0 0,kv] 205 (0,0))) :
 HT w B w.heap.size (.pointer (some ⟨bt,0,none⟩)) (.nd form pos num name [] gs) :=
 .nd hB (lt_of_block hblk) hblk (Or.inl ⟨rfl,_,_,rfl⟩) ((rowAt_own hk.own).wide (by omega) (Nat.le_refl _)) (hk.ht.all |> fun h => HTs.wide h (by omega) (Nat.le_refl _))
theorem opN_bound (L : List Tok) : ∀ (m i f : Nat),f < i -> i + m <= L.length + 1 -> ∀ q ∈ opN L m i f,q.1 < q.2 /\ q.2 <= L.length := by
 intro m
 induction m with
 | zero => intro i f _ _ q hq;simp [opN] at hq
 | succ m ih =>
   intro i f h1 h2 q hq
   rw [opN] at hq
   split at hq
   ·rcases List.mem_cons.1 hq with h | h
    ·subst h;exact ⟨h1,by show i <= _;omega⟩
    ·exact ih (i + 1) i (by omega) (by omega) q h
   ·exact ih (i + 1) f (by omega) (by omega) q hq
theorem opL_bound (L : List Tok) : ∀ q ∈ opL L,q.1 < q.2 /\ q.2 <= L.length := opN_bound L L.length 1 0 (by omega) (by omega)
theorem opN_len (L : List Tok) : ∀ (m i f : Nat),(opN L m i f).length <= m := by
 intro m
 induction m with
 | zero => intro i f;simp [opN]
 | succ m ih =>
   intro i f
   rw [opN]
   split
   ·simp only [List.length_cons];have := ih (i + 1) i;omega
   ·have := ih (i + 1) f;omega
end Go.Proofs.YtmkdoejpgkgpbaaGreatDoor
