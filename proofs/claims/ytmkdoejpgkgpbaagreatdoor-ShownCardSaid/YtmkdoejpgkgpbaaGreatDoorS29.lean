import Derived.Test.YtmkdoejpgkgpbaaGreatDoorS28
import Derived.Deep.AppendLies
import Derived.Deep.RegionLaw
import Derived.Deep.RegionHeld3
import Derived.Laws.OwnMore
set_option linter.unusedVariables false
set_option linter.unusedSimpArgs false
set_option maxHeartbeats 20000000
namespace Go.Proofs.YtmkdoejpgkgpbaaGreatDoor
open Go.RowKit Sl
abbrev zw : Obj := .cells #[.int .i64 0,.int .i64 0,.int .i64 0,.string ⟨#[]⟩] 294 (0,0)
theorem take_at {w : World} {p lb cap : Nat} {N : Int} {L : List Tok} {S : PF} {a0 a1 a2 : Int} {a3 : ByteArray} (hcv : cwV (cwAt L S.next) = .agg #[.int .i64 a0,.int .i64 a1,.int .i64 a2,.string a3]) (hL : L.length <= 100000) (hS : S.next <= 1000000) (hblk : w.heap[p]? = some (pfB lb L.length cap N S)) (hcap : L.length <= cap) (hcw : CW w lb L) (hlb : lb < p) :
 Calls Tryz.prog 254 #[.pointer (some ⟨p,0,none⟩)] w fun e w' => e = .returned (.agg #[.int .i64 a0,.int .i64 a1,.int .i64 a2,.string a3]) /\ w'.heap[p]? = some (pfB lb L.length cap N S.take) /\ Only p w.heap.size w w' := by
 rw [<- hcv];exact take_any hL hS hblk hcap hcw hlb
theorem CW.only {w w' : World} {p B lb : Nat} {L : List Tok} (h : CW w lb L) (ho : Only p B w w') (hlb : lb < p) : CW w' lb L := h.below ho.below hlb
theorem want_ret {W : World} {tmps : Array Value} {r : Nat} {x0 x1 x2 x3 : Value} {Q : Ending -> World -> Prop} (ht : tmps.getD 4 undef = .pointer (some ⟨r,0,none⟩)) (hb : W.heap[r]? = some (.cells #[x0,x1,x2,x3] 294 (0,0))) (hq : Q (.returned (.agg #[x0,x1,x2,x3])) W) :
 bodyPost Tryz.prog Tryz.f177 Q Exit.ret { tmps := tmps,defers := [] } W := by
 have c0 := blk_at hb 0 rfl
 have c1 := blk_at hb 1 rfl
 have c2 := blk_at hb 2 rfl
 have c3 := blk_at hb 3 rfl
 simp only [List.getElem_toArray,List.getElem_cons_zero,List.getElem_cons_succ] at c0 c1 c2 c3
 have ht' : tmps[4]?.getD undef = .pointer (some ⟨r,0,none⟩) := by simpa using ht
 exact bodyPost_ret (v := .agg #[x0,x1,x2,x3]) (by simp [results,Tryz.results177,go_sem,ht',c0,c1,c2,c3]) rfl hq
def PF.want (L : List Tok) (k : Nat) (S : PF) : PF := if (cwAt L S.next).k = k then S.take else (S.fail L 4).take
def wantW (L : List Tok) (k : Nat) (S : PF) : Tok := if (cwAt L S.next).k = k then cwAt L S.next else cwAt L L.length
set_option maxRecDepth 100000 in
theorem want_any {w : World} {p lb cap k : Nat} {N : Int} {L : List Tok} {S : PF} (hL : L.length <= 100000) (hS : S.next <= 1000000) (hblk : w.heap[p]? = some (pfB lb L.length cap N S)) (hcap : L.length <= cap) (hcw : CW w lb L) (hlb : lb < p) :
 Calls Tryz.prog 177 #[.pointer (some ⟨p,0,none⟩),.int .i64 k] w fun e w' => e = .returned (cwV (wantW L k S)) /\ w'.heap[p]? = some (pfB lb L.length cap N (S.want L k)) /\ Only p w.heap.size w w' := by
 have hlt := lt_of_block hblk
 have HBK : Hid (w.heap[p]? = some (pfB lb L.length cap N S)) := hblk
 have HCW : Hid (CW w lb L) := hcw
 obtain ⟨kk,hkk⟩ : ∃ kk,(cwAt L S.next).k = kk := ⟨_,rfl⟩
 have HKK : Hid ((cwAt L S.next).k = kk) := hkk
 unfold wantW PF.want
 rw [hkk]
 clear hblk hcw hkk
 by_cases hk : kk = k
 ·subst hk
  rw [if_pos rfl,if_pos rfl]
  obtain ⟨a0,a1,a2,a3,hcv,hx0,hx1⟩ := cwV_split (cwAt L S.next)
  have HCV : Hid (cwV (cwAt L S.next) = .agg #[.int .i64 a0,.int .i64 a1,.int .i64 a2,.string a3]) := hcv
  rw [hcv]
  clear hx0 hx1 hcv
  go_enter Tryz.func177,Tryz.ntmps177
  go_wp2_with (first
   | (go_at_call 248;refine (pkind_any HKK.out hL (al_old HBK.out) hcap (HCW.out.below ((Below.refl w.heap.size w).alloc (Nat.le_refl _) _) (by omega)) hlb).mono ?_;rintro _ w1 ⟨rfl,hb1⟩;have hs1 := hb1.size;rw [World.size_alloc] at hs1;have hbp1 := blk_below (al_old HBK.out) hb1 (by simp;omega);have hbr1 := blk_below (blk_new w zw) hb1 (by simp);have hA1 : Only p w.heap.size w w1 := Only.of ((((Below.refl w.heap.size w).alloc (Nat.le_refl _) _)).trans (hb1.mono (by simp))) (by omega))
   | (go_at_call 254;refine (take_at HCV.out hL hS hbp1 hcap (HCW.out.only hA1 hlb) hlb).mono ?_;rintro _ w2 ⟨rfl,hbp2,hO2⟩;have hs2 := hO2.below.size;have hbr2 := (hO2.rest w.heap.size (by omega) (by omega)).trans hbr1;have e0 := blk_at hbr2 0 rfl;have e1 := blk_at hbr2 1 rfl;have e2 := blk_at hbr2 2 rfl;have e3 := blk_at hbr2 3 rfl;have g0 := blk_at_f hbr2 0;have g1 := blk_at_f hbr2 1;have g2 := blk_at_f hbr2 2;have g3 := blk_at_f hbr2 3))
  refine want_ret rfl (st4_at hbr2) ⟨rfl,?_,?_⟩
  ·exact (st4_ne (by omega)).trans hbp2
  ·exact ⟨st4_below (hA1.below.trans hO2.below) (by omega),fun b h1 h2 => (st4_ne (by omega)).trans ((hO2.rest b (by omega) h2).trans (hA1.rest b h1 h2))⟩
 ·rw [if_neg hk,if_neg hk]
  have hkb : ((kk : Int) == (k : Int)) = false := by simp;omega
  obtain ⟨a0,a1,a2,a3,hcv,hx0,hx1⟩ := cwV_split (cwAt L (S.fail L 4).next)
  have HCV : Hid (cwV (cwAt L (S.fail L 4).next) = .agg #[.int .i64 a0,.int .i64 a1,.int .i64 a2,.string a3]) := hcv
  have hcv' : cwV (cwAt L L.length) = .agg #[.int .i64 a0,.int .i64 a1,.int .i64 a2,.string a3] := hcv
  rw [hcv']
  have hSF : (S.fail L 4).next <= 1000000 := by show L.length <= _;omega
  have HSF : Hid ((S.fail L 4).next <= 1000000) := hSF
  clear hx0 hx1 hcv hcv' hk hSF
  go_enter Tryz.func177,Tryz.ntmps177
  go_wp2_with (first
   | (go_at_call 248;refine (pkind_any HKK.out hL (al_old HBK.out) hcap (HCW.out.below ((Below.refl w.heap.size w).alloc (Nat.le_refl _) _) (by omega)) hlb).mono ?_;rintro _ w1 ⟨rfl,hb1⟩;have hs1 := hb1.size;rw [World.size_alloc] at hs1;have hbp1 := blk_below (al_old HBK.out) hb1 (by simp;omega);have hbr1 := blk_below (blk_new w zw) hb1 (by simp);have hA1 : Only p w.heap.size w w1 := Only.of ((((Below.refl w.heap.size w).alloc (Nat.le_refl _) _)).trans (hb1.mono (by simp))) (by omega))
   | (go_at_call 253;refine (fail_any hL hbp1 hcap (HCW.out.only hA1 hlb) hlb).mono ?_;rintro _ w5 ⟨⟨u5,rfl⟩,hbp5,hO5⟩;have hs5 := hO5.below.size;have hbr5 := (hO5.rest w.heap.size (by omega) (by omega)).trans hbr1;have hA5 : Only p w.heap.size w w5 := hA1.trans ⟨hO5.below,fun b h1 h2 => hO5.rest b (by omega) h2⟩)
   | (go_at_call 254;refine (take_at HCV.out hL HSF.out hbp5 hcap (HCW.out.only hA5 hlb) hlb).mono ?_;rintro _ w2 ⟨rfl,hbp2,hO2⟩;have hs2 := hO2.below.size;have hbr2 := (hO2.rest w.heap.size (by omega) (by omega)).trans hbr5;have e0 := blk_at hbr2 0 rfl;have e1 := blk_at hbr2 1 rfl;have e2 := blk_at hbr2 2 rfl;have e3 := blk_at hbr2 3 rfl;have g0 := blk_at_f hbr2 0;have g1 := blk_at_f hbr2 1;have g2 := blk_at_f hbr2 2;have g3 := blk_at_f hbr2 3))
  refine want_ret rfl (st4_at hbr2) ⟨rfl,?_,?_⟩
  ·exact (st4_ne (by omega)).trans hbp2
  ·exact ⟨st4_below (hA5.below.trans hO2.below) (by omega),fun b h1 h2 => (st4_ne (by omega)).trans ((hO2.rest b (by omega) h2).trans (hA5.rest b h1 h2))⟩
def PF.shut (S : PF) : PF := { S with opn := S.opn - 1 }
def PF.finish (L : List Tok) (S : PF) : PF := (S.want L 24).shut
theorem want_opn (L : List Tok) (k : Nat) (S : PF) : (S.want L k).opn = S.opn := by unfold PF.want;split <;> rfl
set_option maxRecDepth 100000 in
theorem finish_any {w : World} {p lb cap : Nat} {N : Int} {L : List Tok} {S : PF} (hL : L.length <= 100000) (hS : S.next <= 1000000) (ho1 : -1000000 <= S.opn) (ho2 : S.opn <= 1000000) (hblk : w.heap[p]? = some (pfB lb L.length cap N S)) (hcap : L.length <= cap) (hcw : CW w lb L) (hlb : lb < p) :
 Calls Tryz.prog 361 #[.pointer (some ⟨p,0,none⟩)] w fun r w' => (∃ u,r = .returned u) /\ w'.heap[p]? = some (pfB lb L.length cap N (S.finish L)) /\ Only p w.heap.size w w' := by
 have hlt := lt_of_block hblk
 have HBK : Hid (w.heap[p]? = some (pfB lb L.length cap N S)) := hblk
 have HCW : Hid (CW w lb L) := hcw
 obtain ⟨S1,hS1⟩ : ∃ S1,S.want L 24 = S1 := ⟨_,rfl⟩
 have HS1 : Hid (S.want L 24 = S1) := hS1
 have hop := want_opn L 24 S
 rw [hS1] at hop
 rw [<- hop] at ho1 ho2
 unfold PF.finish
 rw [hS1]
 obtain ⟨t,ht⟩ : ∃ t,wantW L 24 S = t := ⟨_,rfl⟩
 have HT : Hid (wantW L 24 S = t) := ht
 clear hblk hcw hS1 hop ht
 go_enter Tryz.func361,Tryz.ntmps361
 go_wp2_with (go_at_call 177;refine (want_any hL hS HBK.out hcap HCW.out hlb).mono ?_;rw [HS1.out,HT.out];unfold cwV;rintro _ w1 ⟨rfl,hbp1,hO1⟩;have hs1 := hO1.below.size;have c2 := blk_at hbp1 2 rfl;have f2 := blk_at_f hbp1 2;simp only [List.getElem_toArray,List.getElem_cons_zero,List.getElem_cons_succ] at c2)
 go_returns
 refine ⟨⟨_,rfl⟩,block_setCell hbp1 2 _,?_⟩
 exact hO1.trans (Only.sole ((Sole.refl p w1).set _))
def PF.beg0 (L : List Tok) (N : Int) (k : Nat) (S : PF) : PF := if (cwAt L S.next).k = k then (if N <= S.opn then S.fail L 5 else S) else S.fail L 4
def PF.wide (S : PF) : PF := { S with opn := S.opn + 1 }
def PF.begin (L : List Tok) (N : Int) (k : Nat) (S : PF) : PF := (S.beg0 L N k).wide.take
theorem beg0_opn (L : List Tok) (N : Int) (k : Nat) (S : PF) : (S.beg0 L N k).opn = S.opn := by unfold PF.beg0;split <;> (try split) <;> rfl
theorem beg0_next {L : List Tok} {N : Int} {k : Nat} {S : PF} (hL : L.length <= 100000) (hS : S.next <= 1000000) : (S.beg0 L N k).next <= 1000000 := by
 unfold PF.beg0
 split <;> (try split)
 ·show L.length <= _;omega
 ·exact hS
 ·show L.length <= _;omega
theorem begin_ret {W : World} {tmps : Array Value} {r : Nat} {x0 x1 x2 x3 : Value} {Q : Ending -> World -> Prop} (ht : tmps.getD 4 undef = .pointer (some ⟨r,0,none⟩)) (hb : W.heap[r]? = some (.cells #[x0,x1,x2,x3] 294 (0,0))) (hq : Q (.returned (.agg #[x0,x1,x2,x3])) W) :
 bodyPost Tryz.prog Tryz.f360 Q Exit.ret { tmps := tmps,defers := [] } W := by
 have c0 := blk_at hb 0 rfl
 have c1 := blk_at hb 1 rfl
 have c2 := blk_at hb 2 rfl
 have c3 := blk_at hb 3 rfl
 simp only [List.getElem_toArray,List.getElem_cons_zero,List.getElem_cons_succ] at c0 c1 c2 c3
 have ht' : tmps[4]?.getD undef = .pointer (some ⟨r,0,none⟩) := by simpa using ht
 exact bodyPost_ret (v := .agg #[x0,x1,x2,x3]) (by simp [results,Tryz.results360,go_sem,ht',c0,c1,c2,c3]) rfl hq
set_option maxRecDepth 100000 in
theorem begin_any {w : World} {p lb cap k : Nat} {N : Int} {L : List Tok} {S : PF} (hL : L.length <= 100000) (hS : S.next <= 1000000) (ho1 : -1000000 <= S.opn) (ho2 : S.opn <= 1000000) (hblk : w.heap[p]? = some (pfB lb L.length cap N S)) (hcap : L.length <= cap) (hcw : CW w lb L) (hlb : lb < p) :
 Calls Tryz.prog 360 #[.pointer (some ⟨p,0,none⟩),.int .i64 k] w fun e w' => e = .returned (cwV (cwAt L (S.beg0 L N k).next)) /\ w'.heap[p]? = some (pfB lb L.length cap N (S.begin L N k)) /\ Only p w.heap.size w w' := by
 have hlt := lt_of_block hblk
 have HBK : Hid (w.heap[p]? = some (pfB lb L.length cap N S)) := hblk
 have HCW : Hid (CW w lb L) := hcw
 obtain ⟨kk,hkk⟩ : ∃ kk,(cwAt L S.next).k = kk := ⟨_,rfl⟩
 have HKK : Hid ((cwAt L S.next).k = kk) := hkk
 have hop := beg0_opn L N k S
 have HNX := beg0_next (N := N) (k := k) hL hS
 have HB0 : Hid (S.beg0 L N k = if kk = k then (if N <= S.opn then S.fail L 5 else S) else S.fail L 4) := by
  show _ = _
  unfold PF.beg0;rw [hkk]
 unfold PF.begin
 obtain ⟨S0,hS0⟩ : ∃ S0,S.beg0 L N k = S0 := ⟨_,rfl⟩
 rw [hS0] at hop HNX HB0 ⊢
 obtain ⟨a0,a1,a2,a3,hcv,hx0,hx1⟩ := cwV_split (cwAt L S0.next)
 have HCV : Hid (cwV (cwAt L S0.wide.next) = .agg #[.int .i64 a0,.int .i64 a1,.int .i64 a2,.string a3]) := hcv
 rw [hcv]
 have HNX' : Hid (S0.wide.next <= 1000000) := HNX
 have HOP : Hid (S0.opn = S.opn) := hop
 clear hblk hcw hkk hS0 hx0 hx1 hcv HNX hop
 by_cases hk : kk = k
 ·subst hk
  rw [if_pos rfl] at HB0
  by_cases hN : N <= S.opn
  ·rw [if_pos hN] at HB0
   have hdN : decide (N <= S.opn) = true := by simpa using hN
   have HOPb : -1000000 <= S0.opn /\ S0.opn <= 1000000 := by rw [HOP.out];exact ⟨ho1,ho2⟩
   obtain ⟨b1,b2⟩ := HOPb
   go_enter Tryz.func360,Tryz.ntmps360
   go_upto_region 3 with (go_at_call 248;refine (pkind_any HKK.out hL (al_old HBK.out) hcap (HCW.out.below ((Below.refl w.heap.size w).alloc (Nat.le_refl _) _) (by omega)) hlb).mono ?_;rintro _ w1 ⟨rfl,hb1⟩;have hs1 := hb1.size;rw [World.size_alloc] at hs1;have hbp1 := blk_below (al_old HBK.out) hb1 (by simp;omega);have hbr1 := blk_below (blk_new w zw) hb1 (by simp);have hA1 : Only p w.heap.size w w1 := Only.of ((((Below.refl w.heap.size w).alloc (Nat.le_refl _) _)).trans (hb1.mono (by simp))) (by omega);have q2 := blk_at hbp1 2 rfl;have q3 := blk_at hbp1 3 rfl;simp only [List.getElem_toArray,List.getElem_cons_zero,List.getElem_cons_succ] at q2 q3)
   go_region
   have hA1D : Only p w.heap.size w w1.drew := ⟨hA1.below.drew,hA1.rest⟩
   have hbp6 : w1.drew.heap[p]? = some (pfB lb L.length cap N S) := hbp1
   have hbr6 : w1.drew.heap[w.heap.size]? = some zw := hbr1
   have hs6 : w.heap.size + 1 <= w1.drew.heap.size := hs1
   clear q2 q3 hbp1 hbr1 hb1 hA1 hdN
   generalize w1.drew = w6 at hA1D hbp6 hbr6 hs6 ⊢
   go_wp2_with (first
    | (go_at_call 253;refine (fail_any (w := w6) hL hbp6 hcap (HCW.out.only hA1D hlb) hlb).mono ?_;rintro _ w5 ⟨⟨u5,rfl⟩,hbp5,hO5⟩;rw [<- HB0.out] at hbp5;have hs5 := hO5.below.size;have hbr5 := (hO5.rest w.heap.size (by omega) (by omega)).trans hbr6;have hA5 : Only p w.heap.size w w5 := hA1D.trans ⟨hO5.below,fun b h1 h2 => hO5.rest b (by omega) h2⟩;have k2 := blk_at hbp5 2 rfl;have j2 := blk_at_f hbp5 2;simp only [List.getElem_toArray,List.getElem_cons_zero,List.getElem_cons_succ] at k2)
    | (go_at_call 254;refine (take_at (w := w5.setCell ⟨p,2,none⟩ _) HCV.out hL HNX'.out (by exact block_setCell hbp5 2 _) hcap (HCW.out.only (hA5.trans (Only.sole ((Sole.refl p w5).set _))) hlb) hlb).mono ?_;rintro _ w2 ⟨rfl,hbp2,hO2⟩;have hs2 := hO2.below.size;rw [size_setCell] at hs2;have hbr2 := ((hO2.rest w.heap.size (by rw [size_setCell];omega) (by omega)).trans (Below.heap_setCell _ _ _ _ (by show w.heap.size ≠ p;omega))).trans hbr5;have e0 := blk_at hbr2 0 rfl;have e1 := blk_at hbr2 1 rfl;have e2 := blk_at hbr2 2 rfl;have e3 := blk_at hbr2 3 rfl;have g0 := blk_at_f hbr2 0;have g1 := blk_at_f hbr2 1;have g2 := blk_at_f hbr2 2;have g3 := blk_at_f hbr2 3))
   refine begin_ret rfl (st4_at hbr2) ⟨rfl,(st4_ne (by omega)).trans hbp2,?_⟩
   have hO2' : Only p w.heap.size w w2 := (hA5.trans (Only.sole ((Sole.refl p w5).set (i := 2) (.int .i64 (S0.opn + 1))))).trans ⟨hO2.below,fun b h1 h2 => hO2.rest b (by rw [size_setCell];omega) h2⟩
   exact ⟨st4_below hO2'.below (by omega),fun b h1 h2 => (st4_ne (by omega)).trans (hO2'.rest b h1 h2)⟩
  ·rw [if_neg hN] at HB0
   have hdN : decide (N <= S.opn) = false := by simpa using hN
   have HOPb : -1000000 <= S0.opn /\ S0.opn <= 1000000 := by rw [HOP.out];exact ⟨ho1,ho2⟩
   obtain ⟨b1,b2⟩ := HOPb
   go_enter Tryz.func360,Tryz.ntmps360
   go_upto_region 3 with (go_at_call 248;refine (pkind_any HKK.out hL (al_old HBK.out) hcap (HCW.out.below ((Below.refl w.heap.size w).alloc (Nat.le_refl _) _) (by omega)) hlb).mono ?_;rintro _ w1 ⟨rfl,hb1⟩;have hs1 := hb1.size;rw [World.size_alloc] at hs1;have hbp1 := blk_below (al_old HBK.out) hb1 (by simp;omega);have hbr1 := blk_below (blk_new w zw) hb1 (by simp);have hA1 : Only p w.heap.size w w1 := Only.of ((((Below.refl w.heap.size w).alloc (Nat.le_refl _) _)).trans (hb1.mono (by simp))) (by omega);have q2 := blk_at hbp1 2 rfl;have q3 := blk_at hbp1 3 rfl;simp only [List.getElem_toArray,List.getElem_cons_zero,List.getElem_cons_succ] at q2 q3)
   go_region
   have hO5 : Only p w.heap.size w w1.drew := ⟨hA1.below.drew,hA1.rest⟩
   have hbp5 : w1.drew.heap[p]? = some (pfB lb L.length cap N S0) := by rw [HB0.out];exact hbp1
   have hbr5 : w1.drew.heap[w.heap.size]? = some zw := hbr1
   have hs5 : w.heap.size + 1 <= w1.drew.heap.size := hs1
   clear q2 q3 hbp1 hbr1 hb1 hA1 hdN
   generalize w1.drew = w5 at hO5 hbp5 hbr5 hs5 ⊢
   have hA5 := hO5
   have k2 := blk_at hbp5 2 rfl
   have j2 := blk_at_f hbp5 2
   simp only [List.getElem_toArray,List.getElem_cons_zero,List.getElem_cons_succ] at k2
   go_wp2_with (go_at_call 254;refine (take_at (w := w5.setCell ⟨p,2,none⟩ _) HCV.out hL HNX'.out (by exact block_setCell hbp5 2 _) hcap (HCW.out.only (hA5.trans (Only.sole ((Sole.refl p w5).set _))) hlb) hlb).mono ?_;rintro _ w2 ⟨rfl,hbp2,hO2⟩;have hs2 := hO2.below.size;rw [size_setCell] at hs2;have hbr2 := ((hO2.rest w.heap.size (by rw [size_setCell];omega) (by omega)).trans (Below.heap_setCell _ _ _ _ (by show w.heap.size ≠ p;omega))).trans hbr5;have e0 := blk_at hbr2 0 rfl;have e1 := blk_at hbr2 1 rfl;have e2 := blk_at hbr2 2 rfl;have e3 := blk_at hbr2 3 rfl;have g0 := blk_at_f hbr2 0;have g1 := blk_at_f hbr2 1;have g2 := blk_at_f hbr2 2;have g3 := blk_at_f hbr2 3)
   refine begin_ret rfl (st4_at hbr2) ⟨rfl,(st4_ne (by omega)).trans hbp2,?_⟩
   have hO2' : Only p w.heap.size w w2 := (hA5.trans (Only.sole ((Sole.refl p w5).set (i := 2) (.int .i64 (S0.opn + 1))))).trans ⟨hO2.below,fun b h1 h2 => hO2.rest b (by rw [size_setCell];omega) h2⟩
   exact ⟨st4_below hO2'.below (by omega),fun b h1 h2 => (st4_ne (by omega)).trans (hO2'.rest b h1 h2)⟩
 ·rw [if_neg hk] at HB0
  have hkb : ((kk : Int) == (k : Int)) = false := by simp;omega
  have HOPb : -1000000 <= S0.opn /\ S0.opn <= 1000000 := by rw [HOP.out];exact ⟨ho1,ho2⟩
  obtain ⟨b1,b2⟩ := HOPb
  clear hk
  go_enter Tryz.func360,Tryz.ntmps360
  go_wp2_with (first
   | (go_at_call 248;refine (pkind_any HKK.out hL (al_old HBK.out) hcap (HCW.out.below ((Below.refl w.heap.size w).alloc (Nat.le_refl _) _) (by omega)) hlb).mono ?_;rintro _ w1 ⟨rfl,hb1⟩;have hs1 := hb1.size;rw [World.size_alloc] at hs1;have hbp1 := blk_below (al_old HBK.out) hb1 (by simp;omega);have hbr1 := blk_below (blk_new w zw) hb1 (by simp);have hA1 : Only p w.heap.size w w1 := Only.of ((((Below.refl w.heap.size w).alloc (Nat.le_refl _) _)).trans (hb1.mono (by simp))) (by omega);have q2 := blk_at hbp1 2 rfl;have q3 := blk_at hbp1 3 rfl;simp only [List.getElem_toArray,List.getElem_cons_zero,List.getElem_cons_succ] at q2 q3;have hA1D := hA1)
   | (go_at_call 253;refine (fail_any (w := w1) hL hbp1 hcap (HCW.out.only hA1D hlb) hlb).mono ?_;rintro _ w5 ⟨⟨u5,rfl⟩,hbp5,hO5⟩;rw [<- HB0.out] at hbp5;have hs5 := hO5.below.size;have hbr5 := (hO5.rest w.heap.size (by (try simp only [World.heap_drew]);omega) (by omega)).trans hbr1;have hA5 : Only p w.heap.size w w5 := hA1D.trans ⟨hO5.below,fun b h1 h2 => hO5.rest b (by (try simp only [World.heap_drew]);omega) h2⟩;have k2 := blk_at hbp5 2 rfl;have j2 := blk_at_f hbp5 2;simp only [List.getElem_toArray,List.getElem_cons_zero,List.getElem_cons_succ] at k2)
   | (go_at_call 254;refine (take_at (w := w5.setCell ⟨p,2,none⟩ _) HCV.out hL HNX'.out (by exact block_setCell hbp5 2 _) hcap (HCW.out.only (hA5.trans (Only.sole ((Sole.refl p w5).set _))) hlb) hlb).mono ?_;rintro _ w2 ⟨rfl,hbp2,hO2⟩;have hs2 := hO2.below.size;rw [size_setCell] at hs2;have hbr2 := ((hO2.rest w.heap.size (by rw [size_setCell];omega) (by omega)).trans (Below.heap_setCell _ _ _ _ (by show w.heap.size ≠ p;omega))).trans hbr5;have e0 := blk_at hbr2 0 rfl;have e1 := blk_at hbr2 1 rfl;have e2 := blk_at hbr2 2 rfl;have e3 := blk_at hbr2 3 rfl;have g0 := blk_at_f hbr2 0;have g1 := blk_at_f hbr2 1;have g2 := blk_at_f hbr2 2;have g3 := blk_at_f hbr2 3))
  refine begin_ret rfl (st4_at hbr2) ⟨rfl,(st4_ne (by omega)).trans hbp2,?_⟩
  have hO2' : Only p w.heap.size w w2 := (hA5.trans (Only.sole ((Sole.refl p w5).set (i := 2) (.int .i64 (S0.opn + 1))))).trans ⟨hO2.below,fun b h1 h2 => hO2.rest b (by rw [size_setCell];omega) h2⟩
  exact ⟨st4_below hO2'.below (by omega),fun b h1 h2 => (st4_ne (by omega)).trans (hO2'.rest b h1 h2)⟩
theorem Tryz.info302 : (Tryz.prog.info? 302).map (fun i => (i.zero,i.size,i.bytes)) = some (some (.agg #[.int .i64 0,.int .i64 0,.int .i64 0,.int .i64 0,.slice none 0 0,.slice none 0 0]),6,80) := by kernel_rfl
theorem Tryz.underlying103' : Tryz.prog.underlying 103 = some (.slice 302) := by kernel_rfl
def PF.row (S : PF) (v : Value) : PF := { S with pv := v }
def ptC (k a wd : Nat) (nm : Int) (nv kv : Value) : List Value := [.int .i64 k,.int .i64 a,.int .i64 wd,.int .i64 nm,nv,kv]
theorem add_blk {w w1 : World} {o1 o2 : Obj} {base p n : Nat} {e : TypeId} {v : Value} {xs : List Value} {X : Obj} (hown : w.ownsRow base e 6 v n xs) (hp : p < base) (hbase : base <= w.heap.size) (hblk : w.heap[p]? = some X) (hg : ((w.alloc o1).alloc o2).drew.grownBy w1 v.ownBlock) :
 w1.heap[p]? = some X /\ (∀ b,b < w.heap.size -> v.ownBlock ≠ some b -> w1.heap[b]? = w.heap[b]?) /\ w.heap.size <= w1.heap.size /\ Below base w w1 := by
 have hlt := lt_of_block hblk
 have hB : Below base w ((w.alloc o1).alloc o2).drew := (((Below.refl _ _).alloc hbase _).alloc (by rw [World.size_alloc];omega) _).drew
 have hs : ((w.alloc o1).alloc o2).drew.heap.size = w.heap.size + 1 + 1 := by
  show ((w.alloc o1).alloc o2).heap.size = _
  rw [World.size_alloc,World.size_alloc]
 have hh : ∀ b,b < w.heap.size -> v.ownBlock ≠ some b -> w1.heap[b]? = w.heap[b]? := fun b h1 h2 => by
  rw [hg.block b (by omega) (fun h => h2 h.symm)]
  show ((w.alloc o1).alloc o2).heap[b]? = _
  rw [Below.heap_alloc _ _ _ (by rw [World.size_alloc];omega),Below.heap_alloc _ _ _ h1]
 refine ⟨(hh p hlt (fun h => by have := (hown.lt p h).1;omega)).trans hblk,hh,?_,hB.grown hg (by omega) (own_ge hown)⟩
 have := hg.size
 omega
set_option maxRecDepth 100000 in
theorem add_any {w : World} {p lb cap base n : Nat} {N : Int} {L : List Tok} {S : PF} {k a wd : Nat} {nm : Int} {nb kb : Option Addr} {nn nc kn kc : Nat} {xs : List Value} (hn : n <= 100000) (hblk : w.heap[p]? = some (pfB lb L.length cap N S)) (hpb : p < base) (hbase : base <= w.heap.size)
 (hown : w.ownsRow base 302 6 S.pv n xs) :
 Calls Tryz.prog 317 #[.pointer (some ⟨p,0,none⟩),.agg #[.int .i64 k,.int .i64 a,.int .i64 wd,.int .i64 nm,.slice nb nn nc,.slice kb kn kc]] w fun e w' => e = .returned (.int .i64 n) /\
  ∃ g c,w'.heap[p]? = some (pfB lb L.length cap N (S.row (.slice (some ⟨g,0,none⟩) (n + 1) c))) /\ w'.ownsRow base 302 6 (.slice (some ⟨g,0,none⟩) (n + 1) c) (n + 1) (xs ++ ptC k a wd nm (.slice nb nn nc) (.slice kb kn kc)) /\
    (S.pv.ownBlock = some g \/ w.heap.size <= g) /\ (∀ b,b < w.heap.size -> b ≠ p -> S.pv.ownBlock ≠ some b -> w'.heap[b]? = w.heap[b]?) /\ w.heap.size <= w'.heap.size /\ Below p w w' := by
 have hlt := lt_of_block hblk
 have HBK : Hid (w.heap[p]? = some (pfB lb L.length cap N S)) := hblk
 have HOW : Hid (w.ownsRow base 302 6 S.pv n xs) := hown
 obtain ⟨i0,hi0,hz0,hz1,hz2⟩ := info_parts Tryz.info302
 have c4 := blk_at hblk 4 rfl
 have f4 := blk_at_f hblk 4
 obtain ⟨pv,hpv⟩ : ∃ pv,S.pv = pv := ⟨_,rfl⟩
 rw [hpv] at c4 HOW ⊢
 simp only [List.getElem_toArray,List.getElem_cons_zero,List.getElem_cons_succ] at c4
 clear hblk hown hpv
 go_enter Tryz.func317,Tryz.ntmps317
 go_wp2
 go_region_law ((refine step_append_lies _ (by rfl) (.tmp 9) (.tmp 11) 103 (by rfl) base 302 i0 _ 6 80 Tryz.underlying103' hi0 hz0 hz1 hz2 rfl (by decide) pv n xs (by rfl) ((HOW.out.alloc _).alloc _) ⟨w.heap.size + 1,0,none⟩ 1 1 (ptC k a wd nm (.slice nb nn nc) (.slice kb kn kc)) (by rfl) (by rfl) (cells_new _ _ _ _ (by simp)) (by intro u hu;simp [ptC] at hu;rcases hu with rfl | rfl | rfl | rfl | rfl | rfl <;> rfl) (by decide) (by unfold maxLen;omega) (by omega) (by simp;omega) _ rfl ?_;intro g c w1 hown1 hgrow hat hlt1;obtain ⟨hblk1,hh1,hs1,hb1⟩ := add_blk HOW.out hpb hbase HBK.out hgrow;have d4 := blk_at hblk1 4 rfl;have e4 := blk_at_f hblk1 4))
 all_goals
  rename_i Q' K hK
  refine hK _ _ ?_
  clear hK
  clear K
  have hblk2 := block_setCell hblk1 4 (.slice (some ⟨g,0,none⟩) (n + 1) c)
  have g4 : (w1.setCell ⟨p,4,none⟩ (.slice (some ⟨g,0,none⟩) (n + 1) c)).cell? ⟨p,4,none⟩ = some (.slice (some ⟨g,0,none⟩) (n + 1) c) := blk_at hblk2 4 rfl
  have hown2 := ownsRow_setCell_below (a := ⟨p,4,none⟩) hown1 hpb (.slice (some ⟨g,0,none⟩) (n + 1) c)
  have hat' : pv.ownBlock = some g \/ w.heap.size <= g := hat.imp id (fun h => by rw [h];show _ <= ((w.alloc _).alloc _).heap.size;rw [World.size_alloc,World.size_alloc];omega)
  go_wp2
  go_ret
  refine ⟨rfl,g,c,hblk2,hown2,hat',fun b h1 h2 h3 => ?_,?_,?_⟩
  ·rw [Below.heap_setCell _ _ _ _ h2];exact hh1 b h1 h3
  ·rw [size_setCell];exact hs1
  ·exact (hb1.mono (Nat.le_of_lt hpb)).trans ((Sole.refl p w1).set _).1
def cOp (k : Nat) : Nat := if k = 27 \/ k = 19 \/ k = 28 \/ k = 20 \/ k = 29 \/ k = 21 then 17 else if k = 30 \/ k = 31 then 16 else if k = 32 \/ k = 33 \/ k = 34 then 15 else 0
theorem ne_int {k m : Nat} (h : k ≠ m) : ((k : Int) == (m : Int)) = false := by simpa using (fun h2 => h (by omega))
set_option maxRecDepth 100000 in
theorem operator_any {w : World} {p lb cap : Nat} {N : Int} {L : List Tok} {S : PF} {kk : Nat} (hkk : (cwAt L S.next).k = kk) (hL : L.length <= 100000) (hblk : w.heap[p]? = some (pfB lb L.length cap N S)) (hcap : L.length <= cap) (hcw : CW w lb L) (hlb : lb < p) :
 Calls Tryz.prog 363 #[.pointer (some ⟨p,0,none⟩)] w fun e w' => e = .returned (.int .i64 (cOp kk : Nat)) /\ Below w.heap.size w w' := by
 have HBK : Hid (w.heap[p]? = some (pfB lb L.length cap N S)) := hblk
 have HCW : Hid (CW w lb L) := hcw
 have HKK : Hid ((cwAt L S.next).k = kk) := hkk
 clear hblk hcw hkk
 have hc : kk = 27 \/ kk = 19 \/ kk = 28 \/ kk = 20 \/ kk = 29 \/ kk = 21 \/ kk = 30 \/ kk = 31 \/ kk = 32 \/ kk = 33 \/ kk = 34 \/ (kk ≠ 27 /\ kk ≠ 19 /\ kk ≠ 28 /\ kk ≠ 20 /\ kk ≠ 29 /\ kk ≠ 21 /\ kk ≠ 30 /\ kk ≠ 31 /\ kk ≠ 32 /\ kk ≠ 33 /\ kk ≠ 34) := by omega
 rcases hc with rfl | rfl | rfl | rfl | rfl | rfl | rfl | rfl | rfl | rfl | rfl | ⟨h1,h2,h3,h4,h5,h6,h7,h8,h9,h10,h11⟩
 case inr.inr.inr.inr.inr.inr.inr.inr.inr.inr.inr =>
  have ho : cOp kk = 0 := by unfold cOp;simp [h1,h2,h3,h4,h5,h6,h7,h8,h9,h10,h11]
  rw [ho]
  have b1 := ne_int h1
  have b2 := ne_int h2
  have b3 := ne_int h3
  have b4 := ne_int h4
  have b5 := ne_int h5
  have b6 := ne_int h6
  have b7 := ne_int h7
  have b8 := ne_int h8
  have b9 := ne_int h9
  have b10 := ne_int h10
  have b11 := ne_int h11
  clear ho
  go_enter Tryz.func363,Tryz.ntmps363
  go_wp2_with (go_at_call 248;refine (pkind_any HKK.out hL HBK.out hcap HCW.out hlb).mono ?_;rintro _ w1 ⟨rfl,hb1⟩)
  go_ret
  exact ⟨rfl,hb1⟩
 all_goals
  go_enter Tryz.func363,Tryz.ntmps363
  go_wp2_with (go_at_call 248;refine (pkind_any HKK.out hL HBK.out hcap HCW.out hlb).mono ?_;rintro _ w1 ⟨rfl,hb1⟩)
  go_ret
  exact ⟨rfl,hb1⟩
def cOpd (k : Nat) : Bool := k == 1 || k == 11 || k == 12 || k == 13 || k == 2 || k == 23
set_option maxRecDepth 100000 in
theorem atOperand_any {w : World} {p lb cap : Nat} {N : Int} {L : List Tok} {S : PF} {kk : Nat} (hkk : (cwAt L S.next).k = kk) (hL : L.length <= 100000) (hblk : w.heap[p]? = some (pfB lb L.length cap N S)) (hcap : L.length <= cap) (hcw : CW w lb L) (hlb : lb < p) :
 Calls Tryz.prog 416 #[.pointer (some ⟨p,0,none⟩)] w fun e w' => e = .returned (.bool (cOpd kk)) /\ Below w.heap.size w w' := by
 have HBK : Hid (w.heap[p]? = some (pfB lb L.length cap N S)) := hblk
 have HCW : Hid (CW w lb L) := hcw
 have HKK : Hid ((cwAt L S.next).k = kk) := hkk
 clear hblk hcw hkk
 have hc : kk = 1 \/ kk = 11 \/ kk = 12 \/ kk = 13 \/ kk = 2 \/ kk = 23 \/ (kk ≠ 1 /\ kk ≠ 11 /\ kk ≠ 12 /\ kk ≠ 13 /\ kk ≠ 2 /\ kk ≠ 23) := by omega
 rcases hc with rfl | rfl | rfl | rfl | rfl | rfl | ⟨h1,h2,h3,h4,h5,h6⟩
 case inr.inr.inr.inr.inr.inr =>
  have ho : cOpd kk = false := by unfold cOpd;simp [h1,h2,h3,h4,h5,h6]
  rw [ho]
  have b1 := ne_int h1
  have b2 := ne_int h2
  have b3 := ne_int h3
  have b4 := ne_int h4
  have b5 := ne_int h5
  have b6 := ne_int h6
  clear ho
  go_enter Tryz.func416,Tryz.ntmps416
  go_wp2_with (go_at_call 248;refine (pkind_any HKK.out hL HBK.out hcap HCW.out hlb).mono ?_;rintro _ w1 ⟨rfl,hb1⟩)
  go_ret
  exact ⟨rfl,hb1⟩
 all_goals
  go_enter Tryz.func416,Tryz.ntmps416
  go_wp2_with (go_at_call 248;refine (pkind_any HKK.out hL HBK.out hcap HCW.out hlb).mono ?_;rintro _ w1 ⟨rfl,hb1⟩)
  go_ret
  exact ⟨rfl,hb1⟩
structure CP where
 k : Nat
 a : Nat
 wd : Nat
 nm : Int
 ns : List ByteArray
 ks : List Int
theorem own_block_keep {w w1 : World} {base size n : Nat} {e : TypeId} {v : Value} {xs : List Value} (h : w.ownsRow base e size v n xs) (hb : ∀ b,v.ownBlock = some b -> w1.heap[b]? = w.heap[b]?) : w1.ownsRow base e size v n xs := by
 refine ⟨h.1,?_⟩
 rcases h.2 with h' | ⟨g,cap,cur,h1,h2,h3,h4⟩
 ·exact .inl h'
 ·exact .inr ⟨g,cap,cur,h1,h2,(hb g (by rw [h1];rfl)).trans h3,h4⟩
theorem own_slice {w : World} {base size n : Nat} {e : TypeId} {v : Value} {xs : List Value} (h : w.ownsRow base e size v n xs) : ∃ a c,v = .slice a n c := by
 rcases h.2 with ⟨h1,h2⟩ | ⟨g,cap,cur,h1,h2,h3,h4⟩
 ·exact ⟨none,0,by rw [h1,h2]⟩
 ·exact ⟨_,cap,h1⟩
structure PtRow (w : World) (base : Nat) (row : Option Nat) (q : CP) (v : Value × Value) : Prop where
 names : w.ownsRow base 9 1 v.1 q.ns.length (q.ns.map Value.string)
 kids : w.ownsRow base 3 1 v.2 q.ks.length (q.ks.map (Value.int .i64))
 n1 : ∀ b,v.1.ownBlock = some b -> row ≠ some b
 n2 : ∀ b,v.2.ownBlock = some b -> row ≠ some b
def cpsC : List CP -> List (Value × Value) -> List Value
 | q :: ps,v :: vs => ptC q.k q.a q.wd q.nm v.1 v.2 ++ cpsC ps vs
 | _,_ => []
theorem cpsC_snoc : ∀ (ps : List CP) (vs : List (Value × Value)) (q : CP) (v : Value × Value),vs.length = ps.length -> cpsC (ps ++ [q]) (vs ++ [v]) = cpsC ps vs ++ ptC q.k q.a q.wd q.nm v.1 v.2
 | [],[],q,v,_ => by simp [cpsC]
 | p :: ps,u :: vs,q,v,h => by
   have := cpsC_snoc ps vs q v (by simpa using h)
   simp only [List.cons_append,cpsC,this,List.append_assoc]
 | [],_ :: _,_,_,h => by cases h
 | _ :: _,[],_,_,h => by cases h
structure PsAt (w : World) (base : Nat) (pv : Value) (ps : List CP) (vs : List (Value × Value)) : Prop where
 own : w.ownsRow base 302 6 pv ps.length (cpsC ps vs)
 len : vs.length = ps.length
 rows : ∀ i (h : i < ps.length) (h' : i < vs.length),PtRow w base pv.ownBlock ps[i] vs[i]
structure Fr (p : Nat) (row row' : Option Nat) (w w' : World) : Prop where
 below : Below p w w'
 size : w.heap.size <= w'.heap.size
 rest : ∀ b,b < w.heap.size -> b ≠ p -> row ≠ some b -> w'.heap[b]? = w.heap[b]?
 row : ∀ b,row' = some b -> row = some b \/ w.heap.size <= b
theorem Fr.refl (p : Nat) (row : Option Nat) (w : World) : Fr p row row w w := ⟨Below.refl _ _,Nat.le_refl _,fun _ _ _ _ => rfl,fun _ h => .inl h⟩
theorem Fr.trans {p : Nat} {r1 r2 r3 : Option Nat} {w1 w2 w3 : World} (h : Fr p r1 r2 w1 w2) (h' : Fr p r2 r3 w2 w3) : Fr p r1 r3 w1 w3 := by
 have hs := h.size
 refine ⟨h.below.trans h'.below,Nat.le_trans h.size h'.size,fun b hb hp hr => ?_,fun b hb => ?_⟩
 ·rw [h'.rest b (by omega) hp (fun h2 => (h.row b h2).elim hr (fun h3 => by omega)),h.rest b hb hp hr]
 ·rcases h'.row b hb with h2 | h2
  ·exact h.row b h2
  ·exact .inr (by omega)
theorem Fr.only {p : Nat} {row : Option Nat} {w w' : World} (h : Only p w.heap.size w w') (hs : w.heap.size <= w'.heap.size) : Fr p row row w w' := ⟨h.below,hs,fun b hb hp _ => h.rest b hb hp,fun _ h => .inl h⟩
theorem Fr.below' {p : Nat} {row : Option Nat} {w w' : World} (h : Below w.heap.size w w') (hp : p <= w.heap.size) : Fr p row row w w' := ⟨h.mono hp,h.size,fun b hb _ _ => h.block b hb,fun _ h => .inl h⟩
theorem Fr.own {p : Nat} {row row' : Option Nat} {w w' : World} (h : Fr p row row' w w') {base size n : Nat} {e : TypeId} {v : Value} {xs : List Value} (ho : w.ownsRow base e size v n xs) (hp : p < base) (hr : ∀ b,v.ownBlock = some b -> row ≠ some b) : w'.ownsRow base e size v n xs /\ ∀ b,v.ownBlock = some b -> row' ≠ some b := by
 refine ⟨own_block_keep ho fun b hb => ?_,fun b hb h2 => ?_⟩
 ·have := ho.lt b hb
  exact h.rest b (by omega) (by omega) (hr b hb)
 ·have := ho.lt b hb
  rcases h.row b h2 with h3 | h3
  ·exact hr b hb h3
  ·omega
theorem PtRow.fr {p base : Nat} {row row' : Option Nat} {w w' : World} {q : CP} {v : Value × Value} (h : PtRow w base row q v) (hf : Fr p row row' w w') (hp : p < base) : PtRow w' base row' q v :=
 have h1 := hf.own h.names hp h.n1
 have h2 := hf.own h.kids hp h.n2
 ⟨h1.1,h2.1,h1.2,h2.2⟩
theorem PsAt.only {p base : Nat} {w w' : World} {pv : Value} {ps : List CP} {vs : List (Value × Value)} (h : PsAt w base pv ps vs) (ho : Only p w.heap.size w w') (hs : w.heap.size <= w'.heap.size) (hp : p < base) : PsAt w' base pv ps vs := by
 refine ⟨own_block_keep h.own fun b hb => ?_,h.len,fun i h1 h2 => (h.rows i h1 h2).fr (Fr.only ho hs) hp⟩
 have := h.own.lt b hb
 exact ho.rest b (by omega) (by omega)
theorem add_st {w : World} {p lb cap base : Nat} {N : Int} {L : List Tok} {S : PF} {q : CP} {v : Value × Value} {ps : List CP} {vs : List (Value × Value)} (hn : ps.length <= 100000) (hblk : w.heap[p]? = some (pfB lb L.length cap N S)) (hpb : p < base) (hbase : base <= w.heap.size)
 (hps : PsAt w base S.pv ps vs) (hq : PtRow w base S.pv.ownBlock q v) :
 Calls Tryz.prog 317 #[.pointer (some ⟨p,0,none⟩),.agg #[.int .i64 q.k,.int .i64 q.a,.int .i64 q.wd,.int .i64 q.nm,v.1,v.2]] w fun e w' => e = .returned (.int .i64 ps.length) /\
  ∃ pv',w'.heap[p]? = some (pfB lb L.length cap N (S.row pv')) /\ PsAt w' base pv' (ps ++ [q]) (vs ++ [v]) /\ Fr p S.pv.ownBlock pv'.ownBlock w w' := by
 obtain ⟨v1,v2⟩ := v
 obtain ⟨a1,c1,e1⟩ := own_slice hq.names
 obtain ⟨a2,c2,e2⟩ := own_slice hq.kids
 simp only at e1 e2
 subst e1 e2
 refine (add_any hn hblk hpb hbase hps.own).mono ?_
 rintro e w' ⟨rfl,g,c,h1,h2,h3,h4,h5,h6⟩
 have hf : Fr p S.pv.ownBlock (Value.slice (some ⟨g,0,none⟩) (ps.length + 1) c).ownBlock w w' := ⟨h6,h5,h4,fun b hb => by
  have : g = b := by simpa [Value.ownBlock] using hb
  rw [<- this];exact h3⟩
 refine ⟨rfl,_,h1,⟨?_,by simp [hps.len],fun i hi hi' => ?_⟩,hf⟩
 ·rw [cpsC_snoc _ _ _ _ hps.len,List.length_append];exact h2
 ·by_cases hlt : i < ps.length
  ·rw [List.getElem_append_left hlt,List.getElem_append_left (by rw [hps.len];exact hlt)]
   exact (hps.rows i hlt (by rw [hps.len];exact hlt)).fr hf hpb
  ·have he : i = ps.length := by rw [List.length_append] at hi;simp at hi;omega
   subst he
   have e1 : (ps ++ [q])[ps.length] = q := by simp
   have e2 : ∀ h,(vs ++ [(Value.slice a1 q.ns.length c1,Value.slice a2 q.ks.length c2)])[ps.length]'h = (Value.slice a1 q.ns.length c1,Value.slice a2 q.ks.length c2) := by
    intro h;simp [<- hps.len]
   rw [e1,e2]
   exact hq.fr hf hpb
theorem PsAt.below {base : Nat} {w w' : World} {pv : Value} {ps : List CP} {vs : List (Value × Value)} (h : PsAt w base pv ps vs) (hb : Below w.heap.size w w') : PsAt w' base pv ps vs := by
 refine ⟨own_block_keep h.own fun b hb2 => hb.block b (h.own.lt b hb2).2,h.len,fun i h1 h2 => ?_⟩
 have hr := h.rows i h1 h2
 exact ⟨own_block_keep hr.names fun b hb2 => hb.block b (hr.names.lt b hb2).2,own_block_keep hr.kids fun b hb2 => hb.block b (hr.kids.lt b hb2).2,hr.n1,hr.n2⟩
theorem own_new {w : World} {base B : Nat} {e : TypeId} {xs : List Value} (hb : w.heap[B]? = some (.cells xs.toArray e (0,0))) (hB : base <= B) (hl : xs.length <= maxLen) : w.ownsRow base e 1 (.slice (some ⟨B,0,none⟩) xs.length xs.length) xs.length xs :=
 ⟨by omega,.inr ⟨B,xs.length,xs.toArray,rfl,hB,hb,Nat.le_refl _,hl,by simp,by simp⟩⟩
theorem PsAt.row_lt {base : Nat} {w : World} {pv : Value} {ps : List CP} {vs : List (Value × Value)} (h : PsAt w base pv ps vs) : ∀ b,w.heap.size <= b -> pv.ownBlock ≠ some b := fun b hb h2 => by
 have := h.own.lt b h2;omega
theorem row_two {w : World} {base : Nat} {row : Option Nat} {k a wd : Nat} {nm l r : Int} (o1 : Obj) (hbase : base <= w.heap.size) (hrow : ∀ b,w.heap.size <= b -> row ≠ some b) :
 PtRow ((w.alloc o1).alloc (.cells #[.int .i64 l,.int .i64 r] 3)) base row ⟨k,a,wd,nm,[],[l,r]⟩ (.slice none 0 0,.slice (some ⟨w.heap.size + 1,0,none⟩) 2 2) := by
 have hb : ((w.alloc o1).alloc (.cells #[.int .i64 l,.int .i64 r] 3)).heap[w.heap.size + 1]? = some (.cells #[.int .i64 l,.int .i64 r] 3 (0,0)) := by
  have h := heap_alloc_new (w.alloc o1) (.cells #[.int .i64 l,.int .i64 r] 3)
  rwa [World.size_alloc] at h
 refine ⟨World.ownsRow_nil _ _ _ _,own_new (xs := [.int .i64 l,.int .i64 r]) hb (by omega) (by simp [maxLen]),fun b hb => (by cases hb),fun b hb => hrow b ?_⟩
 have : w.heap.size + 1 = b := by simpa [Value.ownBlock] using hb
 omega
set_option maxRecDepth 100000 in
theorem between_any {w : World} {p lb cap base : Nat} {N : Int} {L : List Tok} {S : PF} {k tk tp : Nat} {l r tn : Int} {ts : ByteArray} {ps : List CP} {vs : List (Value × Value)} (hn : ps.length <= 100000) (hblk : w.heap[p]? = some (pfB lb L.length cap N S)) (hpb : p < base) (hbase : base <= w.heap.size)
 (hps : PsAt w base S.pv ps vs) :
 Calls Tryz.prog 320 #[.pointer (some ⟨p,0,none⟩),.int .i64 k,.int .i64 l,.agg #[.int .i64 tk,.int .i64 tp,.int .i64 tn,.string ts],.int .i64 r] w fun e w' => e = .returned (.int .i64 ps.length) /\
  ∃ pv',w'.heap[p]? = some (pfB lb L.length cap N (S.row pv')) /\ PsAt w' base pv' (ps ++ [⟨k,tp,tk,0,[],[l,r]⟩]) (vs ++ [(.slice none 0 0,.slice (some ⟨w.heap.size + 1,0,none⟩) 2 2)]) /\ Fr p S.pv.ownBlock pv'.ownBlock w w' := by
 have hlt := lt_of_block hblk
 have HBK : Hid (w.heap[p]? = some (pfB lb L.length cap N S)) := hblk
 have HPS : Hid (PsAt w base S.pv ps vs) := hps
 have HA : ∀ o1 o2 : Obj,Hid (Below w.heap.size w ((w.alloc o1).alloc o2)) := fun o1 o2 => (((Below.refl _ _).alloc (Nat.le_refl _) _).alloc (by rw [World.size_alloc];omega) _)
 clear hblk hps
 go_enter Tryz.func320,Tryz.ntmps320
 go_wp2_with (go_at_call 317;refine (add_st (q := ⟨k,tp,tk,0,[],[l,r]⟩) (v := (.slice none 0 0,.slice (some ⟨w.heap.size + 1,0,none⟩) 2 2)) hn (blk_below HBK.out (HA _ _).out hlt) hpb ?_ (HPS.out.below (HA _ _).out) ?_).mono ?_;(rw [World.size_alloc,World.size_alloc];omega);exact row_two _ hbase HPS.out.row_lt;rintro _ w1 ⟨rfl,pv',hb1,hp1,hf1⟩)
 go_ret
 refine ⟨rfl,pv',hb1,hp1,(Fr.below' (HA _ _).out (Nat.le_of_lt hlt)).trans hf1⟩
theorem cpsC_len : ∀ (ps : List CP) (vs : List (Value × Value)),vs.length = ps.length -> (cpsC ps vs).length = ps.length * 6
 | [],_,_ => by simp [cpsC]
 | q :: ps,v :: vs,h => by
   have := cpsC_len ps vs (by simpa using h)
   simp only [cpsC,List.length_append,this,List.length_cons,ptC,List.length_nil];omega
 | _ :: _,[],h => by cases h
theorem cpsC_at : ∀ (ps : List CP) (vs : List (Value × Value)) (i : Nat) (h : i < ps.length) (h' : i < vs.length) (j : Nat),j < 6 -> (cpsC ps vs)[i * 6 + j]? = (ptC ps[i].k ps[i].a ps[i].wd ps[i].nm vs[i].1 vs[i].2)[j]?
 | q :: ps,v :: vs,0,_,_,j,hj => by
   simp only [cpsC,Nat.zero_mul,Nat.zero_add,List.getElem_cons_zero]
   rw [List.getElem?_append_left (by simpa [ptC] using hj)]
 | q :: ps,v :: vs,i + 1,h,h',j,hj => by
   have := cpsC_at ps vs i (by simpa using h) (by simpa using h') j hj
   simp only [cpsC,List.getElem_cons_succ]
   rw [List.getElem?_append_right (by simp [ptC];omega),<- this]
   congr 1
   simp [ptC];omega
theorem PsAt.cell {base : Nat} {w : World} {pv : Value} {ps : List CP} {vs : List (Value × Value)} (h : PsAt w base pv ps vs) {i : Nat} (hi : i < ps.length) : ∃ g cap,pv = .slice (some ⟨g,0,none⟩) ps.length cap /\ base <= g /\ g < w.heap.size /\ ps.length <= cap /\
 ∀ (h' : i < vs.length) j,j < 6 -> w.cell? ⟨g,i * 6 + j,none⟩ = (ptC ps[i].k ps[i].a ps[i].wd ps[i].nm vs[i].1 vs[i].2)[j]? := by
 have ho := h.own
 rcases ho.2 with ⟨_,h2⟩ | ⟨g,cap,cur,h1,h2,h3,h4,h5,_⟩
 ·omega
 ·refine ⟨g,cap,h1,h2,lt_of_block h3,h4,fun h' j hj => ?_⟩
  rw [h1] at ho
  rw [ho.cellAt (i * 6 + j) (by omega)]
  exact cpsC_at ps vs i hi h' j hj
def plOf (ps : List CP) (x : Int) : Nat := if x < 0 then 0 else if h : x.toNat < ps.length then ps[x.toNat].a else 0
set_option maxRecDepth 100000 in
theorem placeOf_any {w : World} {p lb cap base : Nat} {N : Int} {L : List Tok} {S : PF} {x : Int} {ps : List CP} {vs : List (Value × Value)} (hn : ps.length <= 100000) (hx : -1 <= x) (hx2 : x <= 1000000) (hblk : w.heap[p]? = some (pfB lb L.length cap N S)) (hps : PsAt w base S.pv ps vs) :
 Calls Tryz.prog 417 #[.pointer (some ⟨p,0,none⟩),.int .i64 x] w fun e w' => e = .returned (.int .i64 (plOf ps x)) /\ Below w.heap.size w w' := by
 have c4 : w.cell? ⟨p,4,none⟩ = some S.pv := blk_at hblk 4 rfl
 by_cases h0 : x < 0
 ·have e : plOf ps x = 0 := by unfold plOf;rw [if_pos h0]
  rw [e]
  have hd : decide (x < 0) = true := by simpa using h0
  clear hblk hps e
  go_enter Tryz.func417,Tryz.ntmps417
  go_wp2
  go_ret
  exact ⟨rfl,by first | exact Below.refl _ _ | exact (Below.refl _ _).drew⟩
 ·obtain ⟨i,rfl⟩ : ∃ i : Nat,x = i := ⟨x.toNat,by omega⟩
  by_cases h1 : i < ps.length
  ·obtain ⟨g,c,e1,e2,e3,e4,e5⟩ := hps.cell h1
   have e6 := e5 (by rw [hps.len];exact h1) 1 (by omega)
   have ea : plOf ps i = ps[i].a := by unfold plOf;rw [if_neg h0];simp [h1]
   rw [ea]
   obtain ⟨av,hav⟩ : ∃ av,ps[i].a = av := ⟨_,rfl⟩
   have e7 : w.cell? ⟨g,i * 6 + 1,none⟩ = some (.int .i64 av) := by rw [e6];simp [ptC,hav]
   rw [hav]
   rw [e1] at c4
   obtain ⟨n,hnn⟩ : ∃ n,ps.length = n := ⟨_,rfl⟩
   rw [hnn] at c4 hn h1 e4
   have hd : decide ((i : Int) < 0) = false := by simp
   have hd2 : decide ((n : Int) <= (i : Int)) = false := by simp;omega
   have hd3 : ((i : Int) < (n : Int)) := by omega
   clear hblk hps ea e1 e5 e6 hav hnn
   go_enter Tryz.func417,Tryz.ntmps417
   go_wp2
   go_ret
   exact ⟨rfl,by first | exact Below.refl _ _ | exact (Below.refl _ _).drew | exact (Below.refl _ _).drew.drew⟩
  ·have ea : plOf ps i = 0 := by unfold plOf;rw [if_neg h0];simp [h1]
   rw [ea]
   obtain ⟨a,c,e1⟩ := own_slice hps.own
   rw [e1] at c4
   obtain ⟨n,hnn⟩ : ∃ n,ps.length = n := ⟨_,rfl⟩
   rw [hnn] at c4 hn h1
   have hd : decide ((i : Int) < 0) = false := by simp
   have hd2 : decide ((n : Int) <= (i : Int)) = true := by simp;omega
   clear hblk hps ea e1 hnn
   go_enter Tryz.func417,Tryz.ntmps417
   go_wp2
   go_ret
   exact ⟨rfl,by first | exact Below.refl _ _ | exact (Below.refl _ _).drew⟩
def tkNm (t : Tok) : ByteArray := nmOf t.k t.t
def parL (L : List Tok) : Nat -> PF -> List ByteArray -> PF × List ByteArray
 | 0,S,ns => (S,ns)
 | f + 1,S,ns => if (cwAt L S.next).k = 2 then parL L f S.take (ns ++ [tkNm (cwAt L S.next)]) else (S,ns)
def lnOf : Value -> Nat
 | .slice _ n _ => n
 | _ => 0
theorem want_next {L : List Tok} {k : Nat} {S : PF} (hL : L.length <= 100000) (hS : S.next <= 900000) : (S.want L k).next <= 900001 := by
 unfold PF.want
 split
 ·show S.next + 1 <= _;omega
 ·show L.length + 1 <= _;omega
theorem app2 {w w1 : World} {o1 o2 : Obj} {base p n : Nat} {e : TypeId} {v : Value} {xs : List Value} {X : Obj} (hown : w.ownsRow base e 1 v n xs) (hp : p < base) (hbase : base <= w.heap.size) (hblk : w.heap[p]? = some X) (hg : ((w.alloc o1).alloc o2).grownBy w1 v.ownBlock) :
 w1.heap[p]? = some X /\ w.heap.size <= w1.heap.size /\ Below base w w1 := by
 have hB : Below base w ((w.alloc o1).alloc o2) := ((Below.refl _ _).alloc hbase _).alloc (by rw [World.size_alloc];omega) _
 have hs : ((w.alloc o1).alloc o2).heap.size = w.heap.size + 1 + 1 := by rw [World.size_alloc,World.size_alloc]
 have hb := hB.grown hg (by omega) (own_ge hown)
 refine ⟨blk_below hblk hb hp,?_,hb⟩
 have := hg.size
 omega
theorem Only.less {p B B' : Nat} {w w' : World} (h : Only p B w w') (hb : B' <= B) : Only p B' w w' := ⟨h.below,fun b h1 h2 => h.rest b (by omega) h2⟩
set_option maxRecDepth 100000 in
theorem parameters_any {w : World} {p lb cap : Nat} {N : Int} {L : List Tok} {S : PF} (hL : L.length <= 100000) (hS : S.next <= 900000) (hblk : w.heap[p]? = some (pfB lb L.length cap N S)) (hcap : L.length <= cap) (hcw : CW w lb L) (hlb : lb < p) :
 Calls Tryz.prog 318 #[.pointer (some ⟨p,0,none⟩)] w fun e w' => ∃ nv S' ns,e = .returned nv /\ parL L 3 (S.want L 2) [tkNm (wantW L 2 S)] = (S',ns) /\ w'.heap[p]? = some (pfB lb L.length cap N S') /\ w'.ownsRow w.heap.size 9 1 nv ns.length (ns.map Value.string) /\ Only p w.heap.size w w' /\ w.heap.size <= w'.heap.size /\ 1 <= ns.length /\ ns.length <= 4 := by
 have hlt := lt_of_block hblk
 have HBK : Hid (w.heap[p]? = some (pfB lb L.length cap N S)) := hblk
 have HCW : Hid (CW w lb L) := hcw
 obtain ⟨i0,hi0,hz0,hz1,hz2⟩ := info_parts Tryz.info9
 obtain ⟨R,hR⟩ : ∃ R,parL L 3 (S.want L 2) [tkNm (wantW L 2 S)] = R := ⟨_,rfl⟩
 have HR : Hid (parL L 3 (S.want L 2) [tkNm (wantW L 2 S)] = R) := hR
 obtain ⟨a0,a1,a2,a3,hcv,ha3⟩ : ∃ a0 a1 a2 a3,cwV (wantW L 2 S) = .agg #[.int .i64 a0,.int .i64 a1,.int .i64 a2,.string a3] /\ a3 = tkNm (wantW L 2 S) := ⟨_,_,_,_,rfl,rfl⟩
 have HCV : Hid (cwV (wantW L 2 S) = .agg #[.int .i64 a0,.int .i64 a1,.int .i64 a2,.string a3]) := hcv
 have HA3 : Hid (a3 = tkNm (wantW L 2 S)) := ha3
 rw [hR]
 have HNX : Hid ((S.want L 2).next <= 900001) := want_next hL hS
 clear hblk hcw hR hcv ha3
 go_enter Tryz.func318,Tryz.ntmps318
 go_wp2_with (go_at_call 177;refine (want_any hL (by omega) HBK.out hcap HCW.out hlb).mono ?_;rw [HCV.out];rintro _ w1 ⟨rfl,hbp1,hO1⟩;have hs1 := hO1.below.size)
 have HA : ∀ (v : World) (o1 o2 : Obj),Hid (Below v.heap.size v ((v.alloc o1).alloc o2)) := fun v o1 o2 => (((Below.refl _ _).alloc (Nat.le_refl _) _).alloc (by rw [World.size_alloc];omega) _)
 have HB1 : Hid (w1.heap[p]? = some (pfB lb L.length cap N (S.want L 2))) := hbp1
 have HO1 : Hid (Only p w.heap.size w w1) := hO1
 clear hbp1 hO1
 go_loopw [4] (fun v wr => ∃ (ns : List ByteArray) (T : PF),1 <= ns.length /\ ns.length <= 4 /\ T.next <= 900000 + ns.length /\ parL L (4 - ns.length) T ns = R /\ lnOf v = ns.length /\ wr.ownsRow w.heap.size 9 1 v ns.length (ns.map Value.string) /\ wr.heap[p]? = some (pfB lb L.length cap N T) /\ Only p w.heap.size w wr /\ w.heap.size <= wr.heap.size) (fun v _ => 4 - lnOf v)
 case atStart =>
  have hb2 := (HA w1 (.cells #[.int .i64 a0,.int .i64 a1,.int .i64 a2,.string a3] 294) (.cells #[.string a3] 9)).out
  refine ⟨[a3],S.want L 2,by simp,by simp,HNX.out,by rw [HA3.out];exact HR.out,rfl,?_,blk_below HB1.out hb2 (by omega),HO1.out.trans (Only.of (hb2.mono hs1) (by omega)),by have := hb2.size;omega⟩
  have h := heap_alloc_new (w1.alloc (.cells #[.int .i64 a0,.int .i64 a1,.int .i64 a2,.string a3] 294)) (.cells #[.string a3] 9)
  rw [World.size_alloc] at h
  exact own_new (xs := [.string a3]) h (by omega) (by simp [maxLen])
 case round =>
  obtain ⟨ns,T,h1,h2,h3,h4,h5,h6,h7,h8,h9⟩ := hrel
  obtain ⟨g,c,rfl,hg1,hg2,hg3,hg4⟩ := own_shapeP h6 h1
  have HOW : Hid (wr.ownsRow w.heap.size 9 1 (.slice (some ⟨g,0,none⟩) ns.length c) ns.length (ns.map Value.string)) := h6
  have HBT : Hid (wr.heap[p]? = some (pfB lb L.length cap N T)) := h7
  have HON : Hid (Only p w.heap.size w wr) := h8
  have HRR : Hid (parL L (4 - ns.length) T ns = R) := h4
  have HCR : Hid (CW wr lb L) := HCW.out.only h8 hlb
  have HTN : Hid (T.next <= 900000 + ns.length) := h3
  obtain ⟨kk,hkk⟩ : ∃ kk,(cwAt L T.next).k = kk := ⟨_,rfl⟩
  have HKK : Hid ((cwAt L T.next).k = kk) := hkk
  obtain ⟨b0,b1,b2,b3,hcv,hb3⟩ : ∃ b0 b1 b2 b3,cwV (cwAt L T.next) = .agg #[.int .i64 b0,.int .i64 b1,.int .i64 b2,.string b3] /\ b3 = tkNm (cwAt L T.next) := ⟨_,_,_,_,rfl,rfl⟩
  have HCT : Hid (cwV (cwAt L T.next) = .agg #[.int .i64 b0,.int .i64 b1,.int .i64 b2,.string b3]) := hcv
  have HB3 : Hid (b3 = tkNm (cwAt L T.next)) := hb3
  clear h4 h5 h6 h7 h8 h3 hkk hcv hb3
  obtain ⟨m,hm⟩ : ∃ m,ns.length = m := ⟨_,rfl⟩
  have HM : Hid (ns.length = m) := hm
  rw [hm] at h1 h2 hg3 ⊢ HOW HRR HTN
  clear hm
  by_cases hm4 : m < 4
  ·have hd : decide ((m : Int) < 4) = true := by simp;omega
   by_cases hk : kk = 2
   ·subst hk
    have hRN : Hid (parL L (4 - (m + 1)) T.take (ns ++ [b3]) = R) := by
     have h := HRR.out
     rw [show 4 - m = (4 - (m + 1)) + 1 by omega,parL,if_pos HKK.out,<- HB3.out] at h
     exact h
    go_wp2_with (first
     | (go_at_call 248;refine (pkind_any HKK.out hL HBT.out hcap HCR.out hlb).mono ?_;rintro _ w2 ⟨rfl,hb2⟩;have hs2 := hb2.size;have hbt2 := blk_below HBT.out hb2 (by omega);have hcr2 := HCR.out.below hb2 (by omega))
     | (go_at_call 254;refine (take_at HCT.out hL (by have := HTN.out;omega) hbt2 hcap hcr2 hlb).mono ?_;rintro _ w3 ⟨rfl,hbt3,hO3⟩;have hs3 := hO3.below.size;have hown3 := own_block_keep (own_below HOW.out hb2) (fun b hb => hO3.rest b (by have := HOW.out.lt b hb;omega) (by have := HOW.out.lt b hb;omega)))
     | (at_builtin;refine wpList_append_own2 _ rfl (.tmp 21) (.tmp 24) 114 rfl w.heap.size 9 i0 _ 1 16 Tryz.underlying114 hi0 hz0 hz1 hz2 rfl (by decide) _ _ _ rfl ((hown3.alloc _).alloc _) _ 1 1 [.string b3] rfl rfl (cells_new _ _ _ _ (by simp)) ?_ ?_ ?_ ?_ ?_;(intro u hu;simp at hu;subst hu;rfl);(unfold maxLen;omega);omega;(simp;omega);intro v' w4 hown4 hg4' hrow4))
    obtain ⟨g4,c4,rfl,k1,k2,k3,k4⟩ := own_shapeP hown4 (by omega)
    obtain ⟨r1,r2,r3⟩ := app2 hown3 (show p < w.heap.size by omega) (by omega) hbt3 hg4'
    have hl : (ns ++ [b3]).length = m + 1 := by rw [List.length_append,HM.out];rfl
    refine ⟨⟨ns ++ [b3],T.take,by omega,by omega,?_,by rw [hl];exact hRN.out,by rw [hl];rfl,?_,r1,?_,by omega⟩,?_⟩
    ·rw [hl];have := HTN.out;show T.next + 1 <= _;omega
    ·rw [hl,List.map_append];exact hown4
    ·exact ((HON.out.trans (Only.of (hb2.mono h9) (by omega))).trans (hO3.less (by omega))).trans (Only.of r3 (by omega))
    ·simp [lnOf];omega
   ·have hkb : ((kk : Int) == (2 : Int)) = false := by simp;omega
    have hRN : Hid (R = (T,ns)) := by
     have h := HRR.out
     rw [show 4 - m = (4 - (m + 1)) + 1 by omega,parL,if_neg (by rw [HKK.out];exact hk)] at h
     exact h.symm
    clear hk
    go_wp2_with (go_at_call 248;refine (pkind_any HKK.out hL HBT.out hcap HCR.out hlb).mono ?_;rintro _ w2 ⟨rfl,hb2⟩;have hs2 := hb2.size;have hbt2 := blk_below HBT.out hb2 (by omega))
    go_ret
    exact ⟨_,T,ns,rfl,hRN.out,hbt2,by rw [HM.out];exact own_below HOW.out hb2,HON.out.trans (Only.of (hb2.mono h9) (by omega)),by omega,by rw [HM.out];exact ⟨h1,h2⟩⟩
  ·have hd : decide ((m : Int) < 4) = false := by simp;omega
   have hRN : Hid (R = (T,ns)) := by
    have h := HRR.out
    rw [show 4 - m = 0 by omega,parL] at h
    exact h.symm
   go_wp2_with fail
   go_ret
   exact ⟨_,T,ns,rfl,hRN.out,HBT.out,by rw [HM.out];exact HOW.out,HON.out,by omega,by rw [HM.out];exact ⟨h1,h2⟩⟩
theorem want_next' {L : List Tok} {k M : Nat} {S : PF} (hL : L.length <= M) (hS : S.next <= M) : (S.want L k).next <= M + 1 := by
 unfold PF.want
 split
 ·show S.next + 1 <= _;omega
 ·show L.length + 1 <= _;omega
def fnN (L : List Tok) (S : PF) : PF × List ByteArray := ((parL L 3 ((S.want L 2).want L 2) [tkNm (wantW L 2 (S.want L 2))]).1,tkNm (wantW L 2 S) :: (parL L 3 ((S.want L 2).want L 2) [tkNm (wantW L 2 (S.want L 2))]).2)
set_option maxRecDepth 100000 in
theorem functionNames_any {w : World} {p lb cap : Nat} {N : Int} {L : List Tok} {S : PF} (hL : L.length <= 100000) (hS : S.next <= 800000) (hblk : w.heap[p]? = some (pfB lb L.length cap N S)) (hcap : L.length <= cap) (hcw : CW w lb L) (hlb : lb < p) :
 Calls Tryz.prog 315 #[.pointer (some ⟨p,0,none⟩)] w fun e w' => ∃ nv S' ns,e = .returned nv /\ fnN L S = (S',ns) /\ w'.heap[p]? = some (pfB lb L.length cap N S') /\ w'.ownsRow w.heap.size 9 1 nv ns.length (ns.map Value.string) /\ Only p w.heap.size w w' /\ w.heap.size <= w'.heap.size /\ 2 <= ns.length /\ ns.length <= 5 := by
 have hlt := lt_of_block hblk
 have HBK : Hid (w.heap[p]? = some (pfB lb L.length cap N S)) := hblk
 have HCW : Hid (CW w lb L) := hcw
 obtain ⟨i0,hi0,hz0,hz1,hz2⟩ := info_parts Tryz.info9
 obtain ⟨a0,a1,a2,a3,hcv,ha3⟩ : ∃ a0 a1 a2 a3,cwV (wantW L 2 S) = .agg #[.int .i64 a0,.int .i64 a1,.int .i64 a2,.string a3] /\ a3 = tkNm (wantW L 2 S) := ⟨_,_,_,_,rfl,rfl⟩
 have HCV : Hid (cwV (wantW L 2 S) = .agg #[.int .i64 a0,.int .i64 a1,.int .i64 a2,.string a3]) := hcv
 unfold fnN
 rw [<- ha3]
 obtain ⟨S1,hS1⟩ : ∃ S1,S.want L 2 = S1 := ⟨_,rfl⟩
 have hn1 := want_next' (L := L) (k := 2) (M := 800000) (by omega) hS
 rw [hS1] at hn1 ⊢
 have HS1 : Hid (S.want L 2 = S1) := hS1
 obtain ⟨R,hR⟩ : ∃ R,parL L 3 (S1.want L 2) [tkNm (wantW L 2 S1)] = R := ⟨_,rfl⟩
 have HR : Hid (parL L 3 (S1.want L 2) [tkNm (wantW L 2 S1)] = R) := hR
 rw [hR]
 clear hblk hcw hR hcv ha3 hS1
 go_enter Tryz.func315,Tryz.ntmps315
 go_wp2_with (first
  | (go_at_call 177;refine (want_any hL (by omega) HBK.out hcap HCW.out hlb).mono ?_;rw [HCV.out,HS1.out];rintro _ w1 ⟨rfl,hbp1,hO1⟩;have hs1 := hO1.below.size;have hcw1 := HCW.out.only hO1 hlb)
  | (go_at_call 318;refine (parameters_any hL (by omega) (al_old hbp1) hcap (hcw1.below ((Below.refl w1.heap.size w1).alloc (Nat.le_refl _) _) (by omega)) hlb).mono ?_;rw [HR.out];rintro _ w2 ⟨nv,S2,ns,rfl,hR2,hbp2,hown2,hO2,hs2,hn2,hn3⟩;rw [World.size_alloc] at hs2 hown2 hO2;obtain ⟨g,c,rfl,hg1,hg2,hg3,hg4⟩ := own_shapeP hown2 hn2;have hbr2 := (hO2.rest w1.heap.size (by omega) (by omega)).trans (blk_new w1 _);have e3 := blk_at hbr2 3 rfl)
  | (at_builtin;refine wpList_append_own2 _ rfl (.tmp 11) (.tmp 12) 114 rfl w.heap.size 9 i0 _ 1 16 Tryz.underlying114 hi0 hz0 hz1 hz2 rfl (by decide) _ _ _ rfl (own_new (xs := [.string a3]) (heap_alloc_new w2 _) (by omega) (by simp [maxLen])) _ ns.length c (ns.map Value.string) rfl (by simp) ((hown2.alloc _).cells rfl) ?_ ?_ ?_ ?_ ?_;(intro u hu;simp at hu;obtain ⟨x,_,rfl⟩ := hu;rfl);(simp [maxLen];omega);(simp;omega);(simp;omega);intro v' w4 hown4 hg4' hrow4))
 have hgr : (w2.alloc (.cells #[.string a3] 9)).grownBy w4 (some w2.heap.size) := hg4'
 have hb4 : Below w.heap.size w2 w4 := ((Below.refl _ _).alloc (by omega) _).grown hgr (by rw [World.size_alloc];omega) (fun k hk => by cases hk;omega)
 have hs4 := hgr.size
 rw [World.size_alloc] at hs4
 have hl : (a3 :: ns).length = [Value.string a3].length + ns.length := by simp [Nat.add_comm]
 clear hg4' hrow4
 subst hR2
 go_ret
 refine ⟨_,S2,a3 :: ns,rfl,rfl,blk_below hbp2 hb4 (by omega),?_,?_,by omega,by simp;omega,by simp;omega⟩
 ·rw [hl];exact hown4
 ·exact ((hO1.trans (Only.of ((Below.refl w.heap.size w1).alloc (by omega) _) (by omega))).trans (hO2.less (by omega))).trans (Only.of hb4 (by omega))
def tupL (L : List Tok) : Nat -> PF -> List ByteArray -> PF × List ByteArray
 | 0,S,ns => (S,ns)
 | f + 1,S,ns => if (cwAt L S.next).k = 25 then tupL L f (S.take.want L 2) (ns ++ [tkNm (wantW L 2 S.take)]) else (S,ns)
def tpB (L : List Tok) (N : Int) (S : PF) : PF × List ByteArray :=
 tupL L 4 ((((S.begin L N 23).want L 2).want L 25).want L 2) [tkNm (wantW L 2 (S.begin L N 23)),tkNm (wantW L 2 (((S.begin L N 23).want L 2).want L 25))]
def tpN (L : List Tok) (N : Int) (S : PF) : PF × List ByteArray := ((tpB L N S).1.finish L,(tpB L N S).2)
theorem begin_next {L : List Tok} {N : Int} {k M : Nat} {S : PF} (hL : L.length <= M) (hS : S.next <= M) : (S.begin L N k).next <= M + 1 := by
 show (S.beg0 L N k).next + 1 <= _
 have : (S.beg0 L N k).next <= M := by
  unfold PF.beg0
  split <;> (try split)
  ·exact hL
  ·exact hS
  ·exact hL
 omega
theorem begin_opn (L : List Tok) (N : Int) (k : Nat) (S : PF) : (S.begin L N k).opn = S.opn + 1 := by
 show (S.beg0 L N k).opn + 1 = _
 rw [beg0_opn]
set_option maxRecDepth 100000 in
theorem tupleNames_any {w : World} {p lb cap : Nat} {N : Int} {L : List Tok} {S : PF} (hL : L.length <= 100000) (hS : S.next <= 800000) (ho1 : -100000 <= S.opn) (ho2 : S.opn <= 100000) (hblk : w.heap[p]? = some (pfB lb L.length cap N S)) (hcap : L.length <= cap) (hcw : CW w lb L) (hlb : lb < p) :
 Calls Tryz.prog 316 #[.pointer (some ⟨p,0,none⟩)] w fun e w' => ∃ nv S' ns,e = .returned nv /\ tpN L N S = (S',ns) /\ w'.heap[p]? = some (pfB lb L.length cap N S') /\ w'.ownsRow w.heap.size 9 1 nv ns.length (ns.map Value.string) /\ Only p w.heap.size w w' /\ w.heap.size <= w'.heap.size /\ 2 <= ns.length /\ ns.length <= 6 := by
 have hlt := lt_of_block hblk
 have HBK : Hid (w.heap[p]? = some (pfB lb L.length cap N S)) := hblk
 have HCW : Hid (CW w lb L) := hcw
 obtain ⟨i0,hi0,hz0,hz1,hz2⟩ := info_parts Tryz.info9
 obtain ⟨RB,hRB⟩ : ∃ RB,tpB L N S = RB := ⟨_,rfl⟩
 unfold tpN
 rw [hRB]
 unfold tpB at hRB
 have hn0 := begin_next (L := L) (N := N) (k := 23) (M := 800000) (by omega) hS
 have hp0 := begin_opn L N 23 S
 obtain ⟨z0,z1,z2,z3,hzv⟩ : ∃ z0 z1 z2 z3,cwV (cwAt L (S.beg0 L N 23).next) = .agg #[.int .i64 z0,.int .i64 z1,.int .i64 z2,.string z3] := ⟨_,_,_,_,rfl⟩
 have HZV : Hid (cwV (cwAt L (S.beg0 L N 23).next) = .agg #[.int .i64 z0,.int .i64 z1,.int .i64 z2,.string z3]) := hzv
 obtain ⟨S0,hS0⟩ : ∃ S0,S.begin L N 23 = S0 := ⟨_,rfl⟩
 have HS0 : Hid (S.begin L N 23 = S0) := hS0
 rw [hS0] at hRB hn0 hp0
 have hn1 := want_next' (L := L) (k := 2) (M := 800001) (by omega) hn0
 have hp1 := want_opn L 2 S0
 obtain ⟨a0,a1,a2,a3,hcv,ha3⟩ : ∃ a0 a1 a2 a3,cwV (wantW L 2 S0) = .agg #[.int .i64 a0,.int .i64 a1,.int .i64 a2,.string a3] /\ a3 = tkNm (wantW L 2 S0) := ⟨_,_,_,_,rfl,rfl⟩
 have HCV : Hid (cwV (wantW L 2 S0) = .agg #[.int .i64 a0,.int .i64 a1,.int .i64 a2,.string a3]) := hcv
 obtain ⟨S1,hS1⟩ : ∃ S1,S0.want L 2 = S1 := ⟨_,rfl⟩
 have HS1 : Hid (S0.want L 2 = S1) := hS1
 rw [<- ha3,hS1] at hRB
 rw [hS1] at hn1 hp1
 have hn2 := want_next' (L := L) (k := 25) (M := 800002) (by omega) hn1
 have hp2 := want_opn L 25 S1
 obtain ⟨y0,y1,y2,y3,hyv⟩ : ∃ y0 y1 y2 y3,cwV (wantW L 25 S1) = .agg #[.int .i64 y0,.int .i64 y1,.int .i64 y2,.string y3] := ⟨_,_,_,_,rfl⟩
 have HYV : Hid (cwV (wantW L 25 S1) = .agg #[.int .i64 y0,.int .i64 y1,.int .i64 y2,.string y3]) := hyv
 obtain ⟨S2,hS2⟩ : ∃ S2,S1.want L 25 = S2 := ⟨_,rfl⟩
 have HS2 : Hid (S1.want L 25 = S2) := hS2
 rw [hS2] at hRB hn2 hp2
 have hn3 := want_next' (L := L) (k := 2) (M := 800003) (by omega) hn2
 have hp3 := want_opn L 2 S2
 obtain ⟨b0,b1,b2,b3,hdv,hb3⟩ : ∃ b0 b1 b2 b3,cwV (wantW L 2 S2) = .agg #[.int .i64 b0,.int .i64 b1,.int .i64 b2,.string b3] /\ b3 = tkNm (wantW L 2 S2) := ⟨_,_,_,_,rfl,rfl⟩
 have HDV : Hid (cwV (wantW L 2 S2) = .agg #[.int .i64 b0,.int .i64 b1,.int .i64 b2,.string b3]) := hdv
 obtain ⟨S3,hS3⟩ : ∃ S3,S2.want L 2 = S3 := ⟨_,rfl⟩
 have HS3 : Hid (S2.want L 2 = S3) := hS3
 rw [<- hb3,hS3] at hRB
 rw [hS3] at hn3 hp3
 have HRB : Hid (tupL L 4 S3 [a3,b3] = RB) := hRB
 have HP3 : Hid (S3.opn = S.opn + 1) := by show _ = _;omega
 clear hblk hcw hRB hzv hcv hyv hdv ha3 hb3 hS0 hS1 hS2 hS3 hp0 hp1 hp2 hp3
 go_enter Tryz.func316,Tryz.ntmps316
 go_wp2_with (first
  | (go_at_call 360;refine (begin_any hL (by omega) (by omega) (by omega) HBK.out hcap HCW.out hlb).mono ?_;rw [HZV.out,HS0.out];rintro _ w0 ⟨rfl,hbp0,hO0⟩;have hs0 := hO0.below.size;have hcw0 := HCW.out.only hO0 hlb)
  | (go_at_call 177;refine (want_any hL (show S0.next <= 1000000 by omega) hbp0 hcap hcw0 hlb).mono ?_;rw [HCV.out,HS1.out];rintro _ w1 ⟨rfl,hbp1,hO1⟩;clear hbp0;have hs1 := hO1.below.size;have hcw1 := hcw0.only hO1 hlb)
  | (go_at_call 177;refine (want_any hL (show S1.next <= 1000000 by omega) (al_old hbp1) hcap (hcw1.below ((Below.refl w1.heap.size w1).alloc (Nat.le_refl _) _) (by omega)) hlb).mono ?_;rw [HYV.out,HS2.out];rintro _ w2 ⟨rfl,hbp2,hO2⟩;have hs2 := hO2.below.size;have hcw2 := (hcw1.below ((Below.refl w1.heap.size w1).alloc (Nat.le_refl _) _) (by omega)).only hO2 hlb;clear hbp1;rw [World.size_alloc] at hs2 hO2;have hbr2 := (hO2.rest w1.heap.size (by omega) (by omega)).trans (blk_new w1 _))
  | (go_at_call 177;refine (want_any hL (show S2.next <= 1000000 by omega) hbp2 hcap hcw2 hlb).mono ?_;rw [HDV.out,HS3.out];rintro _ w3 ⟨rfl,hbp3,hO3⟩;clear hbp2;have hs3 := hO3.below.size;have hcw3 := hcw2.only hO3 hlb;have hbr3 := (hO3.rest w1.heap.size (by omega) (by omega)).trans hbr2;have e3 := blk_at (al_old (o := .cells #[.int .i64 b0,.int .i64 b1,.int .i64 b2,.string b3] 294) hbr3) 3 rfl;have e3' := blk_at hbr3 3 rfl))
 have HA : ∀ (v : World) (o1 o2 : Obj),Hid (Below v.heap.size v ((v.alloc o1).alloc o2)) := fun v o1 o2 => (((Below.refl _ _).alloc (Nat.le_refl _) _).alloc (by rw [World.size_alloc];omega) _)
 have HB1 : Hid (w3.heap[p]? = some (pfB lb L.length cap N S3)) := hbp3
 have HO1 : Hid (Only p w.heap.size w w3) := (((hO0.trans (hO1.less hs0)).trans (Only.of ((Below.refl w.heap.size w1).alloc (by omega) _) (by omega))).trans (hO2.less (by omega))).trans (hO3.less (by omega))
 have hs13 : w.heap.size <= w3.heap.size := by omega
 clear hbp3 hO0 hO1 hO2 hO3 hbr2 hbr3 e3 e3' hcw0 hcw1 hcw2 hcw3
 go_loopw [5] (fun v wr => ∃ (ns : List ByteArray) (T : PF),2 <= ns.length /\ ns.length <= 6 /\ T.next <= 800000 + 2 * ns.length /\ T.opn = S.opn + 1 /\ tupL L (6 - ns.length) T ns = RB /\ lnOf v = ns.length /\ wr.ownsRow w.heap.size 9 1 v ns.length (ns.map Value.string) /\ wr.heap[p]? = some (pfB lb L.length cap N T) /\ Only p w.heap.size w wr /\ w.heap.size <= wr.heap.size) (fun v _ => 6 - lnOf v)
 case atStart =>
  have hb2 := (HA w3 (.cells #[.int .i64 b0,.int .i64 b1,.int .i64 b2,.string b3] 294) (.cells #[.string a3,.string b3] 9)).out
  refine ⟨[a3,b3],S3,by simp,by simp,hn3,HP3.out,HRB.out,rfl,?_,blk_below HB1.out hb2 (by omega),HO1.out.trans (Only.of (hb2.mono hs13) (by omega)),by have := hb2.size;omega⟩
  have h := heap_alloc_new (w3.alloc (.cells #[.int .i64 b0,.int .i64 b1,.int .i64 b2,.string b3] 294)) (.cells #[.string a3,.string b3] 9)
  rw [World.size_alloc] at h
  exact own_new (xs := [.string a3,.string b3]) h (by omega) (by simp [maxLen])
 case round =>
  obtain ⟨ns,T,h1,h2,h3,h3',h4,h5,h6,h7,h8,h9⟩ := hrel
  obtain ⟨g,c,rfl,hg1,hg2,hg3,hg4⟩ := own_shapeP h6 (by omega)
  have HOW : Hid (wr.ownsRow w.heap.size 9 1 (.slice (some ⟨g,0,none⟩) ns.length c) ns.length (ns.map Value.string)) := h6
  have HBT : Hid (wr.heap[p]? = some (pfB lb L.length cap N T)) := h7
  have HON : Hid (Only p w.heap.size w wr) := h8
  have HRR : Hid (tupL L (6 - ns.length) T ns = RB) := h4
  have HCR : Hid (CW wr lb L) := HCW.out.only h8 hlb
  have HTN : Hid (T.next <= 800000 + 2 * ns.length) := h3
  have HTO : Hid (T.opn = S.opn + 1) := h3'
  obtain ⟨kk,hkk⟩ : ∃ kk,(cwAt L T.next).k = kk := ⟨_,rfl⟩
  have HKK : Hid ((cwAt L T.next).k = kk) := hkk
  obtain ⟨q0,q1,q2,q3,hqv⟩ : ∃ q0 q1 q2 q3,cwV (cwAt L T.next) = .agg #[.int .i64 q0,.int .i64 q1,.int .i64 q2,.string q3] := ⟨_,_,_,_,rfl⟩
  have HQV : Hid (cwV (cwAt L T.next) = .agg #[.int .i64 q0,.int .i64 q1,.int .i64 q2,.string q3]) := hqv
  obtain ⟨r0,r1,r2,r3,hrv,hr3⟩ : ∃ r0 r1 r2 r3,cwV (wantW L 2 T.take) = .agg #[.int .i64 r0,.int .i64 r1,.int .i64 r2,.string r3] /\ r3 = tkNm (wantW L 2 T.take) := ⟨_,_,_,_,rfl,rfl⟩
  have HRV : Hid (cwV (wantW L 2 T.take) = .agg #[.int .i64 r0,.int .i64 r1,.int .i64 r2,.string r3]) := hrv
  have HR3 : Hid (r3 = tkNm (wantW L 2 T.take)) := hr3
  clear h4 h5 h6 h7 h8 h3 h3' hkk hqv hrv hr3
  obtain ⟨m,hm⟩ : ∃ m,ns.length = m := ⟨_,rfl⟩
  have HM : Hid (ns.length = m) := hm
  rw [hm] at h1 h2 hg3 ⊢ HOW HRR HTN
  clear hm
  by_cases hm4 : m < 6
  ·have hd : decide ((m : Int) < 6) = true := by simp;omega
   by_cases hk : kk = 25
   ·subst hk
    have hRN : Hid (tupL L (6 - (m + 1)) (T.take.want L 2) (ns ++ [r3]) = RB) := by
     have h := HRR.out
     rw [show 6 - m = (6 - (m + 1)) + 1 by omega,tupL,if_pos HKK.out,<- HR3.out] at h
     exact h
    have hnt : T.take.next <= 800000 + 2 * m + 1 := by have := HTN.out;show T.next + 1 <= _;omega
    have HNW : Hid ((T.take.want L 2).next <= 800000 + 2 * m + 1 + 1) := want_next' (by omega) hnt
    have HOW2 : Hid ((T.take.want L 2).opn = S.opn + 1) := (want_opn L 2 T.take).trans HTO.out
    go_wp2_with (first
     | (go_at_call 248;refine (pkind_any HKK.out hL HBT.out hcap HCR.out hlb).mono ?_;rintro _ w4 ⟨rfl,hb4⟩;have hs4 := hb4.size;have hbt4 := blk_below HBT.out hb4 (by omega);have hcr4 := HCR.out.below hb4 (by omega))
     | (go_at_call 254;refine (take_at HQV.out hL (by have := HTN.out;omega) hbt4 hcap hcr4 hlb).mono ?_;rintro _ w5 ⟨rfl,hbt5,hO5⟩;have hs5 := hO5.below.size;have hcr5 := hcr4.only hO5 hlb;have hown5 := own_block_keep (own_below HOW.out hb4) (fun b hb => hO5.rest b (by have := HOW.out.lt b hb;omega) (by have := HOW.out.lt b hb;omega)))
     | (go_at_call 177;refine (want_any hL (by omega) hbt5 hcap hcr5 hlb).mono ?_;rw [HRV.out];rintro _ w6 ⟨rfl,hbt6,hO6⟩;have hs6 := hO6.below.size;have hown6 := own_block_keep hown5 (fun b hb => hO6.rest b (by have := HOW.out.lt b hb;omega) (by have := HOW.out.lt b hb;omega)))
     | (at_builtin;refine wpList_append_own2 _ rfl (.tmp 32) (.tmp 35) 114 rfl w.heap.size 9 i0 _ 1 16 Tryz.underlying114 hi0 hz0 hz1 hz2 rfl (by decide) _ _ _ rfl ((hown6.alloc _).alloc _) _ 1 1 [.string r3] rfl rfl (cells_new _ _ _ _ (by simp)) ?_ ?_ ?_ ?_ ?_;(intro u hu;simp at hu;subst hu;rfl);(unfold maxLen;omega);omega;(simp;omega);intro v' w7 hown7 hg7' hrow7))
    obtain ⟨g7,c7,rfl,k1,k2,k3,k4⟩ := own_shapeP hown7 (by omega)
    obtain ⟨t1,t2,t3⟩ := app2 hown6 (show p < w.heap.size by omega) (by omega) hbt6 hg7'
    have hl : (ns ++ [r3]).length = m + 1 := by rw [List.length_append,HM.out];rfl
    refine ⟨⟨ns ++ [r3],T.take.want L 2,by omega,by omega,?_,HOW2.out,by rw [hl];exact hRN.out,by rw [hl];rfl,?_,t1,?_,by omega⟩,?_⟩
    ·rw [hl];have := HNW.out;omega
    ·rw [hl,List.map_append];exact hown7
    ·exact (((HON.out.trans (Only.of (hb4.mono h9) (by omega))).trans (hO5.less (by omega))).trans (hO6.less (by omega))).trans (Only.of t3 (by omega))
    ·simp [lnOf];omega
   ·have hkb : ((kk : Int) == (25 : Int)) = false := by simp;omega
    have hRN : RB = (T,ns) := by
     have h := HRR.out
     rw [show 6 - m = (6 - (m + 1)) + 1 by omega,tupL,if_neg (by rw [HKK.out];exact hk)] at h
     exact h.symm
    subst hRN
    clear hk
    go_wp2_with (first
     | (go_at_call 248;refine (pkind_any HKK.out hL HBT.out hcap HCR.out hlb).mono ?_;rintro _ w4 ⟨rfl,hb4⟩;have hs4 := hb4.size;have hbt4 := blk_below HBT.out hb4 (by omega);have hcr4 := HCR.out.below hb4 (by omega))
     | (go_at_call 361;refine (finish_any hL (by have := HTN.out;omega) (by have := HTO.out;omega) (by have := HTO.out;omega) hbt4 hcap hcr4 hlb).mono ?_;rintro _ w5 ⟨⟨u5',rfl⟩,hbp5,hO5⟩;have hs5 := hO5.below.size))
    go_ret
    exact ⟨_,rfl,_,ns,⟨rfl,rfl⟩,hbp5,by rw [HM.out];exact own_block_keep (own_below HOW.out hb4) (fun b hb => hO5.rest b (by have := HOW.out.lt b hb;omega) (by have := HOW.out.lt b hb;omega)),(HON.out.trans (Only.of (hb4.mono h9) (by omega))).trans (hO5.less (by omega)),by omega,by rw [HM.out];exact ⟨h1,h2⟩⟩
  ·have hd : decide ((m : Int) < 6) = false := by simp;omega
   have hRN : RB = (T,ns) := by
    have h := HRR.out
    rw [show 6 - m = 0 by omega,tupL] at h
    exact h.symm
   subst hRN
   go_wp2_with (go_at_call 361;refine (finish_any hL (by have := HTN.out;omega) (by have := HTO.out;omega) (by have := HTO.out;omega) HBT.out hcap HCR.out hlb).mono ?_;rintro _ w5 ⟨⟨u5',rfl⟩,hbp5,hO5⟩;have hs5 := hO5.below.size)
   go_ret
   exact ⟨_,rfl,_,ns,⟨rfl,rfl⟩,hbp5,by rw [HM.out];exact own_block_keep HOW.out (fun b hb => hO5.rest b (by have := HOW.out.lt b hb;omega) (by have := HOW.out.lt b hb;omega)),HON.out.trans (hO5.less (by omega)),by omega,by rw [HM.out];exact ⟨h1,h2⟩⟩
structure Q where
 S : PF
 ps : List CP
namespace Q
def kind (L : List Tok) (q : Q) : Nat := (cwAt L q.S.next).k
def word (L : List Tok) (q : Q) : Tok := cwAt L q.S.next
def take (q : Q) : Q := ⟨q.S.take,q.ps⟩
def want (L : List Tok) (k : Nat) (q : Q) : Q := ⟨q.S.want L k,q.ps⟩
def fail (L : List Tok) (e : Int) (q : Q) : Q := ⟨q.S.fail L e,q.ps⟩
def beg (L : List Tok) (N : Int) (k : Nat) (q : Q) : Q := ⟨q.S.begin L N k,q.ps⟩
def begW (L : List Tok) (N : Int) (k : Nat) (q : Q) : Tok := cwAt L (q.S.beg0 L N k).next
def finish (L : List Tok) (q : Q) : Q := ⟨q.S.finish L,q.ps⟩
def fine (q : Q) : Prop := q.S.next <= 500000 /\ -50000 <= q.S.opn /\ q.S.opn <= 50000 /\ q.ps.length <= 90000
instance (q : Q) : Decidable q.fine := by unfold fine;infer_instance
def add (q : Q) (c : CP) : Q := ⟨q.S,q.ps ++ [c]⟩
def par (L : List Tok) (q : Q) : Q × List ByteArray := let r := parL L 3 (q.S.want L 2) [tkNm (wantW L 2 q.S)];(⟨r.1,q.ps⟩,r.2)
def fnm (L : List Tok) (q : Q) : Q × List ByteArray := let r := fnN L q.S;(⟨r.1,q.ps⟩,r.2)
def tpm (L : List Tok) (N : Int) (q : Q) : Q × List ByteArray := let r := tpN L N q.S;(⟨r.1,q.ps⟩,r.2)
end Q
inductive Md where
 | expr | lett | choice | func | seq | cmp | sum | prod | un | call | operand | atom | brk
 | pref (k c : Nat)
 | sumL (l : Int) | prodL (l : Int) | operL (l : Int)
 | callL (ks : List Int) | tupL (t : Tok) (ks : List Int) | prefL (k c : Nat) (t : Tok) (ks : List Int)
abbrev Rt := Option (Int × Q)
def bnd (r : Rt) (f : Int -> Q -> Rt) : Rt :=
 match r with
 | some (x,q) => if q.fine then f x q else none
 | none => none
def out (x : Int) (q : Q) : Rt := if q.fine then some (x,q) else none
def addR (q : Q) (c : CP) : Rt := if q.fine then some (q.ps.length,q.add c) else none
def letN (L : List Tok) (N : Int) (q : Q) : Nat × Q × List ByteArray :=
 if q.kind L = 4 then (9,q.take.fnm L) else if q.kind L = 23 then (10,q.tpm L N) else (8,q.want L 2,[tkNm (wantW L 2 q.S)])
def pstp (L : List Tok) (N : Int) (rec : Md -> Q -> Rt) (m : Md) (q : Q) : Rt :=
 match m with
 | .expr => if q.kind L = 3 then rec .lett q else if q.kind L = 6 then rec .choice q else if q.kind L = 9 then rec .func q else rec .seq q
 | .lett =>
   let t := q.word L
   let z := letN L N q.take
   bnd (rec .expr (z.2.1.want L 27)) fun a q2 => bnd (rec .expr (q2.want L 5)) fun b q3 => addR q3 ⟨z.1,t.p,t.k,0,z.2.2,[a,b]⟩
 | .choice =>
   let t := q.word L
   bnd (rec .expr q.take) fun a q1 => bnd (rec .expr (q1.want L 7)) fun b q2 => bnd (rec .expr (q2.want L 8)) fun c q3 => addR q3 ⟨11,t.p,t.k,0,[],[a,b,c]⟩
 | .func =>
   let t := q.word L
   let z := q.take.par L
   bnd (rec .expr (z.1.want L 22)) fun b q2 => addR q2 ⟨12,t.p,t.k,0,z.2,[b]⟩
 | .seq => bnd (rec .cmp q) fun a q1 => if q1.kind L ≠ 26 then out a q1 else bnd (rec .expr q1.take) fun b q2 => addR q2 ⟨18,(q1.word L).p,(q1.word L).k,0,[],[a,b]⟩
 | .cmp => bnd (rec .sum q) fun a q1 => if cOp (q1.kind L) ≠ 17 then out a q1 else bnd (rec .sum q1.take) fun b q2 => addR q2 ⟨17,(q1.word L).p,(q1.word L).k,0,[],[a,b]⟩
 | .sum => bnd (rec .prod q) fun a q1 => rec (.sumL a) q1
 | .sumL a => if cOp (q.kind L) ≠ 16 then out a q else bnd (rec .prod q.take) fun b q2 => bnd (addR q2 ⟨16,(q.word L).p,(q.word L).k,0,[],[a,b]⟩) fun x q3 => rec (.sumL x) q3
 | .prod => bnd (rec .un q) fun a q1 => rec (.prodL a) q1
 | .prodL a => if cOp (q.kind L) ≠ 15 then out a q else bnd (rec .un q.take) fun b q2 => bnd (addR q2 ⟨15,(q.word L).p,(q.word L).k,0,[],[a,b]⟩) fun x q3 => rec (.prodL x) q3
 | .un =>
   if q.kind L = 31 then bnd (rec .un q.take) fun b q2 => addR q2 ⟨13,(q.word L).p,(q.word L).k,0,[],[b]⟩
   else if q.kind L = 10 then bnd (rec .un q.take) fun b q2 => addR q2 ⟨14,(q.word L).p,(q.word L).k,0,[],[b]⟩
   else rec .call q
 | .call =>
   if q.kind L = 14 then rec (.pref 21 1) q else if q.kind L = 15 then rec (.pref 22 1) q else if q.kind L = 16 then rec (.pref 23 2) q else if q.kind L = 17 then rec (.pref 24 3) q
   else bnd (rec .operand q) fun a q1 => rec (.callL [a]) q1
 | .callL ks =>
   if ks.length <= 4 /\ cOpd (q.kind L) = true then bnd (rec .operand q) fun b q1 => rec (.callL (ks ++ [b])) q1
   else match ks with
    | [a] => out a q
    | a :: _ => if -1 <= a /\ a <= 100000 then addR q ⟨19,plOf q.ps a,0,0,[],ks⟩ else none
    | [] => none
 | .pref k c => rec (.prefL k c (q.word L) []) q.take
 | .prefL k c t ks => if ks.length < c then bnd (rec .operand q) fun b q1 => rec (.prefL k c t (ks ++ [b])) q1 else addR q ⟨k,t.p,t.k,0,[],ks⟩
 | .operand => bnd (rec .atom q) fun a q1 => rec (.operL a) q1
 | .operL a =>
   if q.kind L ≠ 18 then out a q
   else bnd (rec .expr (q.beg L N 18)) fun b q1 => bnd (addR (q1.finish L) ⟨20,(q.begW L N 18).p,(q.begW L N 18).k,0,[],[a,b]⟩) fun x q2 => rec (.operL x) q2
 | .atom =>
   if q.kind L = 1 then addR q.take ⟨1,(q.word L).p,0,(q.word L).n,[],[]⟩
   else if q.kind L = 2 then addR q.take ⟨5,(q.word L).p,0,0,[tkNm (q.word L)],[]⟩
   else if q.kind L = 11 then rec (.pref 2 0) q else if q.kind L = 12 then rec (.pref 3 0) q else if q.kind L = 13 then rec (.pref 4 0) q
   else if q.kind L = 23 then rec .brk q
   else out (-1) (q.fail L 4)
 | .brk =>
   let t := q.begW L N 23
   let q1 := q.beg L N 23
   if q1.kind L = 24 then addR (q1.finish L) ⟨6,t.p,0,0,[],[]⟩ else bnd (rec .expr q1) fun a q2 => rec (.tupL t [a]) q2
 | .tupL t ks =>
   if ks.length < 6 /\ q.kind L = 25 then bnd (rec .expr q.take) fun b q1 => rec (.tupL t (ks ++ [b])) q1
   else match ks with
    | [a] => out a (q.finish L)
    | _ => addR (q.finish L) ⟨7,t.p,0,0,[],ks⟩
def pr (L : List Tok) (N : Int) : Nat -> Md -> Q -> Rt
 | 0,_,_ => none
 | n + 1,m,q => if q.fine then pstp L N (pr L N n) m q else none
theorem bnd_some {r : Rt} {f : Int -> Q -> Rt} {y : Int × Q} (h : bnd r f = some y) : ∃ x q,r = some (x,q) /\ q.fine /\ f x q = some y := by
 unfold bnd at h
 split at h
 ·split at h
  ·exact ⟨_,_,rfl,by assumption,h⟩
  ·cases h
 ·cases h
theorem out_some {x y : Int} {q q' : Q} (h : out x q = some (y,q')) : q.fine /\ y = x /\ q' = q := by
 unfold out at h
 split at h
 ·cases h;exact ⟨by assumption,rfl,rfl⟩
 ·cases h
theorem addR_some {y : Int} {q q' : Q} {c : CP} (h : addR q c = some (y,q')) : q.fine /\ y = q.ps.length /\ q' = q.add c := by
 unfold addR at h
 split at h
 ·cases h;exact ⟨by assumption,rfl,rfl⟩
 ·cases h
theorem pr_fine {L : List Tok} {N : Int} {n : Nat} {m : Md} {q : Q} {y : Int × Q} (h : pr L N n m q = some y) : q.fine /\ ∃ k,n = k + 1 /\ pstp L N (pr L N k) m q = some y := by
 cases n with
 | zero => cases h
 | succ n =>
   rw [pr] at h
   split at h
   ·exact ⟨by assumption,n,rfl,h⟩
   ·cases h
def Le (r r' : Md -> Q -> Rt) : Prop := ∀ m q y,r m q = some y -> r' m q = some y
theorem bnd_le {r r' : Rt} {f f' : Int -> Q -> Rt} (h : ∀ y,r = some y -> r' = some y) (hf : ∀ x q y,f x q = some y -> f' x q = some y) : ∀ y,bnd r f = some y -> bnd r' f' = some y := by
 intro y hy
 obtain ⟨x,q,h1,h2,h3⟩ := bnd_some hy
 rw [h _ h1]
 simp only [bnd,if_pos h2]
 exact hf _ _ _ h3
theorem pstp_le {L : List Tok} {N : Int} {r r' : Md -> Q -> Rt} (h : Le r r') : Le (pstp L N r) (pstp L N r') := by
 intro m q
 cases m <;> simp only [pstp] <;> repeat' first
  | exact h _ _
  | (intro y hy;exact hy)
  | (refine bnd_le (h _ _) (fun x q => ?_))
  | (refine bnd_le (fun y hy => hy) (fun x q => ?_))
  | split
theorem pr_mono (L : List Tok) (N : Int) : ∀ n,Le (pr L N n) (pr L N (n + 1)) := by
 intro n
 induction n with
 | zero => intro m q y h;cases h
 | succ n ih =>
   intro m q y h
   obtain ⟨h1,k,h2,h3⟩ := pr_fine h
   cases h2
   rw [pr,if_pos h1]
   exact pstp_le ih _ _ _ h3
theorem pr_up {L : List Tok} {N : Int} {n n' : Nat} (hn : n <= n') {m : Md} {q : Q} {y : Int × Q} (h : pr L N n m q = some y) : pr L N n' m q = some y := by
 induction hn with
 | refl => exact h
 | step _ ih => exact pr_mono L N _ _ _ _ ih
end Go.Proofs.YtmkdoejpgkgpbaaGreatDoor
