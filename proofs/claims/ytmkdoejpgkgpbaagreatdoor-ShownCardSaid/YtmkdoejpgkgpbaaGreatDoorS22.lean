import Derived.Test.YtmkdoejpgkgpbaaGreatDoorS19
set_option linter.unusedVariables false
set_option linter.unusedSimpArgs false
set_option maxHeartbeats 20000000
namespace Go.Proofs.YtmkdoejpgkgpbaaGreatDoor
open Go.RowKit Sl
inductive FM (w : World) (name : ByteArray) : ByteArray -> Value -> List ByteArray -> Nat -> List ByteArray -> Prop
 | fn {ng noff ncap : Nat} {ys : List ByteArray} (hnx : SRo w ng noff ys) (hng : ng < w.heap.size) (hy1 : 1 <= ys.length) (hyl : ys.length <= 1000) (hyc : ys.length <= ncap) : FM w name ⟨#[102,117,110]⟩ (.slice (some ⟨ng,noff,none⟩) ys.length ncap) [⟨#[45,62]⟩,⟨#[]⟩] 1 ([(⟨#[40]⟩ : ByteArray),⟨#[102,117,110]⟩] ++ ys)
 | lt {na : Option Addr} {nc : Nat} : FM w name ⟨#[108,101,116]⟩ (.slice na 0 nc) [⟨#[61]⟩,⟨#[105,110]⟩,⟨#[]⟩] 2 [(⟨#[40]⟩ : ByteArray),⟨#[108,101,116]⟩,name]
 | rc {ng noff ncap : Nat} {ys : List ByteArray} (hnx : SRo w ng noff ys) (hng : ng < w.heap.size) (hy1 : 1 <= ys.length) (hyl : ys.length <= 1000) (hyc : ys.length <= ncap) : FM w name ⟨#[114,101,99]⟩ (.slice (some ⟨ng,noff,none⟩) ys.length ncap) [⟨#[61]⟩,⟨#[105,110]⟩,⟨#[]⟩] 2 ([(⟨#[40]⟩ : ByteArray),⟨#[108,101,116]⟩,⟨#[114,101,99]⟩,name] ++ ys)
 | pr {ng noff ncap : Nat} {ys : List ByteArray} (hnx : SRo w ng noff ys) (hng : ng < w.heap.size) (hy1 : 1 <= ys.length) (hyl : ys.length <= 1000) (hyc : ys.length <= ncap) : FM w name ⟨#[112,97,105,114]⟩ (.slice (some ⟨ng,noff,none⟩) ys.length ncap) [⟨#[61]⟩,⟨#[105,110]⟩,⟨#[]⟩] 2 ([(⟨#[40]⟩ : ByteArray),⟨#[108,101,116]⟩,⟨#[40]⟩] ++ (rowT ys ++ [(⟨#[41]⟩ : ByteArray)]))
set_option maxRecDepth 100000 in
theorem full_m {w : World} {bt B n : Nat} {pos num : Int} {name : ByteArray} {kv : Value} {ps : List Value} {wss : List (List ByteArray)} {fo : ByteArray} {nv : Value} {SS0 U : List ByteArray} {kn : Nat} (hF : FM w name fo nv SS0 kn U)
 (hblk : w.heap[bt]? = some (.cells #[.string fo,.int .i64 pos,.int .i64 num,.string name,nv,kv] 205 (0,0))) (hkv : RowAt w B n kv ps) (hn : n <= w.heap.size) (hps : FullAll w ps wss) (hp1 : 1 <= ps.length) (hpk : ps.length <= kn)
 (htot : (U ++ jn SS0 wss ++ [(⟨#[41]⟩ : ByteArray)]).length <= 100000) :
 Calls Tryz.prog 70 #[.pointer (some ⟨bt,0,none⟩)] w fun e w' => ∃ v',e = .returned v' /\ w'.ownsRow w.heap.size 9 1 v' (U ++ jn SS0 wss ++ [(⟨#[41]⟩ : ByteArray)]).length ((U ++ jn SS0 wss ++ [(⟨#[41]⟩ : ByteArray)]).map Value.string) /\ Below w.heap.size w w' := by
 obtain ⟨SS,hSS⟩ : ∃ SS : List ByteArray,SS = SS0 := ⟨_,rfl⟩
 have HSS : Hid (SS = SS0) := hSS
 have hsl2 := congrArg List.length hSS
 rw [<- hSS] at htot ⊢
 obtain ⟨i0,hi0,hz0,hz1,hz2⟩ := info_parts Tryz.info9
 have hlt := lt_of_block hblk
 have hwl := hps.len
 obtain ⟨kg,koff,kcap,rfl,hkg,hkc,hkcell⟩ := kids_row hkv hp1
 have HKC : Hid (∀ i u,ps[i]? = some u -> w.cell? ⟨kg,koff + i,none⟩ = some u) := hkcell
 have HPS : Hid (FullAll w ps wss) := hps
 obtain ⟨T,hT⟩ : ∃ T,T = U ++ jn SS wss := ⟨_,rfl⟩
 have HT0 : Hid (U ++ jn (SS.drop 0) (wss.drop 0) = T) := by
  show _ = _
  rw [hT];simp
 rw [<- hT] at htot ⊢
 have hUT : U.length <= T.length := by rw [hT];simp
 have hbw0 : Below w.heap.size w ((w.alloc (.cells #[.string ⟨#[40]⟩] 9 (0,0))).alloc (.cells #[] 9 (0,0))) := ((Below.refl _ _).alloc (Nat.le_refl _) _).alloc (by simp) _
 have hW0 : ((w.alloc (.cells #[.string ⟨#[40]⟩] 9 (0,0))).alloc (.cells #[] 9 (0,0))).heap[w.heap.size]? = some (.cells ([(⟨#[40]⟩ : ByteArray)].map Value.string).toArray 9 (0,0)) := al_old (blk_new w _)
 have HO0 : Hid (((w.alloc (.cells #[.string ⟨#[40]⟩] 9 (0,0))).alloc (.cells #[] 9 (0,0))).ownsRow w.heap.size 9 1 (.slice (some ⟨w.heap.size,0,none⟩) 1 1) 1 ([(⟨#[40]⟩ : ByteArray)].map Value.string)) := own_lit hW0 (Nat.le_refl _) rfl (by simp)
 have HB0 : Hid (Below w.heap.size w ((w.alloc (.cells #[.string ⟨#[40]⟩] 9 (0,0))).alloc (.cells #[] 9 (0,0)))) := hbw0
 clear hW0 hbw0
 cases hF
 all_goals (
  simp only [List.length_cons,List.length_nil,Nat.zero_add,Nat.reduceAdd] at hsl2
  have hsl : ps.length <= SS.length := by omega
  have htl : T.length <= 100000 := by simp at htot;omega
  have HBK : Hid _ := hblk
  have hcf := blk_at hblk 0 rfl
  have hcn := blk_at hblk 3 rfl
  have hcx := blk_at hblk 4 rfl
  have hc5 := blk_at hblk 5 rfl
  clear hkcell hps hkv hT hSS htot hblk hUT)
 case' fn ng noff ncap ys hnx hng hy1 hyl hyc =>
  have HNX : Hid (SRo w ng noff ys) := hnx
  clear hnx
  go_enter Tryz.func70,Tryz.ntmps70
  go_wp2_with (first
   | (at_builtin;refine wpList_append_own2 _ rfl (.tmp 88) (.tmp 89) 114 rfl w.heap.size 9 i0 _ 1 16 Tryz.underlying114 hi0 hz0 hz1 hz2 rfl (by decide) _ _ _ rfl (HO0.out.alloc _) _ 1 1 [.string ⟨#[102,117,110]⟩] rfl rfl (cells_new _ _ _ _ (al2_size _ _ _)) ?_ ?_ ?_ ?_ ?_;(intro u hu;simp at hu;subst hu;rfl);(unfold maxLen;omega);omega;(simp;omega);intro va wa howna hga hrowa;have hbwa := below_app HB0.out (al2_le _ _ _) _ hga (own_ge HO0.out);have hsza := hbwa.size;have hcfa := (hbwa.cell (p := ⟨bt,0,none⟩) hlt).trans hcf;have hcna := (hbwa.cell (p := ⟨bt,3,none⟩) hlt).trans hcn;have hcxa := (hbwa.cell (p := ⟨bt,4,none⟩) hlt).trans hcx)
   | (at_builtin;refine wpList_append_own2 _ rfl (.tmp 91) (.tmp 95) 114 rfl w.heap.size 9 i0 _ 1 16 Tryz.underlying114 hi0 hz0 hz1 hz2 rfl (by decide) _ _ _ rfl howna _ ys.length _ (ys.map Value.string) rfl (by simp) (sro_cells (HNX.out.below hbwa hng)) ?_ ?_ ?_ ?_ ?_;(exact str_one ys);(unfold maxLen;omega);omega;(omega);intro vz wz hownz hgz hrowz;have hbwz : Below w.heap.size w wz := hbwa.grown hgz (by omega) (own_ge howna);have hszz := hbwz.size;have hcfz := (hbwz.cell (p := ⟨bt,0,none⟩) hlt).trans hcf;have hcnz := (hbwz.cell (p := ⟨bt,3,none⟩) hlt).trans hcn;have hcxz := (hbwz.cell (p := ⟨bt,4,none⟩) hlt).trans hcx))
  have HL1 : wz.ownsRow w.heap.size 9 1 (vz) (1 + 1 + ys.length) ((([(⟨#[40]⟩ : ByteArray),⟨#[102,117,110]⟩] ++ ys)).map Value.string) := by simpa using hownz
  have HL : Hid (World.ownsRow _ _ _ _ _ _ _) := HL1
  clear HL1
  have HVB : Hid (_ ≠ some wz.heap.size) := own_blk_lt hownz (Nat.le_refl _)
 case' lt na nc =>
  go_enter Tryz.func70,Tryz.ntmps70
  go_wp2_with (first
   | (at_builtin;refine wpList_append_own2 _ rfl (.tmp 102) (.tmp 103) 114 rfl w.heap.size 9 i0 _ 1 16 Tryz.underlying114 hi0 hz0 hz1 hz2 rfl (by decide) _ _ _ rfl (HO0.out.alloc _) _ 1 1 [.string ⟨#[108,101,116]⟩] rfl rfl (cells_new _ _ _ _ (al2_size _ _ _)) ?_ ?_ ?_ ?_ ?_;(intro u hu;simp at hu;subst hu;rfl);(unfold maxLen;omega);omega;(simp;omega);intro va wa howna hga hrowa;have hbwa := below_app HB0.out (al2_le _ _ _) _ hga (own_ge HO0.out);have hsza := hbwa.size;have hcfa := (hbwa.cell (p := ⟨bt,0,none⟩) hlt).trans hcf;have hcna := (hbwa.cell (p := ⟨bt,3,none⟩) hlt).trans hcn;have hcxa := (hbwa.cell (p := ⟨bt,4,none⟩) hlt).trans hcx)
   | (at_builtin;refine wpList_append_own2 _ rfl (.tmp 132) (.tmp 137) 114 rfl w.heap.size 9 i0 _ 1 16 Tryz.underlying114 hi0 hz0 hz1 hz2 rfl (by decide) _ _ _ rfl (howna.alloc _) _ 1 1 [.string name] rfl rfl (cells_new _ _ _ _ rfl) ?_ ?_ ?_ ?_ ?_;(intro u hu;simp at hu;subst hu;rfl);(unfold maxLen;omega);omega;(simp;omega);intro vz wz hownz hgz hrowz;have hbwz := below_app hbwa hsza _ hgz (own_ge howna);have hszz := hbwz.size;have hcfz := (hbwz.cell (p := ⟨bt,0,none⟩) hlt).trans hcf;have hcnz := (hbwz.cell (p := ⟨bt,3,none⟩) hlt).trans hcn;have hcxz := (hbwz.cell (p := ⟨bt,4,none⟩) hlt).trans hcx;obtain ⟨og,ocap,rfl,ho1,ho2,ho3,ho4⟩ := own_shapeP hownz (by omega))
   | (at_builtin;refine wpList_append_none _ rfl (.tmp 139) (.tmp 143) 114 rfl 9 i0 Tryz.underlying114 hi0 _ _ _ _ _ rfl rfl ho3 (by omega) ?_))
  have HL1 : wz.ownsRow w.heap.size 9 1 (.slice (some ⟨og,0,none⟩) (1 + 1 + 1) ocap) (1 + 1 + 1) (([(⟨#[40]⟩ : ByteArray),⟨#[108,101,116]⟩,name]).map Value.string) := by simpa using hownz
  have HL : Hid (World.ownsRow _ _ _ _ _ _ _) := HL1
  clear HL1
  have HVB : Hid (_ ≠ some wz.heap.size) := own_blk_lt hownz (Nat.le_refl _)
 case' rc ng noff ncap ys hnx hng hy1 hyl hyc =>
  have HNX : Hid (SRo w ng noff ys) := hnx
  clear hnx
  go_enter Tryz.func70,Tryz.ntmps70
  go_wp2_with (first
   | (at_builtin;refine wpList_append_own2 _ rfl (.tmp 102) (.tmp 103) 114 rfl w.heap.size 9 i0 _ 1 16 Tryz.underlying114 hi0 hz0 hz1 hz2 rfl (by decide) _ _ _ rfl (HO0.out.alloc _) _ 1 1 [.string ⟨#[108,101,116]⟩] rfl rfl (cells_new _ _ _ _ (al2_size _ _ _)) ?_ ?_ ?_ ?_ ?_;(intro u hu;simp at hu;subst hu;rfl);(unfold maxLen;omega);omega;(simp;omega);intro va wa howna hga hrowa;have hbwa := below_app HB0.out (al2_le _ _ _) _ hga (own_ge HO0.out);have hsza := hbwa.size;have hcfa := (hbwa.cell (p := ⟨bt,0,none⟩) hlt).trans hcf;have hcna := (hbwa.cell (p := ⟨bt,3,none⟩) hlt).trans hcn;have hcxa := (hbwa.cell (p := ⟨bt,4,none⟩) hlt).trans hcx)
   | (at_builtin;refine wpList_append_own2 _ rfl (.tmp 110) (.tmp 111) 114 rfl w.heap.size 9 i0 _ 1 16 Tryz.underlying114 hi0 hz0 hz1 hz2 rfl (by decide) _ _ _ rfl (howna.alloc _) _ 1 1 [.string ⟨#[114,101,99]⟩] rfl rfl (cells_new _ _ _ _ rfl) ?_ ?_ ?_ ?_ ?_;(intro u hu;simp at hu;subst hu;rfl);(unfold maxLen;omega);omega;(simp;omega);intro vb wb hownb hgb hrowb;have hbwb := below_app hbwa hsza _ hgb (own_ge howna);have hszb := hbwb.size;have hcfb := (hbwb.cell (p := ⟨bt,0,none⟩) hlt).trans hcf;have hcnb := (hbwb.cell (p := ⟨bt,3,none⟩) hlt).trans hcn;have hcxb := (hbwb.cell (p := ⟨bt,4,none⟩) hlt).trans hcx)
   | (at_builtin;refine wpList_append_own2 _ rfl (.tmp 132) (.tmp 137) 114 rfl w.heap.size 9 i0 _ 1 16 Tryz.underlying114 hi0 hz0 hz1 hz2 rfl (by decide) _ _ _ rfl (hownb.alloc _) _ 1 1 [.string name] rfl rfl (cells_new _ _ _ _ rfl) ?_ ?_ ?_ ?_ ?_;(intro u hu;simp at hu;subst hu;rfl);(unfold maxLen;omega);omega;(simp;omega);intro vc wc hownc hgc hrowc;have hbwc := below_app hbwb hszb _ hgc (own_ge hownb);have hszc := hbwc.size;have hcfc := (hbwc.cell (p := ⟨bt,0,none⟩) hlt).trans hcf;have hcnc := (hbwc.cell (p := ⟨bt,3,none⟩) hlt).trans hcn;have hcxc := (hbwc.cell (p := ⟨bt,4,none⟩) hlt).trans hcx)
   | (at_builtin;refine wpList_append_own2 _ rfl (.tmp 139) (.tmp 143) 114 rfl w.heap.size 9 i0 _ 1 16 Tryz.underlying114 hi0 hz0 hz1 hz2 rfl (by decide) _ _ _ rfl hownc _ ys.length _ (ys.map Value.string) rfl (by simp) (sro_cells (HNX.out.below hbwc hng)) ?_ ?_ ?_ ?_ ?_;(exact str_one ys);(unfold maxLen;omega);omega;(omega);intro vz wz hownz hgz hrowz;have hbwz : Below w.heap.size w wz := hbwc.grown hgz (by omega) (own_ge hownc);have hszz := hbwz.size;have hcfz := (hbwz.cell (p := ⟨bt,0,none⟩) hlt).trans hcf;have hcnz := (hbwz.cell (p := ⟨bt,3,none⟩) hlt).trans hcn;have hcxz := (hbwz.cell (p := ⟨bt,4,none⟩) hlt).trans hcx))
  have HL1 : wz.ownsRow w.heap.size 9 1 (vz) (1 + 1 + 1 + 1 + ys.length) ((([(⟨#[40]⟩ : ByteArray),⟨#[108,101,116]⟩,⟨#[114,101,99]⟩,name] ++ ys)).map Value.string) := by simpa using hownz
  have HL : Hid (World.ownsRow _ _ _ _ _ _ _) := HL1
  clear HL1
  have HVB : Hid (_ ≠ some wz.heap.size) := own_blk_lt hownz (Nat.le_refl _)
 case' pr ng noff ncap ys hnx hng hy1 hyl hyc =>
  have HNX : Hid (SRo w ng noff ys) := hnx
  clear hnx
  have hry : 1 <= (rowT ys).length := by cases ys with | nil => simp at hy1 | cons y r => simp [rowT]
  have hry2 := rowT_len ys
  go_enter Tryz.func70,Tryz.ntmps70
  go_wp2_with (first
   | (at_builtin;refine wpList_append_own2 _ rfl (.tmp 102) (.tmp 103) 114 rfl w.heap.size 9 i0 _ 1 16 Tryz.underlying114 hi0 hz0 hz1 hz2 rfl (by decide) _ _ _ rfl (HO0.out.alloc _) _ 1 1 [.string ⟨#[108,101,116]⟩] rfl rfl (cells_new _ _ _ _ (al2_size _ _ _)) ?_ ?_ ?_ ?_ ?_;(intro u hu;simp at hu;subst hu;rfl);(unfold maxLen;omega);omega;(simp;omega);intro va wa howna hga hrowa;have hbwa := below_app HB0.out (al2_le _ _ _) _ hga (own_ge HO0.out);have hsza := hbwa.size;have hcfa := (hbwa.cell (p := ⟨bt,0,none⟩) hlt).trans hcf;have hcna := (hbwa.cell (p := ⟨bt,3,none⟩) hlt).trans hcn;have hcxa := (hbwa.cell (p := ⟨bt,4,none⟩) hlt).trans hcx)
   | (go_at_call 121;refine (row_any ys ng noff ncap _ _ rfl hyl hyc (by omega) (HNX.out.below hbwa hng)).mono ?_;rintro _ wb ⟨vb,rfl,hownr,hbr⟩;obtain ⟨rg,rcap,rfl,hr1,hr2,hr3,hr4⟩ := own_shapeP hownr hry;have hsb := hbr.size;have hownb := own_below howna hbr;have hbwb : Below w.heap.size w wb := hbwa.trans (hbr.mono hsza);have hszb := hbwb.size;have hrne : Hid (va.ownBlock ≠ some rg) := own_blk_lt howna hr1)
   | (at_builtin;refine wpList_append_own2 _ rfl (.tmp 123) (.tmp 124) 114 rfl w.heap.size 9 i0 _ 1 16 Tryz.underlying114 hi0 hz0 hz1 hz2 rfl (by decide) _ _ _ rfl (hownb.alloc _) _ 1 1 [.string ⟨#[40]⟩] rfl rfl (cells_new _ _ _ _ rfl) ?_ ?_ ?_ ?_ ?_;(intro u hu;simp at hu;subst hu;rfl);(unfold maxLen;omega);omega;(simp;omega);intro vc wc hownc hgc hrowc;have hbwc := below_app hbwb hszb _ hgc (own_ge hownb);have hszc := hbwc.size;have hcfc := (hbwc.cell (p := ⟨bt,0,none⟩) hlt).trans hcf;have hcnc := (hbwc.cell (p := ⟨bt,3,none⟩) hlt).trans hcn;have hcxc := (hbwc.cell (p := ⟨bt,4,none⟩) hlt).trans hcx;have hownr3 := (hownr.alloc _).kept hgc (.inr (Ne.symm hrne.out)))
   | (at_builtin;refine wpList_append_own2 _ rfl (.tmp 126) (.tmp 127) 114 rfl w.heap.size 9 i0 _ 1 16 Tryz.underlying114 hi0 hz0 hz1 hz2 rfl (by decide) _ _ _ rfl hownc _ (rowT ys).length _ ((rowT ys).map Value.string) rfl (by simp) (own_cells hownr3) ?_ ?_ ?_ ?_ ?_;(exact str_one _);(unfold maxLen;omega);omega;(omega);intro vd wd hownd hgd hrowd;have hbwd : Below w.heap.size w wd := hbwc.grown hgd (by omega) (own_ge hownc);have hszd := hbwd.size)
   | (at_builtin;refine wpList_append_own2 _ rfl (.tmp 129) (.tmp 130) 114 rfl w.heap.size 9 i0 _ 1 16 Tryz.underlying114 hi0 hz0 hz1 hz2 rfl (by decide) _ _ _ rfl (hownd.alloc _) _ 1 1 [.string ⟨#[41]⟩] rfl rfl (cells_new _ _ _ _ rfl) ?_ ?_ ?_ ?_ ?_;(intro u hu;simp at hu;subst hu;rfl);(unfold maxLen;omega);omega;(simp;omega);intro vz wz hownz hgz hrowz;have hbwz := below_app hbwd hszd _ hgz (own_ge hownd);have hszz := hbwz.size;have hcfz := (hbwz.cell (p := ⟨bt,0,none⟩) hlt).trans hcf;have hcnz := (hbwz.cell (p := ⟨bt,3,none⟩) hlt).trans hcn;have hcxz := (hbwz.cell (p := ⟨bt,4,none⟩) hlt).trans hcx))
  have HL1 : wz.ownsRow w.heap.size 9 1 (vz) (1 + 1 + 1 + (rowT ys).length + 1) ((([(⟨#[40]⟩ : ByteArray),⟨#[108,101,116]⟩,⟨#[40]⟩] ++ (rowT ys ++ [(⟨#[41]⟩ : ByteArray)]))).map Value.string) := by simpa using hownz
  have HL : Hid (World.ownsRow _ _ _ _ _ _ _) := HL1
  clear HL1
  have HVB : Hid (_ ≠ some wz.heap.size) := own_blk_lt hownz (Nat.le_refl _)
 all_goals (
  have HSG : Hid ((wz.alloc (.cells (SS.map Value.string).toArray 9 (0,0))).ownsRow w.heap.size 9 1 (.slice (some ⟨wz.heap.size,0,none⟩) SS.length SS.length) SS.length (SS.map Value.string)) := own_lit (blk_new wz _) hszz rfl (by omega)
  rw [HSS.out] at HSG
  go_loopw [4,7] (fun v q wr => ∃ (i m : Nat) (acc : List ByteArray),i <= ps.length /\ acc.length = m /\ acc ++ jn (SS.drop i) (wss.drop i) = T /\ q = .int .i64 i /\ wr.ownsRow w.heap.size 9 1 v m (acc.map Value.string) /\ v.ownBlock ≠ some wz.heap.size /\ wr.ownsRow w.heap.size 9 1 (.slice (some ⟨wz.heap.size,0,none⟩) SS.length SS.length) SS.length (SS.map Value.string) /\ wz.heap.size < wr.heap.size /\ Below w.heap.size w wr) (fun _ q _ => ps.length - (intOf q).toNat)
  case atStart => refine ⟨0,_,_,Nat.zero_le _,?_,HT0.out,rfl,HL.out.alloc _,HVB.out,(by rw [HSS.out];exact HSG.out),by simp,hbwz.alloc hszz _⟩;simp;try omega
  case round =>
   obtain ⟨i,m,acc,hi,hal,hds,rfl,hown,hvb,hsg,hsbl,hbw⟩ := hrel
   have HD : Hid (acc ++ jn (SS.drop i) (wss.drop i) = T) := hds
   have HA : Hid (acc.length = m) := hal
   have hmT : m <= T.length := by rw [<- hds,<- hal];simp
   clear hds hal
   have hsz := hbw.size
   have hc50 := (hbw.cell (p := ⟨bt,5,none⟩) hlt).trans hc5
   by_cases hlti : i < ps.length
   ·have hstep : Hid (jn (SS.drop i) (wss.drop i) = (if SS[i].size = 0 then [] else [SS[i]]) ++ (wss[i] ++ jn (SS.drop (i + 1)) (wss.drop (i + 1)))) := jn_step (by omega) (by omega)
    obtain ⟨hf,hxl,pb,hpb⟩ := HPS.out.at i hlti (by omega)
    have HKW : Hid (w.cell? ⟨kg,koff + i,none⟩ = some (.pointer (some ⟨pb,0,none⟩))) := HKC.out i _ (by rw [List.getElem?_eq_getElem hlti,hpb])
    have hkc0 := (hbw.cell (p := ⟨kg,koff + i,none⟩) (by show kg < _;omega)).trans HKW.out
    have hsc : wr.cell? ⟨wz.heap.size,i,none⟩ = some (.string SS[i]) := by
     rw [hsg.cellAt i (by omega)]
     simp [List.getElem?_eq_getElem (show i < SS.length by omega)]
    rw [hpb] at hf
    obtain ⟨sx,hsx⟩ : ∃ sx,SS[i] = sx := ⟨_,rfl⟩
    obtain ⟨xs,hxs⟩ : ∃ xs,wss[i] = xs := ⟨_,rfl⟩
    rw [hsx] at hsc hstep
    rw [hxs] at hf hxl hstep
    have HF : Hid (FullOK w (.pointer (some ⟨pb,0,none⟩)) xs) := hf
    have hmx : m + 1 + xs.length <= T.length + 1 := by
     have := HD.out
     rw [hstep.out] at this
     rw [<- this,<- HA.out];simp;omega
    clear hf hpb hsx hxs
    by_cases hs0 : sx.size = 0
    ·have hse := empty_str hs0
     have HN : Hid (acc ++ xs ++ jn (SS.drop (i + 1)) (wss.drop (i + 1)) = T) := by
      show _ = _
      rw [<- HD.out,hstep.out,if_pos hs0];simp
     clear hs0 hstep
     go_wp2_with (first
      | (go_at_call 70;refine (HF.out _ (by exact hbw)).mono ?_;rintro _ w2 ⟨v2,rfl,o2,b2⟩;obtain ⟨xg,xcap,rfl,hx1,hx2,hx3,hx4⟩ := own_shapeP o2 hxl;have hs2 := b2.size;have hown' := own_below hown b2;have hsg' := own_below hsg b2;have hbw' := (hbw).trans (b2.mono hsz))
      | (at_builtin;refine wpList_append_own2 _ rfl (.tmp 175) (.tmp 176) 114 rfl w.heap.size 9 i0 _ 1 16 Tryz.underlying114 hi0 hz0 hz1 hz2 rfl (by decide) _ _ _ rfl hown' _ xs.length _ (xs.map Value.string) rfl (by simp) (own_cells o2) ?_ ?_ ?_ ?_ ?_;(exact str_one xs);(unfold maxLen;omega);omega;(omega);intro v3 w3 hown3 hg3 hrow3;have hbw3 : Below w.heap.size w w3 := hbw'.grown hg3 (by omega) (own_ge hown');have hsz3 := hg3.size;have hsg3 := hsg'.kept hg3 (.inr (Ne.symm hvb));have hvb3 := row_ne hvb hrow3 (by omega)))
     go_roundw
     case rel => exact ⟨i + 1,m + xs.length,acc ++ xs,by omega,by simp [HA.out],HN.out,by go_num,by simpa using hown3,hvb3,hsg3,by omega,hbw3⟩
     case measure => simp [intOf];omega
    ·have hse := nonempty_list (t := sx) (by omega)
     have HN : Hid (acc ++ [sx] ++ xs ++ jn (SS.drop (i + 1)) (wss.drop (i + 1)) = T) := by
      show _ = _
      rw [<- HD.out,hstep.out,if_neg hs0];simp
     have hmx2 : m + 1 + xs.length <= T.length := by rw [<- HN.out,<- HA.out];simp;omega
     clear hs0 hstep
     go_wp2_with (first
      | (at_builtin;refine wpList_append_own2 _ rfl (.tmp 160) (.tmp 165) 114 rfl w.heap.size 9 i0 _ 1 16 Tryz.underlying114 hi0 hz0 hz1 hz2 rfl (by decide) _ _ _ rfl (hown.alloc _) _ 1 1 [.string sx] rfl rfl (cells_new _ _ _ _ rfl) ?_ ?_ ?_ ?_ ?_;(intro u hu;simp at hu;subst hu;rfl);(unfold maxLen;omega);omega;(simp;omega);intro v1 w1 hown1 hg1 hrow1;have hbw1 := below_app hbw hsz _ hg1 (own_ge hown);have hsz1 := hbw1.size;have hsg1 := (hsg.alloc _).kept hg1 (.inr (Ne.symm hvb));have hss1 := hg1.size;rw [World.size_alloc] at hss1;have hvb1 := row_ne hvb hrow1 (by rw [World.size_alloc];omega);have hkc1 := (hbw1.cell (p := ⟨kg,koff + i,none⟩) (by show kg < _;omega)).trans HKW.out;have hc51 := (hbw1.cell (p := ⟨bt,5,none⟩) hlt).trans hc5)
      | (go_at_call 70;refine (HF.out _ (by exact hbw1)).mono ?_;rintro _ w2 ⟨v2,rfl,o2,b2⟩;obtain ⟨xg,xcap,rfl,hx1,hx2,hx3,hx4⟩ := own_shapeP o2 hxl;have hs2 := b2.size;have hown' := own_below hown1 b2;have hsg' := own_below hsg1 b2;have hbw' := (hbw1).trans (b2.mono hsz1))
      | (at_builtin;refine wpList_append_own2 _ rfl (.tmp 175) (.tmp 176) 114 rfl w.heap.size 9 i0 _ 1 16 Tryz.underlying114 hi0 hz0 hz1 hz2 rfl (by decide) _ _ _ rfl hown' _ xs.length _ (xs.map Value.string) rfl (by simp) (own_cells o2) ?_ ?_ ?_ ?_ ?_;(exact str_one xs);(unfold maxLen;omega);omega;(omega);intro v3 w3 hown3 hg3 hrow3;have hbw3 : Below w.heap.size w w3 := hbw'.grown hg3 (by omega) (own_ge hown');have hsz3 := hg3.size;have hsg3 := hsg'.kept hg3 (.inr (Ne.symm hvb1));have hvb3 := row_ne hvb1 hrow3 (by omega)))
     go_roundw
     case rel => exact ⟨i + 1,m + 1 + xs.length,acc ++ [sx] ++ xs,by omega,by simp [HA.out];omega,HN.out,by go_num,by simpa using hown3,hvb3,hsg3,by omega,hbw3⟩
     case measure => simp [intOf];omega
   ·have HFN : Hid (acc = T) := by
     show _ = _
     have := HD.out
     rw [show wss.drop i = [] from List.drop_eq_nil_of_le (by omega)] at this
     simpa [jn] using this
    have hcf0 := (hbw.cell (p := ⟨bt,0,none⟩) hlt).trans hcf
    go_wp2_with (at_builtin;refine wpList_append_own2 _ rfl (.tmp 186) (.tmp 187) 114 rfl w.heap.size 9 i0 _ 1 16 Tryz.underlying114 hi0 hz0 hz1 hz2 rfl (by decide) _ _ _ rfl (hown.alloc _) _ 1 1 [.string ⟨#[41]⟩] rfl rfl (cells_new _ _ _ _ rfl) ?_ ?_ ?_ ?_ ?_;(intro u hu;simp at hu;subst hu;rfl);(unfold maxLen;omega);omega;(simp;omega);intro v6 w6 hown6 hg6 hrow6;have hbw6 := below_app hbw hsz _ hg6 (own_ge hown))
    go_ret
    refine ⟨_,rfl,?_,hbw6⟩
    have hTm : T.length = m := by rw [<- HFN.out,HA.out]
    have h6 := hown6
    rw [HFN.out] at h6
    have e1 : (T ++ [(⟨#[41]⟩ : ByteArray)]).length = m + 1 := by simp [hTm]
    rw [e1,List.map_append]
    simpa using h6)
end Go.Proofs.YtmkdoejpgkgpbaaGreatDoor
