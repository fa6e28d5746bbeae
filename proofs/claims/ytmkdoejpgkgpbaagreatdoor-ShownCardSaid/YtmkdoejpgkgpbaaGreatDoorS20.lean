import Derived.Test.YtmkdoejpgkgpbaaGreatDoorS19
set_option linter.unusedVariables false
set_option linter.unusedSimpArgs false
set_option maxHeartbeats 20000000
namespace Go.Proofs.YtmkdoejpgkgpbaaGreatDoor
open Go.RowKit Sl
inductive FK (name : ByteArray) : ByteArray -> List ByteArray -> Nat -> List ByteArray -> Prop
 | neg : FK name ⟨#[110,101,103]⟩ [⟨#[45]⟩,⟨#[]⟩] 1 [⟨#[41]⟩]
 | not : FK name ⟨#[110,111,116]⟩ [⟨#[110,111,116]⟩,⟨#[]⟩,⟨#[]⟩,⟨#[]⟩] 1 [⟨#[41]⟩]
 | print : FK name ⟨#[112,114,105,110,116]⟩ [⟨#[112,114,105,110,116]⟩,⟨#[]⟩,⟨#[]⟩,⟨#[]⟩] 1 [⟨#[41]⟩]
 | len : FK name ⟨#[108,101,110]⟩ [⟨#[108,101,110]⟩,⟨#[]⟩,⟨#[]⟩,⟨#[]⟩] 1 [⟨#[41]⟩]
 | array : FK name ⟨#[97,114,114,97,121]⟩ [⟨#[97,114,114,97,121]⟩,⟨#[]⟩,⟨#[]⟩,⟨#[]⟩] 2 [⟨#[41]⟩]
 | put : FK name ⟨#[112,117,116]⟩ [⟨#[112,117,116]⟩,⟨#[]⟩,⟨#[]⟩,⟨#[]⟩] 3 [⟨#[41]⟩]
set_option maxRecDepth 100000 in
theorem full_k {w : World} {bt B n : Nat} {pos num : Int} {name : ByteArray} {kv : Value} {ps : List Value} {wss : List (List ByteArray)} {na : Option Addr} {nc : Nat} {fo : ByteArray} {SS0 EE : List ByteArray} {kn : Nat} (hF : FK name fo SS0 kn EE)
 (hblk : w.heap[bt]? = some (.cells #[.string fo,.int .i64 pos,.int .i64 num,.string name,.slice na 0 nc,kv] 205 (0,0))) (hkv : RowAt w B n kv ps) (hn : n <= w.heap.size) (hps : FullAll w ps wss) (hp1 : 1 <= ps.length) (hpk : ps.length <= kn)
 (htot : ([(⟨#[40]⟩ : ByteArray)] ++ jn SS0 wss ++ EE).length <= 100000) :
 Calls Tryz.prog 70 #[.pointer (some ⟨bt,0,none⟩)] w fun e w' => ∃ v',e = .returned v' /\ w'.ownsRow w.heap.size 9 1 v' ([(⟨#[40]⟩ : ByteArray)] ++ jn SS0 wss ++ EE).length (([(⟨#[40]⟩ : ByteArray)] ++ jn SS0 wss ++ EE).map Value.string) /\ Below w.heap.size w w' := by
 obtain ⟨SS,hSS⟩ : ∃ SS : List ByteArray,SS = SS0 := ⟨_,rfl⟩
 have HSS : Hid (SS = SS0) := hSS
 have hsl2 := congrArg List.length hSS
 rw [<- hSS] at htot ⊢
 obtain ⟨i0,hi0,hz0,hz1,hz2⟩ := info_parts Tryz.info9
 have hlt := lt_of_block hblk
 have hwl := hps.len
 obtain ⟨kg,koff,kcap,rfl,hkg,hkc,hkcell⟩ := kids_row hkv hp1
 have HKC : Hid (∀ i u,ps[i]? = some u -> w.cell? ⟨kg,koff + i,none⟩ = some u) := hkcell
 have HPS : Hid (FullAll w ps wss) := hps
 obtain ⟨T,hT⟩ : ∃ T,T = [(⟨#[40]⟩ : ByteArray)] ++ jn SS wss := ⟨_,rfl⟩
 have HT0 : Hid ([(⟨#[40]⟩ : ByteArray)] ++ jn (SS.drop 0) (wss.drop 0) = T) := by
  show _ = _
  rw [hT];simp
 rw [<- hT] at htot ⊢
 cases hF
 all_goals (
  simp only [List.length_cons,List.length_nil,Nat.zero_add,Nat.reduceAdd] at hsl2
  have hsl : ps.length <= SS.length := by omega
  have htl : T.length <= 100000 := by simp at htot;omega
  have HBK : Hid _ := hblk
  have hcf := blk_at hblk 0 rfl
  have hcn := blk_at hblk 3 rfl
  have hcx := blk_at hblk 4 rfl
  have hc5 := blk_at hblk 5 rfl
  clear hkcell hps hkv hT hSS htot hblk
  go_enter Tryz.func70,Tryz.ntmps70
  go_wp2_with fail
  have hW1 : (((w.alloc (.cells #[.string ⟨#[40]⟩] 9 (0,0))).alloc (.cells #[] 9 (0,0))).alloc (.cells (SS.map Value.string).toArray 9 (0,0))).heap[w.heap.size]? = some (.cells ([(⟨#[40]⟩ : ByteArray)].map Value.string).toArray 9 (0,0)) := al_old (al_old (blk_new w _))
  have hW2 : (((w.alloc (.cells #[.string ⟨#[40]⟩] 9 (0,0))).alloc (.cells #[] 9 (0,0))).alloc (.cells (SS.map Value.string).toArray 9 (0,0))).heap[w.heap.size + 2]? = some (.cells (SS.map Value.string).toArray 9 (0,0)) := by
   have := blk_new ((w.alloc (.cells #[.string ⟨#[40]⟩] 9 (0,0))).alloc (.cells #[] 9 (0,0))) (.cells (SS.map Value.string).toArray 9 (0,0))
   simpa using this
  have HW1 := own_lit (base := w.heap.size) hW1 (Nat.le_refl _) (n := 1) rfl (by simp)
  have HW2 := own_lit (base := w.heap.size) hW2 (by omega) (n := SS.length) rfl (by omega)
  rw [HSS.out] at HW1 HW2
  have HV1 : Hid (World.ownsRow _ _ _ _ _ _ _) := HW1
  have HV2 : Hid (World.ownsRow _ _ _ _ _ _ _) := HW2
  clear hW1 hW2 HW1 HW2
  go_loopw [4,7] (fun v q wr => ∃ (i m : Nat) (acc : List ByteArray),i <= ps.length /\ acc.length = m /\ acc ++ jn (SS.drop i) (wss.drop i) = T /\ q = .int .i64 i /\ wr.ownsRow w.heap.size 9 1 v m (acc.map Value.string) /\ v.ownBlock ≠ some (w.heap.size + 2) /\ wr.ownsRow w.heap.size 9 1 (.slice (some ⟨(w.heap.size + 2),0,none⟩) SS.length SS.length) SS.length (SS.map Value.string) /\ (w.heap.size + 2) < wr.heap.size /\ Below w.heap.size w wr) (fun _ q _ => ps.length - (intOf q).toNat)
  case atStart => exact ⟨0,1,[(⟨#[40]⟩ : ByteArray)],Nat.zero_le _,rfl,HT0.out,rfl,HV1.out,(by intro e;simp [Value.ownBlock] at e),(by rw [HSS.out];exact HV2.out),by simp,(((Below.refl _ _).alloc (Nat.le_refl _) _).alloc (by simp) _).alloc (by simp;omega) _⟩
  case round =>
   obtain ⟨i,m,acc,hi,hal,hds,rfl,hown,hvb,hsg,hsbl,hbw⟩ := hrel
   have HD : Hid (acc ++ jn (SS.drop i) (wss.drop i) = T) := hds
   have HA : Hid (acc.length = m) := hal
   have hmT : m <= T.length := by rw [<- hds,<- hal];simp
   clear hds hal
   have hsz := hbw.size
   have hc50 := (hbw.cell (p := ⟨bt,5,none⟩) hlt).trans hc5
   by_cases hlti : i < ps.length
   ·have hstep : Hid (jn (SS.drop i) (wss.drop i) = (if SS[i].size = 0 then [] else [SS[i]]) ++ (wss[i] ++ jn (SS.drop (i + 1)) (wss.drop (i + 1)))) := jn_step (by omega) (by omega)
    obtain ⟨hf,hxl,pb,hpb⟩ := HPS.out.at i hlti (by omega)
    have HKW : Hid (w.cell? ⟨kg,koff + i,none⟩ = some (.pointer (some ⟨pb,0,none⟩))) := HKC.out i _ (by rw [List.getElem?_eq_getElem hlti,hpb])
    have hkc0 := (hbw.cell (p := ⟨kg,koff + i,none⟩) (by show kg < _;omega)).trans HKW.out
    have hsc : wr.cell? ⟨(w.heap.size + 2),i,none⟩ = some (.string SS[i]) := by
     rw [hsg.cellAt i (by omega)]
     simp [List.getElem?_eq_getElem (show i < SS.length by omega)]
    rw [hpb] at hf
    obtain ⟨sx,hsx⟩ : ∃ sx,SS[i] = sx := ⟨_,rfl⟩
    obtain ⟨xs,hxs⟩ : ∃ xs,wss[i] = xs := ⟨_,rfl⟩
    rw [hsx] at hsc hstep
    rw [hxs] at hf hxl hstep
    have HF : Hid (FullOK w (.pointer (some ⟨pb,0,none⟩)) xs) := hf
    have hmx : m + 1 + xs.length <= T.length + 1 := by
     have := HD.out
     rw [hstep.out] at this
     rw [<- this,<- HA.out];simp;omega
    clear hf hpb hsx hxs
    by_cases hs0 : sx.size = 0
    ·have hse := empty_str hs0
     have HN : Hid (acc ++ xs ++ jn (SS.drop (i + 1)) (wss.drop (i + 1)) = T) := by
      show _ = _
      rw [<- HD.out,hstep.out,if_pos hs0];simp
     clear hs0 hstep
     go_wp2_with (first
      | (go_at_call 70;refine (HF.out _ (by exact hbw)).mono ?_;rintro _ w2 ⟨v2,rfl,o2,b2⟩;obtain ⟨xg,xcap,rfl,hx1,hx2,hx3,hx4⟩ := own_shapeP o2 hxl;have hs2 := b2.size;have hown' := own_below hown b2;have hsg' := own_below hsg b2;have hbw' := (hbw).trans (b2.mono hsz))
      | (at_builtin;refine wpList_append_own2 _ rfl (.tmp 175) (.tmp 176) 114 rfl w.heap.size 9 i0 _ 1 16 Tryz.underlying114 hi0 hz0 hz1 hz2 rfl (by decide) _ _ _ rfl hown' _ xs.length _ (xs.map Value.string) rfl (by simp) (own_cells o2) ?_ ?_ ?_ ?_ ?_;(exact str_one xs);(unfold maxLen;omega);omega;(omega);intro v3 w3 hown3 hg3 hrow3;have hbw3 : Below w.heap.size w w3 := hbw'.grown hg3 (by omega) (own_ge hown');have hsz3 := hg3.size;have hsg3 := hsg'.kept hg3 (.inr (Ne.symm hvb));have hvb3 := row_ne hvb hrow3 (by omega)))
     go_roundw
     case rel => exact ⟨i + 1,m + xs.length,acc ++ xs,by omega,by simp [HA.out],HN.out,by go_num,by simpa using hown3,hvb3,hsg3,by omega,hbw3⟩
     case measure => simp [intOf];omega
    ·have hse := nonempty_list (t := sx) (by omega)
     have HN : Hid (acc ++ [sx] ++ xs ++ jn (SS.drop (i + 1)) (wss.drop (i + 1)) = T) := by
      show _ = _
      rw [<- HD.out,hstep.out,if_neg hs0];simp
     have hmx2 : m + 1 + xs.length <= T.length := by rw [<- HN.out,<- HA.out];simp;omega
     clear hs0 hstep
     go_wp2_with (first
      | (at_builtin;refine wpList_append_own2 _ rfl (.tmp 160) (.tmp 165) 114 rfl w.heap.size 9 i0 _ 1 16 Tryz.underlying114 hi0 hz0 hz1 hz2 rfl (by decide) _ _ _ rfl (hown.alloc _) _ 1 1 [.string sx] rfl rfl (cells_new _ _ _ _ rfl) ?_ ?_ ?_ ?_ ?_;(intro u hu;simp at hu;subst hu;rfl);(unfold maxLen;omega);omega;(simp;omega);intro v1 w1 hown1 hg1 hrow1;have hbw1 := below_app hbw hsz _ hg1 (own_ge hown);have hsz1 := hbw1.size;have hsg1 := (hsg.alloc _).kept hg1 (.inr (Ne.symm hvb));have hss1 := hg1.size;rw [World.size_alloc] at hss1;have hvb1 := row_ne hvb hrow1 (by rw [World.size_alloc];omega);have hkc1 := (hbw1.cell (p := ⟨kg,koff + i,none⟩) (by show kg < _;omega)).trans HKW.out;have hc51 := (hbw1.cell (p := ⟨bt,5,none⟩) hlt).trans hc5)
      | (go_at_call 70;refine (HF.out _ (by exact hbw1)).mono ?_;rintro _ w2 ⟨v2,rfl,o2,b2⟩;obtain ⟨xg,xcap,rfl,hx1,hx2,hx3,hx4⟩ := own_shapeP o2 hxl;have hs2 := b2.size;have hown' := own_below hown1 b2;have hsg' := own_below hsg1 b2;have hbw' := (hbw1).trans (b2.mono hsz1))
      | (at_builtin;refine wpList_append_own2 _ rfl (.tmp 175) (.tmp 176) 114 rfl w.heap.size 9 i0 _ 1 16 Tryz.underlying114 hi0 hz0 hz1 hz2 rfl (by decide) _ _ _ rfl hown' _ xs.length _ (xs.map Value.string) rfl (by simp) (own_cells o2) ?_ ?_ ?_ ?_ ?_;(exact str_one xs);(unfold maxLen;omega);omega;(omega);intro v3 w3 hown3 hg3 hrow3;have hbw3 : Below w.heap.size w w3 := hbw'.grown hg3 (by omega) (own_ge hown');have hsz3 := hg3.size;have hsg3 := hsg'.kept hg3 (.inr (Ne.symm hvb1));have hvb3 := row_ne hvb1 hrow3 (by omega)))
     go_roundw
     case rel => exact ⟨i + 1,m + 1 + xs.length,acc ++ [sx] ++ xs,by omega,by simp [HA.out];omega,HN.out,by go_num,by simpa using hown3,hvb3,hsg3,by omega,hbw3⟩
     case measure => simp [intOf];omega
   ·have HFN : Hid (acc = T) := by
     show _ = _
     have := HD.out
     rw [show wss.drop i = [] from List.drop_eq_nil_of_le (by omega)] at this
     simpa [jn] using this
    have hcf0 := (hbw.cell (p := ⟨bt,0,none⟩) hlt).trans hcf
    go_wp2_with (first
     | (at_builtin;refine wpList_append_own2 _ rfl (.tmp 183) (.tmp 184) 114 rfl w.heap.size 9 i0 _ 1 16 Tryz.underlying114 hi0 hz0 hz1 hz2 rfl (by decide) _ _ _ rfl (hown.alloc _) _ 1 1 [.string ⟨#[41]⟩] rfl rfl (cells_new _ _ _ _ rfl) ?_ ?_ ?_ ?_ ?_;(intro u hu;simp at hu;subst hu;rfl);(unfold maxLen;omega);omega;(simp;omega);intro v5 w5 hown5 hg5 hrow5;have hbw5 := below_app hbw hsz _ hg5 (own_ge hown);have hsz5 := hbw5.size)
     | (at_builtin;refine wpList_append_own2 _ rfl (.tmp 186) (.tmp 187) 114 rfl w.heap.size 9 i0 _ 1 16 Tryz.underlying114 hi0 hz0 hz1 hz2 rfl (by decide) _ _ _ rfl (hown5.alloc _) _ 1 1 [.string ⟨#[41]⟩] rfl rfl (cells_new _ _ _ _ rfl) ?_ ?_ ?_ ?_ ?_;(intro u hu;simp at hu;subst hu;rfl);(unfold maxLen;omega);omega;(simp;omega);intro v6 w6 hown6 hg6 hrow6;have hbw6 := below_app hbw5 hsz5 _ hg6 (own_ge hown5))
     | (at_builtin;refine wpList_append_own2 _ rfl (.tmp 186) (.tmp 187) 114 rfl w.heap.size 9 i0 _ 1 16 Tryz.underlying114 hi0 hz0 hz1 hz2 rfl (by decide) _ _ _ rfl (hown.alloc _) _ 1 1 [.string ⟨#[41]⟩] rfl rfl (cells_new _ _ _ _ rfl) ?_ ?_ ?_ ?_ ?_;(intro u hu;simp at hu;subst hu;rfl);(unfold maxLen;omega);omega;(simp;omega);intro v6 w6 hown6 hg6 hrow6;have hbw6 := below_app hbw hsz _ hg6 (own_ge hown)))
    go_ret
    refine ⟨_,rfl,?_,hbw6⟩
    have hTm : T.length = m := by rw [<- HFN.out,HA.out]
    have h6 := hown6
    rw [HFN.out] at h6
    first
     | (have e1 : (T ++ [(⟨#[41]⟩ : ByteArray)]).length = m + 1 := by simp [hTm]
        rw [e1,List.map_append]
        simpa using h6)
     | (have e1 : (T ++ [(⟨#[41]⟩ : ByteArray),⟨#[41]⟩]).length = m + 1 + 1 := by simp [hTm]
        rw [e1,List.map_append]
        simpa using h6))
end Go.Proofs.YtmkdoejpgkgpbaaGreatDoor
