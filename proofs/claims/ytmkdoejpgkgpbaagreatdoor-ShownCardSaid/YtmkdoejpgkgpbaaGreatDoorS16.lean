import Derived.Test.YtmkdoejpgkgpbaaGreatDoorS15
set_option linter.unusedVariables false
set_option linter.unusedSimpArgs false
set_option maxHeartbeats 20000000
namespace Go.Proofs.YtmkdoejpgkgpbaaGreatDoor
open Go.RowKit Sl
theorem Tryz.info55 : (Tryz.prog.info? 55).map (fun i => (i.zero,i.size,i.bytes)) = some (some (.pointer none),1,8) := by kernel_rfl
def OKs (L : List Tok) : List (Nat × Nat) -> List G -> Prop
 | [],[] => True
 | q :: ls,g :: gs => TreeOK (cutL L q.1 q.2) g /\ OKs L ls gs
 | _,_ => False
theorem cmN_bound (L : List Tok) : ∀ (m i f : Nat),f <= i -> (cmN L m i f).2 <= i + m := by
 intro m
 induction m with
 | zero => intro i f h;simp [cmN];omega
 | succ m ih =>
   intro i f h
   rw [cmN]
   split
   ·have := ih (i + 1) (i + 1) (by omega);show (cmN L m (i + 1) (i + 1)).2 <= _;omega
   ·have := ih (i + 1) f (by omega);omega
theorem KidsAt.below {w w1 : World} {base : Nat} {kv : Value} {ps : List Value} {gs : List G} (hk : KidsAt w base kv ps gs) (hb : Below w.heap.size w w1) : KidsAt w1 base kv ps gs :=
 ⟨own_below hk.own hb,hk.ht.keep hb.size (fun b _ h2 _ => hb.block b h2) (.inl rfl)⟩
theorem app_blk {w w3 : World} {o : Obj} {base bt : Nat} {kv : Value} {ps : List Value} {m : Nat} {e : TypeId} {X : Obj} (hown : w.ownsRow base e 1 kv m ps) (hbt : bt < base) (hblk : w.heap[bt]? = some X) (hg : (w.alloc o).grownBy w3 kv.ownBlock) : w3.heap[bt]? = some X := by
 have hlt := lt_of_block hblk
 rw [hg.block bt (by rw [World.size_alloc];omega) (fun h => by have := (hown.lt bt h.symm).1;omega),Below.heap_alloc _ _ _ hlt]
 exact hblk
set_option maxRecDepth 100000 in
theorem brk_un {p : Int} : SubOK 263 p [] (.nd f_unit p 0 f_0 [] []) := by
 intro n bl off cap bt w hn hL hcap hblt hbt hblk0 hr hok
 subst hn
 clear hr hok
 have hc0 := blk_at hblk0 0 rfl
 have hf0 := blk_at_f hblk0 0
 have HBK : Hid (w.heap[bt]? = some (treeB p)) := hblk0
 clear hblk0
 go_enter Tryz.func263,Tryz.ntmps263
 go_wp2_with fail
 go_ret
 exact ⟨_,rfl,leaf_done (block_setCell HBK.out 0 _),below_set w bt 0 _⟩
def tupR (F : Nat) (p : Int) (g : G) (gs : List G) : G := if F = 0 then g else .nd f_tuple p 0 f_0 [] (gs ++ [g])
set_option maxRecDepth 100000 in
theorem brk_any {L : List Tok} {g : G} {gs : List G} {p : Int} {F : Nat} (hl : 0 < L.length) (hFl : F < L.length) (hF : (cmL L).2 = F) (hs : OKs L (cmL L).1 gs) (hg : TreeOK (L.drop F) g) : SubOK 263 p L (tupR F p g gs) := by
 intro n bl off cap bt w hn hL hcap hblt hbt hblk0 hr hok
 subst hn
 have hl1 : 1 <= L.length := hl
 obtain ⟨i0,hi0,hz0,hz1,hz2⟩ := info_parts Tryz.info55
 have HR : Hid (RW w bl off L) := hr
 have HK : Hid (∀ t ∈ L,okTok t) := hok
 have HBK : Hid (w.heap[bt]? = some (treeB p)) := hblk0
 have HCM : Hid (cmN L L.length 0 0 = ((cmL L).1,F)) := by
  show _ = _
  rw [<- hF];rfl
 obtain ⟨pr0,hpr0⟩ : ∃ pr0,(cmL L).1 = pr0 := ⟨_,rfl⟩
 rw [hpr0] at HCM hs
 have HS : Hid (OKs L pr0 gs) := hs
 have HG : Hid (TreeOK (L.drop F) g) := hg
 clear hr hok hblk0 hF hs hg hpr0
 go_enter Tryz.func263,Tryz.ntmps263
 go_wp2_with (go_at_call 186;refine (depths_any L bl off cap w hL hcap (by omega) HR.out HK.out).mono ?_;rintro e w1 ⟨v,rfl,hv,hb1⟩;obtain ⟨gd,dcap,rfl,hd1,hd2,hd3,hd4⟩ := own_shapeP hv hl1)
 have hd3' := hd3
 have HV1 : Hid (w1.ownsRow w.heap.size 3 1 (.slice (some ⟨gd,0,none⟩) L.length dcap) L.length ((dsF 0 L).map (Value.int .i64))) := hv
 have HRW : Hid (RW w1 bl off L) := HR.out.below hb1 (by omega)
 have hs1 := hb1.size
 have HBK1 : Hid (w1.heap[bt]? = some (treeB p)) := blk_below HBK.out hb1 hbt
 clear hv hd3 hd4
 go_loopw [6,7] (fun u v wr => ∃ (i f : Nat) (kv : Value) (ps : List Value) (gl gr : List G) (pr : List (Nat × Nat)),i <= L.length /\ f <= i /\ cmN L (L.length - i) i f = (pr,F) /\ OKs L pr gr /\ gl ++ gr = gs /\ ps.length <= i /\ u = .int .i64 f /\ v = .int .i64 i /\
  wr.heap[bt]? = some (.cells #[.string f_0,.int .i64 p,.int .i64 0,.string f_0,.slice none 0 0,kv] 205 (0,0)) /\ KidsAt wr w1.heap.size kv ps gl /\ Only bt w1.heap.size w1 wr) (fun _ v _ => L.length - (intOf v).toNat)
 case atStart => exact ⟨0,0,_,[],[],gs,pr0,Nat.zero_le _,Nat.le_refl _,HCM.out,HS.out,rfl,Nat.le_refl _,rfl,rfl,HBK1.out,KidsAt.none _ _,Only.refl _ _ _⟩
 case round =>
  obtain ⟨i,f,kv,ps,gl,gr,pr,hi,hfi,hcm,hos,hgs,hpl,rfl,rfl,hblk,hkids,honly⟩ := hrel
  have HC : Hid (cmN L (L.length - i) i f = (pr,F)) := hcm
  have HO : Hid (OKs L pr gr) := hos
  have HGS : Hid (gl ++ gr = gs) := hgs
  have HBL : Hid (wr.heap[bt]? = some (.cells #[.string f_0,.int .i64 p,.int .i64 0,.string f_0,.slice none 0 0,kv] 205 (0,0))) := hblk
  have HKD : Hid (KidsAt wr w1.heap.size kv ps gl) := hkids
  have HON : Hid (Only bt w1.heap.size w1 wr) := honly
  have hsr := honly.below.size
  have HRR : Hid (RW wr bl off L) := HRW.out.below honly.below hblt
  clear hcm hos hgs hblk hkids honly
  by_cases hlt : i < L.length
  ·obtain ⟨c1,_,_⟩ := HRR.out i hlt
   obtain ⟨hkn,hk35⟩ := HK.out L[i] (by simp)
   have hdd : wr.cell? ⟨gd,i,none⟩ = some (.int .i64 (ddAt L i)) := (World.cell?_of_block (w := w1) (a := ⟨gd,i,none⟩) (HON.out.rest gd hd2 (by omega))).trans (ddAt_cell HV1.out i hlt)
   rw [hkn] at c1
   have q25 := nk25 hk35
   obtain ⟨kk,hkk⟩ : ∃ kk,L[i].k = kk := ⟨_,rfl⟩
   obtain ⟨dv,hdv⟩ : ∃ dv,ddAt L i = dv := ⟨_,rfl⟩
   rw [hkk] at c1 q25
   rw [hdv] at hdd
   have HST : Hid ((if dv = 0 /\ kk = 25 then ((f,i) :: (cmN L (L.length - (i + 1)) (i + 1) (i + 1)).1,(cmN L (L.length - (i + 1)) (i + 1) (i + 1)).2) else cmN L (L.length - (i + 1)) (i + 1) f) = (pr,F)) := by
    show _ = _
    have := HC.out
    rw [show L.length - i = (L.length - (i + 1)) + 1 by omega,cmN,hdv,kdAt_eq L i hlt,hkk] at this
    exact this
   clear hkn hkk hdv hk35
   by_cases hd0 : dv = 0
   ·rw [hd0] at hdd HST
    clear hd0
    by_cases h25 : kk = 25
    ·have e25 : ((nameK kk).toList == [44]) = true := by rw [q25];simpa using h25
     have HST2 : Hid (((f,i) :: (cmN L (L.length - (i + 1)) (i + 1) (i + 1)).1,(cmN L (L.length - (i + 1)) (i + 1) (i + 1)).2) = (pr,F)) := by
      have h := HST.out;rw [if_pos ⟨rfl,h25⟩] at h;exact h
     obtain ⟨prr,hprr⟩ : ∃ prr,(cmN L (L.length - (i + 1)) (i + 1) (i + 1)).1 = prr := ⟨_,rfl⟩
     have hpr : pr = (f,i) :: prr := by have h := HST2.out;simp only [Prod.mk.injEq] at h;rw [<- h.1,hprr]
     have HN : Hid (cmN L (L.length - (i + 1)) (i + 1) (i + 1) = (prr,F)) := by
      have h := HST2.out;simp only [Prod.mk.injEq] at h;show _ = _;rw [<- h.2,<- hprr]
     subst hpr
     obtain ⟨g1,gr',hgr,hok1,hok2⟩ : ∃ g1 gr',gr = g1 :: gr' /\ TreeOK (cutL L f i) g1 /\ OKs L prr gr' := by
      have h := HO.out
      cases gr with
      | nil => exact h.elim
      | cons a b => exact ⟨a,b,rfl,h.1,h.2⟩
     subst hgr
     have HT1 : Hid (TreeOK (cutL L f i) g1) := hok1
     have HO2 : Hid (OKs L prr gr') := hok2
     have hcl : Hid ((cutL L f i).length = i - f) := cutL_len L hfi (by omega)
     clear q25 h25 HST HST2 HO HC hok1 hok2 hprr
     go_wp2_with (first
      | (go_at_call 69;refine (HT1.out _ bl _ _ _ (by rw [hcl.out]) (by rw [hcl.out];omega) (by rw [hcl.out];omega) (by omega) (by exact HRR.out.cut f i) (ok_cut HK.out f i)).mono ?_;rintro _ w2 ⟨v2,rfl,ht2,hb2⟩;obtain ⟨p2,rfl,hp2,hp2'⟩ := ht2.ptr;have hs2 := hb2.size;have hblk2 := blk_below HBL.out hb2 (by omega);have hc5 := blk_at hblk2 5 rfl;have hk2 := HKD.out.below hb2)
      | (at_builtin;refine wpList_append_own2 _ rfl (.tmp 47) (.tmp 49) 203 rfl w1.heap.size 55 i0 _ 1 8 Tryz.underlying203 hi0 hz0 hz1 hz2 rfl (by decide) kv _ _ rfl (hk2.own.alloc _) _ 1 1 [.pointer (some ⟨p2,0,none⟩)] rfl rfl (cells_new _ _ _ _ rfl) ?_ ?_ ?_ ?_ ?_;(intro u hu;simp at hu;subst hu;rfl);(unfold maxLen;omega);omega;(simp;omega);intro v' w3 hown3 hg3 hrow3;obtain ⟨kg,kc,rfl,hkg1,hkg2,hkg3,hkg4⟩ := own_shapeP hown3 (by omega);have hblk3 := app_blk hk2.own (show bt < w1.heap.size by omega) hblk2 hg3;have hc35 := blk_at hblk3 5 rfl;have hf35 := blk_at_f hblk3 5))
     go_roundw
     case rel =>
      obtain ⟨hk3,ho3,hs3⟩ := kids_step hk2 (show bt < w1.heap.size by omega) hsr (fun r h => (HKD.out.own.lt r h).2) ht2 hown3 hg3 hrow3 (.slice (some ⟨kg,0,none⟩) (ps.length + 1) kc)
      exact ⟨i + 1,i + 1,_,ps ++ [.pointer (some ⟨p2,0,none⟩)],gl ++ [g1],gr',prr,by omega,Nat.le_refl _,HN.out,HO2.out,by rw [<- HGS.out];simp,by simp;omega,by go_num,by go_num,block_setCell hblk3 5 _,hk3,(HON.out.trans (Only.of (hb2.mono hsr) (by omega))).trans ho3⟩
     case measure => simp [intOf];omega
    ·have e25 : ((nameK kk).toList == [44]) = false := by rw [q25];simpa using h25
     have HN : Hid (cmN L (L.length - (i + 1)) (i + 1) f = (pr,F)) := by
      have h := HST.out;rw [if_neg (fun h' => h25 h'.2)] at h;exact h
     clear q25 h25 HST HC
     go_wp2_with fail
     go_roundw
     case rel => exact ⟨i + 1,f,kv,ps,gl,gr,pr,by omega,by omega,HN.out,HO.out,HGS.out,by omega,rfl,by go_num,HBL.out,HKD.out,HON.out⟩
     case measure => simp [intOf];omega
   ·have hd0' : (dv == 0) = false := by simpa using hd0
    have HN : Hid (cmN L (L.length - (i + 1)) (i + 1) f = (pr,F)) := by
     have h := HST.out;rw [if_neg (fun h' => hd0 h'.1)] at h;exact h
    clear q25 hd0 HST HC
    go_wp2_with fail
    go_roundw
    case rel => exact ⟨i + 1,f,kv,ps,gl,gr,pr,by omega,by omega,HN.out,HO.out,HGS.out,by omega,rfl,by go_num,HBL.out,HKD.out,HON.out⟩
    case measure => simp [intOf];omega
  ·have hfin : pr = [] /\ f = F := by
    have := HC.out
    rw [show L.length - i = 0 by omega,cmN] at this
    simp only [Prod.mk.injEq] at this
    exact ⟨this.1.symm,this.2⟩
   obtain ⟨rfl,rfl⟩ := hfin
   have hgr : gr = [] := by
    have h := HO.out
    cases gr with
    | nil => rfl
    | cons a b => exact h.elim
   subst hgr
   have HGL : Hid (gl = gs) := by
    show gl = gs
    have := HGS.out
    simpa using this
   clear HC HO HGS
   by_cases hf0 : f = 0
   ·subst hf0
    have HG0 : Hid (TreeOK L g) := by
     have := HG.out
     rw [List.drop_zero] at this
     exact this
    clear HG
    go_wp2_with (go_at_call 69;refine (HG0.out _ bl off cap _ rfl hL hcap (by omega) HRR.out HK.out).mono ?_;rintro _ w2 ⟨v2,rfl,ht2,hb2⟩;obtain ⟨p2,rfl,hp2,hp2'⟩ := ht2.ptr)
    go_ret
    exact ⟨_,rfl,ht2.wide (by omega) (Nat.le_refl _),((hb1.mono (by omega)).trans HON.out.below).trans (hb2.mono (by omega))⟩
   ·have HF0 : Hid (¬ f = 0) := hf0
    have hfb : ((f : Int) == 0) = false := by simp;omega
    clear hf0
    go_wp2_with (first
     | (go_at_call 69;refine (HG.out _ bl _ _ _ (by rw [List.length_drop]) (by rw [List.length_drop];omega) (by rw [List.length_drop];omega) (by omega) (by exact HRR.out.drop f) (ok_drop HK.out f)).mono ?_;rintro _ w2 ⟨v2,rfl,ht2,hb2⟩;obtain ⟨p2,rfl,hp2,hp2'⟩ := ht2.ptr;have hs2 := hb2.size;have hblk2 := blk_below HBL.out hb2 (by omega);have hc5 := blk_at hblk2 5 rfl;have hc0 := blk_at hblk2 0 rfl;have hf00 := blk_at_f hblk2 0;have hk2 := HKD.out.below hb2;have hso := (Sole.refl bt w2).set (i := 0) (.string f_tuple);have hk2' := hk2.sole hso (show bt < w1.heap.size by omega);have hblk2' := block_setCell hblk2 0 (.string f_tuple))
     | (at_builtin;refine wpList_append_own2 _ rfl (.tmp 69) (.tmp 71) 203 rfl w1.heap.size 55 i0 _ 1 8 Tryz.underlying203 hi0 hz0 hz1 hz2 rfl (by decide) kv _ _ rfl (hk2'.own.alloc _) _ 1 1 [.pointer (some ⟨p2,0,none⟩)] rfl rfl (cells_new _ _ _ _ (size_setCell _ _ _).symm) ?_ ?_ ?_ ?_ ?_;(intro u hu;simp at hu;subst hu;rfl);(unfold maxLen;omega);omega;(simp only [World.size_alloc,size_setCell];omega);intro v' w3 hown3 hg3 hrow3;obtain ⟨kg,kc,rfl,hkg1,hkg2,hkg3,hkg4⟩ := own_shapeP hown3 (by omega);have hblk3 := app_blk hk2'.own (show bt < w1.heap.size by omega) hblk2' hg3;have hc35 := blk_at hblk3 5 rfl;have hf35 := blk_at_f hblk3 5))
    go_ret
    have ht2' : HT (w2.setCell ⟨bt,0,none⟩ (.string f_tuple)) wr.heap.size (w2.setCell ⟨bt,0,none⟩ (.string f_tuple)).heap.size (.pointer (some ⟨p2,0,none⟩)) g := by
     rw [size_setCell];exact ht2.keep (hso.held (by omega))
    obtain ⟨hk3,ho3,hs3⟩ := kids_step hk2' (show bt < w1.heap.size by omega) hsr (fun r h => (HKD.out.own.lt r h).2) ht2' hown3 hg3 hrow3 (.slice (some ⟨kg,0,none⟩) (ps.length + 1) kc)
    refine ⟨_,rfl,?_,(hb1.mono (by omega)).trans (((HON.out.trans (Only.of (hb2.mono hsr) (by omega))).trans (Only.sole hso)).trans ho3).below⟩
    unfold tupR
    rw [if_neg HF0.out,<- HGL.out]
    exact kids_done hk3 (show bt < w1.heap.size by omega) (Nat.le_refl _) (block_setCell hblk3 5 _)
end Go.Proofs.YtmkdoejpgkgpbaaGreatDoor
