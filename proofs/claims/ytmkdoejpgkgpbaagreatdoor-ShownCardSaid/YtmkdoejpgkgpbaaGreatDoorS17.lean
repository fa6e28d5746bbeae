import Derived.Test.YtmkdoejpgkgpbaaGreatDoorS16
import Derived.Deep.LoopGhost
set_option linter.unusedVariables false
set_option linter.unusedSimpArgs false
set_option maxHeartbeats 20000000
namespace Go.Proofs.YtmkdoejpgkgpbaaGreatDoor
open Go.RowKit Sl
def OPs (L : List Tok) : List (Nat × Nat) -> List G -> Prop
 | [],[] => True
 | q :: ls,g :: gs => SubOK 189 (tokAt (cutL L q.1 q.2) 0).p (cutL L q.1 q.2) g /\ OPs L ls gs
 | _,_ => False
theorem OPs.len {L : List Tok} : ∀ {ls : List (Nat × Nat)} {gs : List G},OPs L ls gs -> ls.length = gs.length := by
 intro ls
 induction ls with
 | nil => intro gs h;cases gs with | nil => rfl | cons => exact h.elim
 | cons q ls ih => intro gs h;cases gs with | nil => exact h.elim | cons g gs => simp [ih h.2]
theorem opN_pos (L : List Tok) : ∀ (m i f : Nat),i + m = L.length + 1 -> 1 <= m -> 1 <= (opN L m i f).length := by
 intro m
 induction m with
 | zero => intro i f _ h;omega
 | succ m ih =>
   intro i f h1 _
   rw [opN]
   by_cases hm : m = 0
   ·subst hm
    rw [if_pos (show hitO L i from Or.inl (by omega))];simp
   ·split
    ·simp
    ·exact ih (i + 1) f (by omega) (by omega)
theorem opL_pos {L : List Tok} (h : 1 <= L.length) : 1 <= (opL L).length := opN_pos L L.length 1 0 (by omega) h
theorem operands_at {L : List Tok} {n b off cap : Nat} {w : World} {ps : List (Nat × Nat)} (hps : opL L = ps) (hn : n = L.length) (hL : L.length <= 100000) (hL1 : 1 <= L.length) (hc : L.length <= cap) (hb : b < w.heap.size) (hr : RW w b off L) (hok : ∀ t ∈ L,okTok t) :
 Calls Tryz.prog 188 #[.slice (some ⟨b,off,none⟩) n cap] w fun e w' => ∃ v,e = .returned v /\ w'.ownsRow w.heap.size 109 1 v ps.length (ps.map (cutV b off cap)) /\ Below w.heap.size w w' := by
 subst hn
 subst hps
 exact operands_any L b off cap w hL hL1 hc hb hr hok
theorem first_pos {w : World} {base : Nat} {kv : Value} {ps : List Value} {g : G} {gs : List G} (hk : KidsAt w base kv ps (g :: gs)) : ∃ g0 cap b,kv = .slice (some ⟨g0,0,none⟩) ps.length cap /\ base <= g0 /\ base <= b /\ ps.length <= cap /\ 1 <= ps.length /\ w.cell? ⟨g0,0,none⟩ = some (.pointer (some ⟨b,0,none⟩)) /\ w.cell? ⟨b,1,none⟩ = some (.int .i64 g.pos) := by
 have hl := hk.ht.len
 simp only [List.length_cons] at hl
 obtain ⟨g0,cap,hkv,h1,h2,h3,h4⟩ := own_shapeP hk.own (by omega)
 have hown := hk.own
 rw [hkv] at hown
 have hc := hown.cellAt 0 (by omega)
 cases ps with
 | nil => simp at hl
 | cons v vs =>
   obtain ⟨⟨B,n,hB,hn,_,ht⟩,_⟩ := hk.ht
   cases ht with
   | nd q1 q2 q3 q4 q5 q6 =>
     exact ⟨g0,cap,_,hkv,h1,by omega,h3,by omega,by rw [hc];rfl,(cells_of_block q3 1).1⟩
set_option maxRecDepth 100000 in
theorem call_o1 {L : List Tok} {p : Int} {g : G} (hw : wordK (kdAt L 0) = false) (hl : 0 < L.length) (h1 : (opL L).length = 1) (hs : SubOK 189 p L g) : SubOK 119 p L g := by
 intro n bl off cap bt w hn hL hcap hblt hbt hblk0 hr hok
 subst hn
 have hl1 : 1 <= L.length := hl
 have hk := kdAt_cell hr hok (i := 0) hl1
 have hk35 := kdAt_lt hok (i := 0) hl1
 simp only [Nat.zero_mul,Nat.add_zero] at hk
 simp only [wordK,Bool.or_eq_false_iff,beq_eq_false_iff_ne] at hw
 obtain ⟨⟨⟨w14,w15⟩,w16⟩,w17⟩ := hw
 have e14 : ((nameK (kdAt L 0)).toList == [112,114,105,110,116]) = false := by rw [nk14 hk35];simpa using w14
 have e15 : ((nameK (kdAt L 0)).toList == [108,101,110]) = false := by rw [nk15 hk35];simpa using w15
 have e16 : ((nameK (kdAt L 0)).toList == [97,114,114,97,121]) = false := by rw [nk16 hk35];simpa using w16
 have e17 : ((nameK (kdAt L 0)).toList == [112,117,116]) = false := by rw [nk17 hk35];simpa using w17
 obtain ⟨nm,hnm⟩ : ∃ nm,nameK (kdAt L 0) = nm := ⟨_,rfl⟩
 rw [hnm] at hk e14 e15 e16 e17
 have HR : Hid (RW w bl off L) := hr
 have HK : Hid (∀ t ∈ L,okTok t) := hok
 have HBK : Hid (w.heap[bt]? = some (treeB p)) := hblk0
 have HS : Hid (SubOK 189 p L g) := hs
 obtain ⟨pl,hpl⟩ : ∃ pl,opL L = pl := ⟨_,rfl⟩
 have HPL : Hid (opL L = pl) := hpl
 rw [hpl] at h1
 clear hr hok hblk0 hs hnm w14 w15 w16 w17 hk35 hpl
 go_enter Tryz.func119,Tryz.ntmps119
 go_wp2_with (first
  | (go_at_call 188;refine (operands_at HPL.out rfl hL hl1 hcap (by omega) HR.out HK.out).mono ?_;rintro _ w1 ⟨v1,rfl,ho1,hb1⟩;rw [h1] at ho1;obtain ⟨pg,pcap,rfl,hg1,hg2,hg3,hg4⟩ := own_shapeP ho1 (Nat.le_refl _);have hs1 := hb1.size;have hblk := blk_below HBK.out hb1 hbt)
  | (go_at_call 189;refine (HS.out _ bl off cap bt _ rfl hL hcap hblt (by omega) hblk (HR.out.below hb1 (by omega)) HK.out).mono ?_;rintro _ w2 ⟨v2,rfl,ht2,hb2⟩;obtain ⟨p2,rfl,hp2,hp2'⟩ := ht2.ptr))
 go_ret
 exact ⟨_,rfl,ht2,(hb1.mono (by omega)).trans hb2⟩
set_option maxRecDepth 100000 in
theorem call_wd {L : List Tok} {p : Int} {gs : List G} (hw : wordK (kdAt L 0) = true) (hl : 1 < L.length) (hs : OPs (L.drop 1) (opL (L.drop 1)) gs) : SubOK 119 p L (.nd (nameK (kdAt L 0)) p 0 f_0 [] gs) := by
 intro n bl off cap bt w hn hL hcap hblt hbt hblk0 hr hok
 subst hn
 have hl1 : 1 <= L.length := by omega
 obtain ⟨i0,hi0,hz0,hz1,hz2⟩ := info_parts Tryz.info55
 have hk := kdAt_cell hr hok (i := 0) hl1
 have hk35 := kdAt_lt hok (i := 0) hl1
 simp only [Nat.zero_mul,Nat.add_zero] at hk
 have ewd : ((nameK (kdAt L 0)).toList == [112,114,105,110,116] || (nameK (kdAt L 0)).toList == [108,101,110] || (nameK (kdAt L 0)).toList == [97,114,114,97,121] || (nameK (kdAt L 0)).toList == [112,117,116]) = true := by
  rw [nk14 hk35,nk15 hk35,nk16 hk35,nk17 hk35];exact hw
 have hne : ((nameK (kdAt L 0)).toList == (⟨#[]⟩ : ByteArray).toList) = false := by rw [nk_ne hk35];simp;omega
 rw [show (⟨#[]⟩ : ByteArray).toList = [] from toL []] at hne
 obtain ⟨nm,hnm⟩ : ∃ nm,nameK (kdAt L 0) = nm := ⟨_,rfl⟩
 rw [hnm] at hk ewd hne ⊢
 have HR : Hid (RW w bl off L) := hr
 have HK1 : Hid (∀ t ∈ L.drop 1,okTok t) := ok_drop hok 1
 have hlen : (L.drop 1).length = L.length - 1 := by rw [List.length_drop]
 have HBK : Hid (w.heap[bt]? = some (treeB p)) := hblk0
 have HBND : Hid (∀ q ∈ opL (L.drop 1),q.1 < q.2 /\ q.2 <= (L.drop 1).length) := opL_bound _
 have hplen : (opL (L.drop 1)).length <= (L.drop 1).length := opN_len _ _ _ _
 have hppos : 1 <= (opL (L.drop 1)).length := opL_pos (by omega)
 obtain ⟨pl,hpl⟩ : ∃ pl,opL (L.drop 1) = pl := ⟨_,rfl⟩
 have HPL : Hid (opL (L.drop 1) = pl) := hpl
 rw [hpl] at hs HBND hplen hppos
 have HS : Hid (OPs (L.drop 1) pl gs) := hs
 clear hr hok hblk0 hs hnm hk35 hpl
 go_enter Tryz.func119,Tryz.ntmps119
 go_upto_region 3 with fail
 go_cut [27] (fun s27 wy => s27 = .bool true /\ w = wy)
 case first =>
  cases b14 : (nm.toList == [112,114,105,110,116]) <;> cases b15 : (nm.toList == [108,101,110]) <;> cases b16 : (nm.toList == [97,114,114,97,121]) <;> cases b17 : (nm.toList == [112,117,116])
  all_goals first
   | (exfalso;rw [b14,b15,b16,b17] at ewd;simp at ewd;done)
   | (clear ewd;go_wp2_with fail;go_meet;exact ⟨rfl,rfl⟩)
 case rest =>
 obtain ⟨rfl,rfl⟩ := hcut
 clear ewd
 go_wp2_with (go_at_call 188;refine (operands_at HPL.out (by omega) (by omega) (by omega) (by omega) (by omega) (by exact HR.out.drop 1) HK1.out).mono ?_;rintro _ w1 ⟨v1,rfl,ho1,hb1⟩;obtain ⟨pg,pcap,rfl,hg1,hg2,hg3,hg4⟩ := own_shapeP ho1 hppos)
 have hs1 := hb1.size
 have HBK1 : Hid (w1.heap[bt]? = some (treeB p)) := blk_below HBK.out hb1 hbt
 have HOW : Hid (w1.ownsRow w.heap.size 109 1 (.slice (some ⟨pg,0,none⟩) pl.length pcap) pl.length (pl.map (cutV bl (off + 1 * 3) (cap - 1)))) := ho1
 have HRW : Hid (RW w1 bl off L) := HR.out.below hb1 (by omega)
 clear ho1
 go_loopg [8] pl.length (fun gh s8 (wx : World) => ∃ (i : Nat) (kv : Value) (ps : List Value) (gl gr : List G),i <= pl.length /\ gh = pl.length - i /\ OPs (L.drop 1) (pl.drop i) gr /\ gl ++ gr = gs /\ ps.length = i /\ s8 = .int .i64 i /\
  wx.heap[bt]? = some (.cells #[.string f_0,.int .i64 p,.int .i64 0,.string f_0,.slice none 0 0,kv] 205 (0,0)) /\ KidsAt wx w1.heap.size kv ps gl /\ Only bt w1.heap.size w1 wx)
 case atStart => exact ⟨0,_,[],[],_,Nat.zero_le _,rfl,HS.out,rfl,rfl,rfl,HBK1.out,KidsAt.none _ _,Only.refl _ _ _⟩
 case round =>
  obtain ⟨i,kv,ps,gl,gr,hi,rfl,hops,hgs,hpl,rfl,hblk,hkids,honly⟩ := hrel
  have HO : Hid (OPs (L.drop 1) (pl.drop i) gr) := hops
  have HGS : Hid (gl ++ gr = gs) := hgs
  have HPS : Hid (ps.length = i) := hpl
  have HBL : Hid (wr.heap[bt]? = some (.cells #[.string f_0,.int .i64 p,.int .i64 0,.string f_0,.slice none 0 0,kv] 205 (0,0))) := hblk
  have HKD : Hid (KidsAt wr w1.heap.size kv ps gl) := hkids
  have HON : Hid (Only bt w1.heap.size w1 wr) := honly
  have hsr := honly.below.size
  have HRx0 : RW wr bl off L := HRW.out.below honly.below hblt
  clear hops hgs hpl hblk hkids honly
  by_cases hlt : i < pl.length
  ·obtain ⟨q,hq⟩ : ∃ q,pl[i] = q := ⟨_,rfl⟩
   have hqm : q ∈ pl := by rw [<- hq];exact List.getElem_mem _
   obtain ⟨hq1,hq2⟩ := HBND.out q hqm
   have hdrop : pl.drop i = q :: pl.drop (i + 1) := by rw [List.drop_eq_getElem_cons hlt,hq]
   obtain ⟨g1,gr',hgr,hok1,hok2⟩ : ∃ g1 gr',gr = g1 :: gr' /\ SubOK 189 (tokAt (cutL (L.drop 1) q.1 q.2) 0).p (cutL (L.drop 1) q.1 q.2) g1 /\ OPs (L.drop 1) (pl.drop (i + 1)) gr' := by
    have h := HO.out
    rw [hdrop] at h
    cases gr with
    | nil => exact h.elim
    | cons a b => exact ⟨a,b,rfl,h.1,h.2⟩
   subst hgr
   have hcell : wr.cell? ⟨pg,i,none⟩ = some (cutV bl (off + 1 * 3) (cap - 1) q) := by
    rw [World.cell?_of_block (w := w1) (a := ⟨pg,i,none⟩) (HON.out.rest pg hg2 (by omega)),HOW.out.cellAt i (by omega)]
    simp [List.getElem?_map,List.getElem?_eq_getElem hlt,hq]
   obtain ⟨q1,q2⟩ := q
   simp only at hq1 hq2
   have hcl : (cutL (L.drop 1) q1 q2).length = q2 - q1 := cutL_len _ (by omega) hq2
   have HRx := HRx0
   have HRc : Hid (RW wr bl ((off + 1 * 3) + q1 * 3) (cutL (L.drop 1) q1 q2)) := (HRx.drop 1).cut q1 q2
   have hpos := posAt_cell HRc.out (i := 0) (by omega)
   obtain ⟨pq,hpq⟩ : ∃ pq : Int,((tokAt (cutL (L.drop 1) q1 q2) 0).p : Int) = pq := ⟨_,rfl⟩
   rw [hpq] at hpos
   have HT1 : Hid (SubOK 189 pq (cutL (L.drop 1) q1 q2) g1) := by rw [<- hpq];exact hok1
   have HO2 : Hid (OPs (L.drop 1) (pl.drop (i + 1)) gr') := hok2
   have hcv : Hid (cutV bl (off + 1 * 3) (cap - 1) (q1,q2) = .slice (some ⟨bl,(off + 1 * 3) + q1 * 3,none⟩) (q2 - q1) ((cap - 1) - q1)) := rfl
   rw [hcv.out] at hcell
   simp only [Nat.zero_mul,Nat.add_zero,Nat.one_mul] at hpos hcell
   have HCL : Hid ((cutL (L.drop 1) q1 q2).length = q2 - q1) := hcl
   have hpgl : pg < wr.heap.size := by omega
   have hcell2 : ∀ o,(wr.alloc o).cell? ⟨pg,i,none⟩ = wr.cell? ⟨pg,i,none⟩ := fun o => World.cell?_of_block (w := wr) (a := ⟨pg,i,none⟩) (Below.heap_alloc _ _ _ hpgl)
   simp only [hcell] at hcell2
   clear hok1 hok2 hpq hcl hq hqm hdrop HO HRx HRx0 hcv
   go_upto_region 12 with fail
   go_cut [9] (fun s9 wy => ∃ p2,s9 = .pointer (some ⟨p2,0,none⟩) /\ HT wy wr.heap.size wy.heap.size s9 g1 /\ Below wr.heap.size wr wy)
   case first =>
    go_region_with (go_at_call 189;refine (HT1.out _ bl _ _ wr.heap.size _ (by rw [HCL.out]) (by rw [HCL.out];omega) (by rw [HCL.out];omega) (by omega) (by simp) (by exact blk_new wr _) (by exact HRc.out.alloc (by omega) _) (ok_cut HK1.out q1 q2)).mono ?_;rintro _ w2 ⟨v2,rfl,ht2,hb2⟩;obtain ⟨p2,rfl,hp2,hp2'⟩ := ht2.ptr)
    all_goals (try go_wp2_with fail)
    all_goals go_meet
    all_goals exact ⟨_,rfl,ht2,((Below.refl wr.heap.size wr).alloc (Nat.le_refl _) _).trans ⟨hb2.os,hb2.tape,hb2.output,hb2.size,hb2.block⟩⟩
   case rest =>
    obtain ⟨p2,rfl,ht2,hb2⟩ := hcut
    have hs2 := hb2.size
    have hblk2 := blk_below HBL.out hb2 (by omega)
    have hc5 := blk_at hblk2 5 rfl
    have hk2 := HKD.out.below hb2
    go_wp2_with (at_builtin;refine wpList_append_own2 _ rfl (.tmp 67) (.tmp 69) 203 rfl w1.heap.size 55 i0 _ 1 8 Tryz.underlying203 hi0 hz0 hz1 hz2 rfl (by decide) kv _ _ rfl (hk2.own.alloc _) _ 1 1 [.pointer (some ⟨p2,0,none⟩)] rfl rfl (cells_new _ _ _ _ rfl) ?_ ?_ ?_ ?_ ?_;(intro u hu;simp at hu;subst hu;rfl);(rw [HPS.out];unfold maxLen;omega);(rw [HPS.out];omega);(simp;omega);intro v' w3 hown3 hg3 hrow3;obtain ⟨kg,kc,rfl,hkg1,hkg2,hkg3,hkg4⟩ := own_shapeP hown3 (by omega);have hblk3 := app_blk hk2.own (show bt < w1.heap.size by omega) hblk2 hg3;have hc35 := blk_at hblk3 5 rfl;have hf35 := blk_at_f hblk3 5)
    go_roundg (pl.length - (i + 1))
    case measure => omega
    case rel =>
     obtain ⟨hk3,ho3,hs3⟩ := kids_step hk2 (show bt < w1.heap.size by omega) hsr (fun r h => (HKD.out.own.lt r h).2) ht2 hown3 hg3 hrow3 (.slice (some ⟨kg,0,none⟩) (ps.length + 1) kc)
     exact ⟨i + 1,_,ps ++ [.pointer (some ⟨p2,0,none⟩)],gl ++ [g1],gr',by omega,rfl,HO2.out,by rw [<- HGS.out];simp,by simp [HPS.out],by go_num,block_setCell hblk3 5 _,hk3,(HON.out.trans (Only.of (hb2.mono hsr) (by omega))).trans ho3⟩
  ·have hgr : gr = [] := by
    have h := HO.out
    rw [show pl.drop i = [] from List.drop_eq_nil_of_le (by omega)] at h
    cases gr with
    | nil => rfl
    | cons a b => exact h.elim
   subst hgr
   have hgl : gl = gs := by have := HGS.out;simpa using this
   subst hgl
   clear HO HGS
   have hc0 := blk_at HBL.out 0 rfl
   have hf0 := blk_at_f HBL.out 0
   go_wp2_with fail
   go_ret
   have hso : Sole bt wr (wr.setCell ⟨bt,0,none⟩ (.string nm)) := (Sole.refl bt wr).set _
   exact ⟨_,rfl,kids_done (HKD.out.sole hso (show bt < w1.heap.size by omega)) (show bt < w1.heap.size by omega) (Nat.le_refl _) (block_setCell HBL.out 0 _),((hb1.mono (by omega)).trans HON.out.below).trans hso.1⟩
set_option maxRecDepth 100000 in
theorem call_cl {L : List Tok} {p : Int} {g : G} {gs : List G} (hw : wordK (kdAt L 0) = false) (hl : 0 < L.length) (h1 : (opL L).length ≠ 1) (hs : OPs L (opL L) (g :: gs)) : SubOK 119 p L (.nd f_call g.pos 0 f_0 [] (g :: gs)) := by
 intro n bl off cap bt w hn hL hcap hblt hbt hblk0 hr hok
 subst hn
 have hl1 : 1 <= L.length := by omega
 obtain ⟨i0,hi0,hz0,hz1,hz2⟩ := info_parts Tryz.info55
 have hk := kdAt_cell hr hok (i := 0) hl1
 have hk35 := kdAt_lt hok (i := 0) hl1
 simp only [Nat.zero_mul,Nat.add_zero] at hk
 simp only [wordK,Bool.or_eq_false_iff,beq_eq_false_iff_ne] at hw
 obtain ⟨⟨⟨w14,w15⟩,w16⟩,w17⟩ := hw
 have e14 : ((nameK (kdAt L 0)).toList == [112,114,105,110,116]) = false := by rw [nk14 hk35];simpa using w14
 have e15 : ((nameK (kdAt L 0)).toList == [108,101,110]) = false := by rw [nk15 hk35];simpa using w15
 have e16 : ((nameK (kdAt L 0)).toList == [97,114,114,97,121]) = false := by rw [nk16 hk35];simpa using w16
 have e17 : ((nameK (kdAt L 0)).toList == [112,117,116]) = false := by rw [nk17 hk35];simpa using w17
 obtain ⟨nm,hnm⟩ : ∃ nm,nameK (kdAt L 0) = nm := ⟨_,rfl⟩
 rw [hnm] at hk e14 e15 e16 e17
 have HR : Hid (RW w bl off L) := hr
 have HK1 : Hid (∀ t ∈ L,okTok t) := hok
 have hlen : L.length = L.length := rfl
 have HBK : Hid (w.heap[bt]? = some (treeB p)) := hblk0
 have HBND : Hid (∀ q ∈ opL L,q.1 < q.2 /\ q.2 <= L.length) := opL_bound _
 have hplen : (opL L).length <= L.length := opN_len _ _ _ _
 have hppos : 1 <= (opL L).length := opL_pos (by omega)
 obtain ⟨pl,hpl⟩ : ∃ pl,opL L = pl := ⟨_,rfl⟩
 have HPL : Hid (opL L = pl) := hpl
 rw [hpl] at hs HBND hplen hppos
 rw [hpl] at h1
 have hnb : ((pl.length : Int) == 1) = false := by simp;omega
 clear h1
 have HS : Hid (OPs L pl (g :: gs)) := hs
 clear hr hok hblk0 hs hnm hk35 hpl w14 w15 w16 w17
 go_enter Tryz.func119,Tryz.ntmps119
 go_wp2_with (go_at_call 188;refine (operands_at HPL.out (by omega) (by omega) (by omega) (by omega) (by omega) HR.out HK1.out).mono ?_;rintro _ w1 ⟨v1,rfl,ho1,hb1⟩;obtain ⟨pg,pcap,rfl,hg1,hg2,hg3,hg4⟩ := own_shapeP ho1 hppos)
 have hs1 := hb1.size
 have HBK1 : Hid (w1.heap[bt]? = some (treeB p)) := blk_below HBK.out hb1 hbt
 have HOW : Hid (w1.ownsRow w.heap.size 109 1 (.slice (some ⟨pg,0,none⟩) pl.length pcap) pl.length (pl.map (cutV bl off cap))) := ho1
 have HRW : Hid (RW w1 bl off L) := HR.out.below hb1 (by omega)
 clear ho1
 go_loopg [8] pl.length (fun gh s8 (wx : World) => ∃ (i : Nat) (kv : Value) (ps : List Value) (gl gr : List G),i <= pl.length /\ gh = pl.length - i /\ OPs L (pl.drop i) gr /\ gl ++ gr = (g :: gs) /\ ps.length = i /\ s8 = .int .i64 i /\
  wx.heap[bt]? = some (.cells #[.string f_0,.int .i64 p,.int .i64 0,.string f_0,.slice none 0 0,kv] 205 (0,0)) /\ KidsAt wx w1.heap.size kv ps gl /\ Only bt w1.heap.size w1 wx)
 case atStart => exact ⟨0,_,[],[],_,Nat.zero_le _,rfl,HS.out,rfl,rfl,rfl,HBK1.out,KidsAt.none _ _,Only.refl _ _ _⟩
 case round =>
  obtain ⟨i,kv,ps,gl,gr,hi,rfl,hops,hgs,hpl,rfl,hblk,hkids,honly⟩ := hrel
  have HO : Hid (OPs L (pl.drop i) gr) := hops
  have HGS : Hid (gl ++ gr = (g :: gs)) := hgs
  have HPS : Hid (ps.length = i) := hpl
  have HBL : Hid (wr.heap[bt]? = some (.cells #[.string f_0,.int .i64 p,.int .i64 0,.string f_0,.slice none 0 0,kv] 205 (0,0))) := hblk
  have HKD : Hid (KidsAt wr w1.heap.size kv ps gl) := hkids
  have HON : Hid (Only bt w1.heap.size w1 wr) := honly
  have hsr := honly.below.size
  have HRx0 : RW wr bl off L := HRW.out.below honly.below hblt
  clear hops hgs hpl hblk hkids honly
  by_cases hlt : i < pl.length
  ·obtain ⟨q,hq⟩ : ∃ q,pl[i] = q := ⟨_,rfl⟩
   have hqm : q ∈ pl := by rw [<- hq];exact List.getElem_mem _
   obtain ⟨hq1,hq2⟩ := HBND.out q hqm
   have hdrop : pl.drop i = q :: pl.drop (i + 1) := by rw [List.drop_eq_getElem_cons hlt,hq]
   obtain ⟨g1,gr',hgr,hok1,hok2⟩ : ∃ g1 gr',gr = g1 :: gr' /\ SubOK 189 (tokAt (cutL L q.1 q.2) 0).p (cutL L q.1 q.2) g1 /\ OPs L (pl.drop (i + 1)) gr' := by
    have h := HO.out
    rw [hdrop] at h
    cases gr with
    | nil => exact h.elim
    | cons a b => exact ⟨a,b,rfl,h.1,h.2⟩
   subst hgr
   have hcell : wr.cell? ⟨pg,i,none⟩ = some (cutV bl off cap q) := by
    rw [World.cell?_of_block (w := w1) (a := ⟨pg,i,none⟩) (HON.out.rest pg hg2 (by omega)),HOW.out.cellAt i (by omega)]
    simp [List.getElem?_map,List.getElem?_eq_getElem hlt,hq]
   obtain ⟨q1,q2⟩ := q
   simp only at hq1 hq2
   have hcl : (cutL L q1 q2).length = q2 - q1 := cutL_len _ (by omega) hq2
   have HRx := HRx0
   have HRc : Hid (RW wr bl (off + q1 * 3) (cutL L q1 q2)) := HRx.cut q1 q2
   have hpos := posAt_cell HRc.out (i := 0) (by omega)
   obtain ⟨pq,hpq⟩ : ∃ pq : Int,((tokAt (cutL L q1 q2) 0).p : Int) = pq := ⟨_,rfl⟩
   rw [hpq] at hpos
   have HT1 : Hid (SubOK 189 pq (cutL L q1 q2) g1) := by rw [<- hpq];exact hok1
   have HO2 : Hid (OPs L (pl.drop (i + 1)) gr') := hok2
   have hcv : Hid (cutV bl off cap (q1,q2) = .slice (some ⟨bl,off + q1 * 3,none⟩) (q2 - q1) (cap - q1)) := rfl
   rw [hcv.out] at hcell
   simp only [Nat.zero_mul,Nat.add_zero,Nat.one_mul] at hpos hcell
   have HCL : Hid ((cutL L q1 q2).length = q2 - q1) := hcl
   have hpgl : pg < wr.heap.size := by omega
   have hcell2 : ∀ o,(wr.alloc o).cell? ⟨pg,i,none⟩ = wr.cell? ⟨pg,i,none⟩ := fun o => World.cell?_of_block (w := wr) (a := ⟨pg,i,none⟩) (Below.heap_alloc _ _ _ hpgl)
   simp only [hcell] at hcell2
   clear hok1 hok2 hpq hcl hq hqm hdrop HO HRx HRx0 hcv
   go_upto_region 12 with fail
   go_cut [9] (fun s9 wy => ∃ p2,s9 = .pointer (some ⟨p2,0,none⟩) /\ HT wy wr.heap.size wy.heap.size s9 g1 /\ Below wr.heap.size wr wy)
   case first =>
    go_region_with (go_at_call 189;refine (HT1.out _ bl _ _ wr.heap.size _ (by rw [HCL.out]) (by rw [HCL.out];omega) (by rw [HCL.out];omega) (by omega) (by simp) (by exact blk_new wr _) (by exact HRc.out.alloc (by omega) _) (ok_cut HK1.out q1 q2)).mono ?_;rintro _ w2 ⟨v2,rfl,ht2,hb2⟩;obtain ⟨p2,rfl,hp2,hp2'⟩ := ht2.ptr)
    all_goals (try go_wp2_with fail)
    all_goals go_meet
    all_goals exact ⟨_,rfl,ht2,((Below.refl wr.heap.size wr).alloc (Nat.le_refl _) _).trans ⟨hb2.os,hb2.tape,hb2.output,hb2.size,hb2.block⟩⟩
   case rest =>
    obtain ⟨p2,rfl,ht2,hb2⟩ := hcut
    have hs2 := hb2.size
    have hblk2 := blk_below HBL.out hb2 (by omega)
    have hc5 := blk_at hblk2 5 rfl
    have hk2 := HKD.out.below hb2
    go_wp2_with (at_builtin;refine wpList_append_own2 _ rfl (.tmp 67) (.tmp 69) 203 rfl w1.heap.size 55 i0 _ 1 8 Tryz.underlying203 hi0 hz0 hz1 hz2 rfl (by decide) kv _ _ rfl (hk2.own.alloc _) _ 1 1 [.pointer (some ⟨p2,0,none⟩)] rfl rfl (cells_new _ _ _ _ rfl) ?_ ?_ ?_ ?_ ?_;(intro u hu;simp at hu;subst hu;rfl);(rw [HPS.out];unfold maxLen;omega);(rw [HPS.out];omega);(simp;omega);intro v' w3 hown3 hg3 hrow3;obtain ⟨kg,kc,rfl,hkg1,hkg2,hkg3,hkg4⟩ := own_shapeP hown3 (by omega);have hblk3 := app_blk hk2.own (show bt < w1.heap.size by omega) hblk2 hg3;have hc35 := blk_at hblk3 5 rfl;have hf35 := blk_at_f hblk3 5)
    go_roundg (pl.length - (i + 1))
    case measure => omega
    case rel =>
     obtain ⟨hk3,ho3,hs3⟩ := kids_step hk2 (show bt < w1.heap.size by omega) hsr (fun r h => (HKD.out.own.lt r h).2) ht2 hown3 hg3 hrow3 (.slice (some ⟨kg,0,none⟩) (ps.length + 1) kc)
     exact ⟨i + 1,_,ps ++ [.pointer (some ⟨p2,0,none⟩)],gl ++ [g1],gr',by omega,rfl,HO2.out,by rw [<- HGS.out];simp,by simp [HPS.out],by go_num,block_setCell hblk3 5 _,hk3,(HON.out.trans (Only.of (hb2.mono hsr) (by omega))).trans ho3⟩
  ·have hgr : gr = [] := by
    have h := HO.out
    rw [show pl.drop i = [] from List.drop_eq_nil_of_le (by omega)] at h
    cases gr with
    | nil => rfl
    | cons a b => exact h.elim
   subst hgr
   have hgl : gl = (g :: gs) := by have := HGS.out;simpa using this
   subst hgl
   clear HO HGS
   obtain ⟨g0,kcap,fb,rfl,hg0,hfb,hkc,hkl,hcg0,hcfb⟩ := first_pos HKD.out
   have hc0 := blk_at HBL.out 0 rfl
   have hc1 := blk_at HBL.out 1 rfl
   have hc5 := blk_at HBL.out 5 rfl
   have hf0 := blk_at_f HBL.out 0
   have hf1 := blk_at_f HBL.out 1
   go_wp2_with fail
   go_ret
   have hso : Sole bt wr (((wr.setCell ⟨bt,0,none⟩ (.string f_0)).setCell ⟨bt,0,none⟩ (.string f_call)).setCell ⟨bt,1,none⟩ (.int .i64 g.pos)) := (((Sole.refl bt wr).set _).set _).set _
   exact ⟨_,rfl,kids_done (HKD.out.sole hso (show bt < w1.heap.size by omega)) (show bt < w1.heap.size by omega) (Nat.le_refl _) (block_setCell (block_setCell (block_setCell HBL.out 0 _) 0 _) 1 _),((hb1.mono (by omega)).trans HON.out.below).trans hso.1⟩
end Go.Proofs.YtmkdoejpgkgpbaaGreatDoor
