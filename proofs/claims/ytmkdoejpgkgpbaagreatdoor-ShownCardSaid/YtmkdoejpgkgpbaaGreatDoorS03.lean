import Derived.Test.YtmkdoejpgkgpbaaGreatDoorS02
set_option linter.unusedVariables false
set_option linter.unusedSimpArgs false
set_option maxHeartbeats 20000000
namespace Go.Proofs.YtmkdoejpgkgpbaaGreatDoor
open Go.RowKit Sl
def Tok.rcells (x : Tok) : List Value := [.string (kName x.k x.t),.string x.t,.int .i64 x.p]
theorem rtoks_len (l : List Tok) : (l.flatMap Tok.rcells).length = l.length * 3 := by
 induction l with
 | nil => rfl
 | cons x r ih => simp only [List.flatMap_cons,List.length_append,ih,List.length_cons,Tok.rcells,List.length_nil];omega
theorem Tryz.info200 : (Tryz.prog.info? 200).map (fun i => (i.zero,i.size,i.bytes)) = some (some (.agg #[.string ⟨#[]⟩,.string ⟨#[]⟩,.int .i64 0]),3,40) := by kernel_rfl
theorem rtok_one (x : Tok) : ∀ u ∈ Tok.rcells x,u.oneCell' = true := by
 intro u hu
 simp only [Tok.rcells,List.mem_cons,List.not_mem_nil,or_false] at hu
 rcases hu with rfl | rfl | rfl <;> rfl
def WordsOwn (s : ByteArray) (B : Nat) (w : World) (v : Value) : LR -> Prop
 | .good l => w.ownsRow B 200 3 v (l ++ [endTok s]).length ((l ++ [endTok s]).flatMap Tok.rcells)
 | .bad _ _ => v = .slice none 0 0
theorem blk_tests {c : UInt8} (h : blkB c = true) : (((c.toNat : Int) == 32) || ((c.toNat : Int) == 10) || ((c.toNat : Int) == 9) || ((c.toNat : Int) == 13)) = true := by
 simp only [blkB,Bool.or_eq_true,beq_iff_eq] at h ⊢;omega
theorem sgT_some {s : ByteArray} {p k : Nat} (h : signK s p = some k) : sgT s p = txt k := by unfold sgT;rw [h]
theorem nonempty_list {t : ByteArray} (h : 0 < t.size) : t.toList.isEmpty = false := by
 rw [ByteArray.toList_eq]
 cases hh : t.data.toList with
 | nil => have := len_data t;rw [hh] at this;simp at this;omega
 | cons => rfl
set_option maxRecDepth 100000 in
theorem words_short (s : ByteArray) (hs : s.size <= 400) (w : World) :
 Calls Tryz.prog 67 #[.string s] w fun e w' => ∃ v,e = .returned (.tuple #[v,.int .i64 (LR.e (lex s (skp s 0))),.int .i64 (LR.p (lex s (skp s 0)))]) /\ WordsOwn s w.heap.size w' v (lex s (skp s 0)) /\ Below w.heap.size w w' := by
 have hb : Below w.heap.size w w := Below.refl _ _
 have hm : s.size <= maxLen := by unfold maxLen;omega
 obtain ⟨i0,hi,hz0,hz1,hz2⟩ := info_parts Tryz.info200
 obtain ⟨R,hR⟩ : ∃ R,R = lex s (skp s 0) := ⟨_,rfl⟩
 rw [<- hR]
 have HR : Hid (R = lex s (skp s 0)) := hR
 clear hR
 go_enter Tryz.func67,Tryz.ntmps67
 go_wp2_with fail
 go_loopw [5,6] (fun v u wr => ∃ (acc : List Tok) (k : Nat),acc.length <= k /\ k <= s.size /\ (lex s (skp s k)).pre acc = R /\ u = .int .i64 k /\ wr.ownsRow w.heap.size 200 3 v acc.length (acc.flatMap Tok.rcells) /\ Below w.heap.size w wr) (fun _ u _ => s.size - (intOf u).toNat)
 case atStart => exact ⟨[],0,Nat.zero_le _,Nat.zero_le _,by rw [LR.pre_nil];exact HR.out.symm,rfl,World.ownsRow_nil _ _ _ _,hb⟩
 case round =>
  obtain ⟨acc,k,hak,hk,hlx,rfl,hown,hbw⟩ := hrel
  have HX : Hid ((lex s (skp s k)).pre acc = R) := hlx
  clear hlx
  have hsz := hbw.size
  by_cases hlt : k < s.size
  ·by_cases ho : stB s k opn = true
   ·have hs2 := stB_size ho
    have e2 : opn.size = 2 := rfl
    rw [e2] at hs2;clear e2
    cases hr : rem s (k + 2) with
    | none =>
      have HE : Hid (R = .bad 2 k) := by
       show _ = _
       have h1 := skp_open_none hlt ho hr
       rw [<- HX.out,h1.1,lex_err hlt h1.2];rfl
      go_wp2_with (first | (go_at_call 107;refine (starts_any _ _ _ _ hm (by unfold maxLen;show k + 2 <= _;omega)).mono ?_;rintro e w' ⟨rfl,hw'⟩;subst hw') | (go_at_call 108;refine (remark_any s (by omega) s.size (k + 2) _ (by omega) (by omega)).mono ?_;rw [hr];rintro e w' ⟨rfl,hw'⟩;subst hw';simp only [optI]))
      go_ret3
      exact ⟨.slice none 0 0,by rw [HE.out];rfl,by rw [HE.out];rfl,hbw⟩
    | some j =>
      have hj := rem_gt hr
      have HN : Hid ((lex s (skp s j)).pre acc = R) := by
       show _ = _
       rw [<- HX.out,skp_open_some hlt ho hr]
      go_wp2_with (first | (go_at_call 107;refine (starts_any _ _ _ _ hm (by unfold maxLen;show k + 2 <= _;omega)).mono ?_;rintro e w' ⟨rfl,hw'⟩;subst hw') | (go_at_call 108;refine (remark_any s (by omega) s.size (k + 2) _ (by omega) (by omega)).mono ?_;rw [hr];rintro e w' ⟨rfl,hw'⟩;subst hw';simp only [optI]))
      go_roundw
      case rel => exact ⟨acc,j,by omega,by omega,HN.out,rfl,hown,hbw⟩
      case measure => simp [intOf];omega
   ·have ho' : stB s k opn = false := by simpa using ho
    clear ho
    by_cases hbl : blkB s[k] = true
    ·have HN : Hid ((lex s (skp s (k + 1))).pre acc = R) := by
      show _ = _
      rw [<- HX.out,skp_blk s k hlt hbl]
     have hbt : s[k].toNat = 32 \/ s[k].toNat = 10 \/ s[k].toNat = 9 \/ s[k].toNat = 13 := by
      simp only [blkB,Bool.or_eq_true,beq_iff_eq] at hbl;omega
     clear hbl
     rcases hbt with hc | hc | hc | hc
     all_goals
      go_wp2_with (first | (go_at_call 107;refine (starts_any _ _ _ _ hm (by unfold maxLen;show k + 2 <= _;omega)).mono ?_;rintro e w' ⟨rfl,hw'⟩;subst hw'))
      go_roundw
      case rel => exact ⟨acc,k + 1,by omega,by omega,HN.out,by go_num,hown,hbw⟩
      case measure => simp [intOf];omega
    ·have hbl' : blkB s[k] = false := by simpa using hbl
     clear hbl
     have hsk := skp_word hlt ho' hbl'
     rw [hsk] at HX
     have hbt : ((s[k].toNat : Int) == 32) = false /\ ((s[k].toNat : Int) == 10) = false /\ ((s[k].toNat : Int) == 9) = false /\ ((s[k].toNat : Int) == 13) = false := by
      simp only [blkB,Bool.or_eq_false_iff,beq_eq_false_iff_ne] at hbl' ⊢;omega
     obtain ⟨hn1,hn2,hn3,hn4⟩ := hbt
     clear hbl' hsk
     obtain ⟨z,hz⟩ : ∃ z,z = runE s k := ⟨_,rfl⟩
     have hrz := runE_le s s.size k (by omega) (by omega)
     rw [<- hz] at hrz
     have HZ : Hid (z = runE s k) := hz
     clear hz
     go_wp2_with (first | (go_at_call 107;refine (starts_any _ _ _ _ hm (by unfold maxLen;show k + 2 <= _;omega)).mono ?_;rintro e w' ⟨rfl,hw'⟩;subst hw'))
     go_loop [10] (fun u => ∃ j : Nat,k <= j /\ j <= s.size /\ runE s j = z /\ u = .int .i64 j) (fun u => s.size - (intOf u).toNat)
     case atStart => exact ⟨k,Nat.le_refl _,by omega,HZ.out.symm,rfl⟩
     case round =>
      obtain ⟨j,hkj,hj,hf,rfl⟩ := hrel
      have HF : Hid (runE s j = z) := hf
      clear hf
      by_cases hg : ∃ h : j < s.size,letB s[j] = true
      ·obtain ⟨hlj,hlet⟩ := hg
       go_wp2_with (go_at_call 109;refine (wordy_any _ _).mono ?_;rintro e w' ⟨rfl,hw'⟩;subst hw')
       go_round
       case rel => exact ⟨j + 1,by omega,by omega,by rw [<- HF.out,runE_on s j hlj hlet],by go_num⟩
       case measure => simp [intOf];omega
      ·have hjz : j = z := by
        by_cases hlj : j < s.size
        ·by_cases hlet : letB s[j] = true
         ·exact absurd ⟨hlj,hlet⟩ hg
         ·rw [<- HF.out,runE_off s j hlj (by simpa using hlet)]
        ·rw [<- HF.out,runE_end s j hlj]
       clear HF
       subst hjz
       have hg' : ∀ h : j < s.size,letB s[j] = false := by
        intro h
        cases hh : letB s[j] with
        | false => rfl
        | true => exact absurd ⟨h,hh⟩ hg
       clear hg
       by_cases hl : letB s[k] = true
       ·have htz : (s.extract k j).size = j - k := by simp;omega
        have hkj2 : k < j := by
         rw [HZ.out,runE_on s k hlt hl]
         have := runE_le s s.size (k + 1) (by omega) (by omega)
         omega
        have ht0 : 0 < (s.extract k j).size := by omega
        have hne := nonempty_list ht0
        have hzero := extract_zero s k j hkj2 hrz.2 ht0
        by_cases hd : digB s[k] = true
        ·have HK : Hid (kindS (s.extract k j) = ⟨#[110,117,109]⟩) := by
          show _ = _
          unfold kindS
          rw [kw_none_of_digit _ ht0 (by rw [hzero];exact hd),if_neg (by simp),dif_pos ht0,if_pos (by rw [hzero];exact hd)];rfl
         clear hzero
         cases hv : numV (s.extract k j) with
         | none =>
           have HV : Hid (numV (s.extract k j) = none) := hv
           have HE : Hid (R = .bad 3 k) := by
            show _ = _
            have h1 : wordR s k = .err 3 := by rw [wordR,dif_pos hlt,if_neg (by simp [ho']),if_pos hl,if_pos hd,<- HZ.out,hv]
            rw [<- HX.out,lex_err hlt h1];rfl
           clear hv
           by_cases hlj : j < s.size
           all_goals
            first | have hgj := hg' hlj | skip
            clear hg'
            go_wp2_with (first | (go_at_call 109;refine (wordy_any _ _).mono ?_;rintro e w' ⟨rfl,hw'⟩;subst hw') | (go_at_call 111;refine (kind_any _ ht0 (by omega) _).mono ?_;rw [HK.out];rintro e w1 ⟨rfl,hb2⟩;have hs1 := hb2.size) | (go_at_call 112;refine (value_any _ (by omega) _).mono ?_;rw [HV.out];rintro e w' ⟨x,rfl,_,hw'⟩;subst hw'))
            go_ret3
            exact ⟨.slice none 0 0,by rw [HE.out];rfl,by rw [HE.out];rfl,hbw.trans (hb2.mono hsz)⟩
         | some v =>
           have HV : Hid (numV (s.extract k j) = some v) := hv
           have hw1 : wordR s k = .ok 1 v (s.extract k j) j := by rw [wordR,dif_pos hlt,if_neg (by simp [ho']),if_pos hl,if_pos hd,<- HZ.out,hv]
           have HN : Hid ((lex s (skp s j)).pre (acc ++ [⟨1,v,k,s.extract k j⟩]) = R) := by
            show _ = _
            rw [<- HX.out,lex_ok hlt hw1,LR.pre_pre]
           clear hv hw1
           by_cases hlj : j < s.size
           all_goals
            first | have hgj := hg' hlj | skip
            clear hg'
            go_wp2_with (first | (go_at_call 109;refine (wordy_any _ _).mono ?_;rintro e w' ⟨rfl,hw'⟩;subst hw') | (go_at_call 111;refine (kind_any _ ht0 (by omega) _).mono ?_;rw [HK.out];rintro e w1 ⟨rfl,hb2⟩;have hs1 := hb2.size) | (go_at_call 112;refine (value_any _ (by omega) _).mono ?_;rw [HV.out];rintro e w' ⟨x,rfl,_,hw'⟩;subst hw') | (at_builtin;refine wpList_append_own _ rfl (.tmp 90) (.tmp 95) 109 rfl w.heap.size 200 i0 _ 3 40 Tryz.underlying109 hi hz0 hz1 hz2 rfl (by decide) _ _ _ rfl ((own_below hown hb2).alloc _) _ 1 1 (Tok.rcells ⟨1,v,k,s.extract k j⟩) rfl rfl (cells_new _ _ _ _ rfl) ?_ ?_ ?_ ?_ ?_;exact rtok_one _;(unfold maxLen;omega);omega;(simp;omega);intro v' w3 hown3 hg3 _;have hbw3 := below_app (hbw.trans (hb2.mono hsz)) (Nat.le_trans hsz hs1) _ hg3 (own_ge hown)))
            go_roundw
            case rel => exact ⟨acc ++ [⟨1,v,k,s.extract k j⟩],j,by simp;omega,by omega,HN.out,by go_num,by simpa using hown3,hbw3⟩
            case measure => simp [intOf];omega
        ·have hd' : digB s[k] = false := by simpa using hd
         clear hd
         have hw1 := word_letters hlt ho' hl hd'
         rw [<- HZ.out] at hw1
         have hwk := word_kind hw1
         obtain ⟨kk,hkk⟩ : ∃ kk,kk = nmK (s.extract k j) := ⟨_,rfl⟩
         rw [<- hkk] at hw1 hwk
         have hk1 : kk ≠ 1 := by
          rw [hkk];unfold nmK
          cases hq : kwK (s.extract k j) with
          | none => simp
          | some q => have := firstK_range _ _ _ _ hq;simp;omega
         have HK : Hid (kindS (s.extract k j) = kName kk (s.extract k j)) := hwk.2.2.1
         have hnum : ((kName kk (s.extract k j)).toList == [110,117,109]) = false := by
          rw [<- HK.out]
          have e := hwk.2.2.2.1
          rw [show numN.toList = [110,117,109] by rw [ByteArray.toList_eq];rfl] at e
          rw [e];simpa using hk1
         have HN : Hid ((lex s (skp s j)).pre (acc ++ [⟨kk,0,k,s.extract k j⟩]) = R) := by
          show _ = _
          rw [<- HX.out,lex_ok hlt hw1,LR.pre_pre]
         clear hw1 hwk hkk hzero
         by_cases hlj : j < s.size
         all_goals
          first | have hgj := hg' hlj | skip
          clear hg'
          go_wp2_with (first | (go_at_call 109;refine (wordy_any _ _).mono ?_;rintro e w' ⟨rfl,hw'⟩;subst hw') | (go_at_call 111;refine (kind_any _ ht0 (by omega) _).mono ?_;rw [HK.out];rintro e w1 ⟨rfl,hb2⟩;have hs1 := hb2.size) | (at_builtin;refine wpList_append_own _ rfl (.tmp 90) (.tmp 95) 109 rfl w.heap.size 200 i0 _ 3 40 Tryz.underlying109 hi hz0 hz1 hz2 rfl (by decide) _ _ _ rfl ((own_below hown hb2).alloc _) _ 1 1 (Tok.rcells ⟨kk,0,k,s.extract k j⟩) rfl rfl (cells_new _ _ _ _ rfl) ?_ ?_ ?_ ?_ ?_;exact rtok_one _;(unfold maxLen;omega);omega;(simp;omega);intro v' w3 hown3 hg3 _;have hbw3 := below_app (hbw.trans (hb2.mono hsz)) (Nat.le_trans hsz hs1) _ hg3 (own_ge hown)))
          go_roundw
          case rel => exact ⟨acc ++ [⟨kk,0,k,s.extract k j⟩],j,by simp;omega,by omega,HN.out,by go_num,by simpa using hown3,hbw3⟩
          case measure => simp [intOf];omega
       ·have hl' : letB s[k] = false := by simpa using hl
        clear hl
        have hjk : j = k := by rw [HZ.out,runE_off s k hlt hl']
        subst hjk
        have hemp : (s.extract j j).toList.isEmpty = true := by rw [ByteArray.toList_eq];simp
        have hgj := hg' hlt
        clear hg'
        cases hsg : signK s j with
        | none =>
          have HS : Hid (sgT s j = ⟨#[]⟩) := by show _ = _;unfold sgT;rw [hsg]
          have HE : Hid (R = .bad 2 j) := by
           show _ = _
           have h1 : wordR s j = .err 2 := by rw [wordR,dif_pos hlt,if_neg (by simp [ho']),if_neg (by simp [hl']),hsg]
           rw [<- HX.out,lex_err hlt h1];rfl
          clear hsg
          go_wp2_with (first | (go_at_call 109;refine (wordy_any _ _).mono ?_;rintro e w' ⟨rfl,hw'⟩;subst hw') | (go_at_call 110;refine (sign_any s (by omega) _ (by omega) _).mono ?_;rw [HS.out];rintro e w1 ⟨rfl,hb2⟩))
          go_ret3
          exact ⟨.slice none 0 0,by rw [HE.out];rfl,by rw [HE.out];rfl,hbw.trans (hb2.mono hsz)⟩
        | some q =>
          have hq := firstK_range _ _ _ _ hsg
          have hst := stB_size hq.2.2
          have hts := txt_size q
          have HS : Hid (sgT s j = txt q) := sgT_some hsg
          have hw1 : wordR s j = .ok q 0 (txt q) (j + (txt q).size) := by rw [wordR,dif_pos hlt,if_neg (by simp [ho']),if_neg (by simp [hl']),hsg]
          have hwk := word_kind hw1
          have ht0 := hwk.1
          have hne := nonempty_list ht0
          have HK : Hid (kindS (txt q) = kName q (txt q)) := hwk.2.2.1
          have hnum : ((kName q (txt q)).toList == [110,117,109]) = false := by
           rw [<- HK.out]
           have e := hwk.2.2.2.1
           rw [show numN.toList = [110,117,109] by rw [ByteArray.toList_eq];rfl] at e
           rw [e];simp;omega
          have HN : Hid ((lex s (skp s (j + (txt q).size))).pre (acc ++ [⟨q,0,j,txt q⟩]) = R) := by
           show _ = _
           rw [<- HX.out,lex_ok hlt hw1,LR.pre_pre]
          clear hsg hq hw1 hwk
          go_wp2_with (first | (go_at_call 109;refine (wordy_any _ _).mono ?_;rintro e w' ⟨rfl,hw'⟩;subst hw') | (go_at_call 110;refine (sign_any s (by omega) _ (by omega) _).mono ?_;rw [HS.out];rintro e w0 ⟨rfl,hb0⟩;have hs0 := hb0.size) | (go_at_call 111;refine (kind_any _ ht0 (by omega) _).mono ?_;rw [HK.out];rintro e w1 ⟨rfl,hb2⟩;have hs1 := hb2.size) | (at_builtin;refine wpList_append_own _ rfl (.tmp 90) (.tmp 95) 109 rfl w.heap.size 200 i0 _ 3 40 Tryz.underlying109 hi hz0 hz1 hz2 rfl (by decide) _ _ _ rfl ((own_below (own_below hown hb0) hb2).alloc _) _ 1 1 (Tok.rcells ⟨q,0,j,txt q⟩) rfl rfl (cells_new _ _ _ _ rfl) ?_ ?_ ?_ ?_ ?_;exact rtok_one _;(unfold maxLen;omega);omega;(simp;omega);intro v' w3 hown3 hg3 _;have hbw3 := below_app ((hbw.trans (hb0.mono hsz)).trans (hb2.mono (Nat.le_trans hsz hs0))) (Nat.le_trans hsz (Nat.le_trans hs0 hs1)) _ hg3 (own_ge hown)))
          go_roundw
          case rel => exact ⟨acc ++ [⟨q,0,j,txt q⟩],j + (txt q).size,by simp;omega,by omega,HN.out,by go_num,by simpa using hown3,hbw3⟩
          case measure => simp [intOf];omega
  ·have HE : Hid (R = .good acc) := by
    show _ = _
    rw [<- HX.out,skp_end s k hlt,lex_end s k hlt];simp [LR.pre]
   go_wp2_with (at_builtin;refine wpList_append_own _ rfl (.tmp 101) (.tmp 105) 109 rfl w.heap.size 200 i0 _ 3 40 Tryz.underlying109 hi hz0 hz1 hz2 rfl (by decide) _ _ _ rfl (hown.alloc _) _ 1 1 (Tok.rcells (endTok s)) rfl rfl (cells_new _ _ _ _ rfl) ?_ ?_ ?_ ?_ ?_;exact rtok_one _;(unfold maxLen;omega);omega;(simp;omega);intro v' w3 hown3 hg3 _;have hbw3 := below_app hbw hsz _ hg3 (own_ge hown))
   go_ret3
   refine ⟨v',?_,?_,hbw3⟩
   ·rw [HE.out];rfl
   ·rw [HE.out];simpa [WordsOwn] using hown3
theorem words_long (s : ByteArray) (hs : 400 < s.size) (hm : s.size <= maxLen) (w : World) :
 Calls Tryz.prog 67 #[.string s] w fun e w' => e = .returned (.tuple #[.slice none 0 0,.int .i64 1,.int .i64 0]) /\ w' = w := by
 unfold maxLen at hm
 go_enter Tryz.func67,Tryz.ntmps67
 go_wp2_with fail
 go_ret3
 exact ⟨rfl,rfl⟩
end Go.Proofs.YtmkdoejpgkgpbaaGreatDoor
