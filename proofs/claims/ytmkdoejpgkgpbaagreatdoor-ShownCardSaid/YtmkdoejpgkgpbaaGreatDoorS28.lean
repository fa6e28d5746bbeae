import Derived.Test.YtmkdoejpgkgpbaaGreatDoorS27
import Derived.Handy
set_option linter.unusedVariables false
set_option linter.unusedSimpArgs false
set_option maxHeartbeats 20000000
namespace Go.Proofs.YtmkdoejpgkgpbaaGreatDoor
open Go.RowKit Sl
theorem dig_ok {m : Nat} (h : m < 10) : digB (UInt8.ofNat (48 + m)) = true /\ (UInt8.ofNat (48 + m)).toNat - 48 = m := by
 have : (UInt8.ofNat (48 + m)).toNat = (48 + m) % 256 := rfl
 unfold digB
 rw [this]
 constructor
 ·simp;omega
 ·omega
theorem decF_decL : ∀ (N n : Nat) (r : List UInt8),n <= N -> n <= 4611686018427387903 -> decF 0 (decL n ++ r) = decF n r := by
 intro N
 induction N with
 | zero =>
   intro n r h hm
   have : n = 0 := by omega
   subst this
   rw [decL_end 0 (by omega),List.singleton_append,decF,if_pos (dig_ok (m := 0) (by omega)).1,(dig_ok (m := 0) (by omega)).2,if_pos (by omega)]
 | succ N ih =>
   intro n r h hm
   by_cases h10 : n < 10
   ·rw [decL_end n h10,List.singleton_append,decF,if_pos (dig_ok h10).1,(dig_ok h10).2,if_pos (by omega)]
    congr 1;omega
   ·rw [decL_step n (by omega),List.append_assoc,List.singleton_append,ih (n / 10) _ (by omega) (by omega),decF,if_pos (dig_ok (m := n % 10) (by omega)).1,(dig_ok (m := n % 10) (by omega)).2,if_pos (by omega)]
    congr 1;omega
theorem numV_dec {n : Nat} (h : n <= 4611686018427387903) : numV (dec n) = some n := by
 have := decF_decL n n [] (Nat.le_refl _) h
 rw [List.append_nil] at this
 show decF 0 (decL n) = some n
 rw [this];rfl
theorem decL_len : ∀ (k n : Nat),n < 10 ^ (k + 1) -> (decL n).length <= k + 1 := by
 intro k
 induction k with
 | zero => intro n h;rw [decL_end n (by simpa using h)];simp
 | succ k ih =>
   intro n h
   by_cases h10 : n < 10
   ·rw [decL_end n h10];simp
   ·rw [decL_step n (by omega),List.length_append]
    have := ih (n / 10) (by rw [Nat.div_lt_iff_lt_mul (by omega)];rw [Nat.pow_succ] at h;exact h)
    simp;omega
theorem decL_head : ∀ (N n : Nat),n <= N -> ∃ d r,decL n = d :: r /\ digB d = true := by
 intro N
 induction N with
 | zero =>
   intro n h
   have : n = 0 := by omega
   subst this
   exact ⟨_,[],decL_end 0 (by omega),(dig_ok (m := 0) (by omega)).1⟩
 | succ N ih =>
   intro n h
   by_cases h10 : n < 10
   ·exact ⟨_,[],decL_end n h10,(dig_ok h10).1⟩
   ·obtain ⟨d,r,h1,h2⟩ := ih (n / 10) (by omega)
    exact ⟨d,r ++ [UInt8.ofNat (48 + n % 10)],by rw [decL_step n (by omega),h1];rfl,h2⟩
theorem dec_size {n : Nat} (h : n <= 4611686018427387903) : 0 < (dec n).size /\ (dec n).size <= 1000 := by
 have h1 : (dec n).size = (decL n).length := by show (decL n).toArray.size = _;simp
 obtain ⟨d,r,h2,_⟩ := decL_head n n (Nat.le_refl _)
 have h3 := decL_len 18 n (by have : (10 : Nat) ^ (18 + 1) = 10000000000000000000 := rfl;omega)
 rw [h1]
 refine ⟨by rw [h2];simp,by omega⟩
theorem dec_kind {n : Nat} (h : n <= 4611686018427387903) : kindS (dec n) = numN := by
 obtain ⟨h1,_⟩ := dec_size h
 obtain ⟨d,r,h2,h3⟩ := decL_head n n (Nat.le_refl _)
 have h0 : (dec n)[0] = d := by
  show (decL n).toArray[0]'(by rw [h2];simp) = d
  simp [h2]
 have hd : digB (dec n)[0] = true := by rw [h0];exact h3
 have hk := kw_none_of_digit (dec n) h1 hd
 unfold kindS
 rw [hk]
 simp only [Option.isSome_none,Bool.false_eq_true,if_false,dif_pos h1,hd,if_true]
theorem firstK_some (p : Nat -> Bool) (k : Nat) (hp : p k = true) : ∀ (n a : Nat),a <= k -> k < a + n -> (firstK p a n).isSome = true := by
 intro n
 induction n with
 | zero => intro a h1 h2;omega
 | succ n ih =>
   intro a h1 h2
   simp only [firstK]
   by_cases ha : p a = true
   ·rw [if_pos ha];rfl
   ·rw [if_neg ha]
    have : a ≠ k := fun e => ha (by rw [e];exact hp)
    exact ih (a + 1) (by omega) (by omega)
theorem txt_facts : ∀ k : Fin 35,3 <= k.val -> 0 < (txt k.val).size /\ (18 <= k.val -> digB ((txt k.val).data.toList.headD 48) = false /\ smlB ((txt k.val).data.toList.headD 48) = false) := by decide
theorem head_get {t : ByteArray} (h : 0 < t.size) : t[0] = t.data.toList.headD 48 := by
 have hl : 0 < t.data.toList.length := by rw [len_data];exact h
 have e : t[0] = t.data.toList[0] := rfl
 rw [e]
 have : ∀ (l : List UInt8) (h : 0 < l.length),l[0] = l.headD 48 := by
  intro l h
  cases l with
  | nil => simp at h
  | cons a r => rfl
 exact this _ hl
theorem sign_kind {k : Nat} (h3 : 3 <= k) (h35 : k < 35) : kindS (txt k) = txt k /\ 0 < (txt k).size /\ (txt k).size <= 1000 := by
 obtain ⟨h1,h2⟩ := txt_facts ⟨k,h35⟩ h3
 have h1' : 0 < (txt k).size := h1
 refine ⟨?_,h1',by have := txt_size k;omega⟩
 unfold kindS
 by_cases h18 : 18 <= k
 ·obtain ⟨d1,d2⟩ := h2 h18
  split
  ·rfl
  ·first | rw [dif_pos h1',head_get h1'] | rw [head_get h1']
   have d1' : digB ((txt k).data.toList.headD 48) = false := d1
   have d2' : smlB ((txt k).data.toList.headD 48) = false := d2
   rw [d1',d2'];rfl
 ·have : (kwK (txt k)).isSome = true := firstK_some _ k (by simp) 15 3 h3 (by omega)
  rw [if_pos this]
theorem gw_of {k : Nat} (h3 : 3 <= k) (h35 : k < 35) : gw (Tk.of k) /\ cn (Tk.of k) := by
 obtain ⟨h1,h2,h4⟩ := sign_kind h3 h35
 have hw : wt (Tk.of k) = txt k := wt_of h3
 have hkn : kName k (txt k) = txt k := by unfold kName;rw [if_neg (by omega),if_neg (by omega),if_neg (by omega)]
 refine ⟨⟨h35,by show k ≠ 0;omega,by rw [hw];exact h2,by rw [hw];exact h4,by rw [hw,h1];exact hkn.symm,fun h => ?_⟩,⟨fun _ => rfl,fun _ => rfl⟩⟩
 have : k = 1 := h
 omega
theorem gw_num {n : Nat} (h : n <= 4611686018427387903) : gw (nuTk n) /\ cn (nuTk n) := by
 obtain ⟨h1,h2⟩ := dec_size h
 refine ⟨⟨by show 1 < 35;omega,by show (1 : Nat) ≠ 0;decide,h1,h2,?_,fun _ => numV_dec h⟩,⟨fun h => absurd rfl h,fun _ => rfl⟩⟩
 show kindS (dec n) = _
 rw [dec_kind h];rfl
theorem decF_le : ∀ (l : List UInt8) (a v : Nat),a <= 4611686018427387903 -> decF a l = some v -> v <= 4611686018427387903
 | [],a,v,ha,h => by simp [decF] at h;omega
 | c :: r,a,v,ha,h => by
   rw [decF] at h
   split at h
   ·split at h
    ·exact decF_le r _ v (by assumption) h
    ·simp at h
   ·simp at h
structure LexOk (t : Tok) : Prop where
 gd : gd t
 ne : t.k ≠ 0
 gw : gw t.tk
 cn : cn t.tk
theorem wordR_ok {s : ByteArray} {p k n z : Nat} {t : ByteArray} (hs : s.size <= 400) (h : wordR s p = .ok k n t z) (q : Nat) : LexOk ⟨k,n,q,t⟩ := by
 have hle := wordR_le h
 unfold wordR at h
 split at h
 ·rename_i hp
  split at h
  ·simp at h
  ·split at h
   ·rename_i hl
    have hr : p < runE s p /\ runE s p <= s.size := by
     rw [runE_on s p hp hl]
     have := runE_le s s.size (p + 1) (by omega) (by omega)
     omega
    have hsz : (s.extract p (runE s p)).size = runE s p - p := by rw [ByteArray.size_extract];omega
    have h0 : 0 < (s.extract p (runE s p)).size := by omega
    have hb : (s.extract p (runE s p))[0] = s[p] := by
     rw [ByteArray.getElem_extract];simp
    split at h
    ·rename_i hd
     split at h
     ·rename_i v hv
      simp at h
      obtain ⟨rfl,rfl,rfl,rfl⟩ := h
      have hm := decF_le _ 0 v (by omega) hv
      have hg := gw_num hm
      have ht : (⟨1,v,q,s.extract p (runE s p)⟩ : Tok).tk = nuTk v := rfl
      exact ⟨⟨⟨rfl,by show 1 < 35;omega⟩,fun _ => ⟨hv,by show (s.extract p (runE s p)).size <= 1000;omega⟩⟩,by show (1 : Nat) ≠ 0;decide,by rw [ht];exact hg.1,by rw [ht];exact hg.2⟩
     ·simp at h
    ·rename_i hd
     simp at h
     obtain ⟨rfl,rfl,rfl,rfl⟩ := h
     unfold nmK
     cases hk : kwK (s.extract p (runE s p)) with
     | none =>
       have hsm : smlB s[p] = true := by
        unfold letB at hl
        simp at hl hd
        rcases hl with h | h
        ·rw [h] at hd;simp at hd
        ·exact h
       have hkd : kindS (s.extract p (runE s p)) = idN := by
        unfold kindS
        rw [hk]
        simp only [Option.isSome_none,Bool.false_eq_true,if_false,dif_pos h0,hb]
        simp at hd
        rw [hd,hsm];rfl
       have ht : (⟨2,0,q,s.extract p (runE s p)⟩ : Tok).tk = nmTk (s.extract p (runE s p)) := rfl
       refine ⟨⟨⟨rfl,by show 2 < 35;omega⟩,fun h => by have : (2 : Nat) = 1 := h;omega⟩,by show (2 : Nat) ≠ 0;decide,?_,?_⟩
       ·show gw (nmTk (s.extract p (runE s p)))
        exact ⟨by show 2 < 35;omega,by show (2 : Nat) ≠ 0;decide,h0,by show (s.extract p (runE s p)).size <= 1000;omega,hkd,fun h => by have : (2 : Nat) = 1 := h;omega⟩
       ·exact ⟨fun _ => rfl,fun h => absurd rfl h⟩
     | some k =>
       have hrg := firstK_range _ _ _ _ hk
       have htx : txt k = s.extract p (runE s p) := toList_inj (by simpa using hrg.2.2)
       have hg := gw_of (k := k) (by omega) (by omega)
       have ht : (⟨k,0,q,s.extract p (runE s p)⟩ : Tok).tk = Tk.of k := by
        unfold Tok.tk Tk.of
        simp only
        rw [if_neg (by omega),if_neg (by omega)]
       refine ⟨⟨⟨?_,by show k < 35;omega⟩,fun h => by have : k = 1 := h;omega⟩,by show k ≠ 0;omega,by show gw (Tok.tk ⟨k,0,q,_⟩);rw [ht];exact hg.1,by show cn (Tok.tk ⟨k,0,q,_⟩);rw [ht];exact hg.2⟩
       show kName k (s.extract p (runE s p)) = nameK k
       rw [<- htx];rfl
   ·split at h
    ·rename_i k' hk
     simp at h
     obtain ⟨rfl,rfl,rfl,rfl⟩ := h
     have hrg := firstK_range _ _ _ _ hk
     have hg := gw_of (k := k') (by omega) (by omega)
     have ht : (⟨k',0,q,txt k'⟩ : Tok).tk = Tk.of k' := by
      unfold Tok.tk Tk.of
      simp only
      rw [if_neg (by omega),if_neg (by omega)]
     exact ⟨⟨⟨rfl,by show k' < 35;omega⟩,fun h => by have : k' = 1 := h;omega⟩,by show k' ≠ 0;omega,by rw [ht];exact hg.1,by rw [ht];exact hg.2⟩
    ·simp at h
 ·simp at h
theorem lexF_ok (s : ByteArray) (hs : s.size <= 400) : ∀ (f a : Nat) (l : List Tok),lexF s f a = .good l -> ∀ t ∈ l,LexOk t := by
 intro f
 induction f with
 | zero => intro a l h t ht;simp [lexF] at h;subst h;simp at ht
 | succ f ih =>
   intro a l h t ht
   rw [lexF] at h
   split at h
   ·cases hw : wordR s a with
    | err e => rw [hw] at h;simp at h
    | ok k n x z =>
      rw [hw] at h
      simp only at h
      cases hx : lexF s f (skp s z) with
      | bad e p => rw [hx] at h;simp [LR.pre] at h
      | good l' =>
        rw [hx] at h
        simp [LR.pre] at h
        subst h
        rcases List.mem_cons.1 ht with rfl | ht
        ·exact wordR_ok hs hw a
        ·exact ih _ _ hx t ht
   ·simp at h;subst h;simp at ht
mutual
theorem mem_fu : ∀ (c : T) (t : Tk),t ∈ fl (fu c) -> t ∈ fl c \/ t = oB \/ t = cB
 | .nd b k s n xs kids,t,h => by
   rw [fu,fl] at h
   rw [fl]
   simp only [List.mem_append,List.mem_replicate] at h ⊢
   rcases h with h | h | h | h | h
   ·exact .inr (.inl h.2)
   ·exact .inl (.inr (.inl h))
   ·rcases mem_fus kids k s 0 t h with h | h | h
    ·exact .inl (.inr (.inr (.inl h)))
    ·exact .inr (.inl h)
    ·exact .inr (.inr h)
   ·exact .inl (.inr (.inr (.inr (.inl h))))
   ·exact .inr (.inr h.2)
theorem mem_fus : ∀ (l : List T) (k s i : Nat) (t : Tk),t ∈ flk k s i (fus l) -> t ∈ flk k s i l \/ t = oB \/ t = cB
 | [],k,s,i,t,h => by simp [fus,flk] at h
 | c :: r,k,s,i,t,h => by
   rw [fus,flk] at h
   rw [flk]
   simp only [List.mem_append] at h ⊢
   rcases h with h | h | h
   ·exact .inl (.inl h)
   ·rcases mem_fu c t h with h | h
    ·exact .inl (.inr (.inl h))
    ·exact .inr h
   ·rcases mem_fus r k s (i + 1) t h with h | h
    ·exact .inl (.inr (.inr h))
    ·exact .inr h
end
mutual
theorem nums_of : ∀ c : T,(∀ t ∈ fl c,t.k = 1 -> t.n <= 4611686018427387903) -> nums c
 | .nd b k s n xs kids,h => by
   rw [nums]
   rw [fl] at h
   refine ⟨fun hk => ?_,numss_of kids k s 0 (fun t ht => h t (by simp only [List.mem_append];exact .inr (.inr (.inl ht))))⟩
   subst hk
   exact h (nuTk n) (by simp [pre]) rfl
theorem numss_of : ∀ (l : List T) (k s i : Nat),(∀ t ∈ flk k s i l,t.k = 1 -> t.n <= 4611686018427387903) -> numss l
 | [],_,_,_,_ => trivial
 | c :: r,k,s,i,h => by
   rw [flk] at h
   exact ⟨nums_of c (fun t ht => h t (by simp [ht])),numss_of r k s (i + 1) (fun t ht => h t (by simp [ht]))⟩
end
theorem own_words {k s n m : Nat} {xs : List ByteArray} (h : arB k s xs m = true) : 1 <= (pre k s n xs).length \/ 2 <= m := by
 by_cases hp : pre k s n xs = []
 ·exact .inr (two_kids h hp)
 ·left
  cases hx : pre k s n xs with
  | nil => exact absurd hx hp
  | cons a r => simp
mutual
theorem fu_len : ∀ c : T,fine c -> (fl (fu c)).length + 2 <= 5 * (fl c).length
 | .nd b k s n xs kids,h => by
   rw [fine] at h
   have hk := fus_len5 kids h.2 k s 0
   have ho := own_words (n := n) h.1
   have hb : fb k <= 1 := by unfold fb;split <;> omega
   rw [fu,fl,fl]
   simp only [List.length_append,List.length_replicate]
   rcases ho with ho | ho <;> omega
theorem fus_len5 : ∀ l : List T,fines l -> ∀ (k s i : Nat),(flk k s i (fus l)).length + 2 * l.length <= 5 * (flk k s i l).length
 | [],_,k,s,i => by simp [fus,flk]
 | c :: r,h,k,s,i => by
   have h1 := fu_len c h.1
   have h2 := fus_len5 r h.2 k s (i + 1)
   rw [fus,flk,flk]
   simp only [List.length_append,List.length_cons]
   omega
end
theorem tree_good {c : T} {l : List Tok} (hw : wf c) (hfl : fl c = tks l) (hl : ∀ t ∈ l,LexOk t) : GC (fl (fu c)) /\ nums c /\ (fl (fu c)).length <= 5 * l.length := by
 have ht : ∀ t ∈ fl c,gw t /\ cn t := fun t ht => by
  rw [hfl] at ht
  unfold tks at ht
  rw [List.mem_map] at ht
  obtain ⟨x,hx,rfl⟩ := ht
  exact ⟨(hl x hx).gw,(hl x hx).cn⟩
 refine ⟨fun t h => ?_,nums_of c (fun t h hk => ?_),?_⟩
 ·rcases mem_fu c t h with h | rfl | rfl
  ·exact ht t h
  ·exact gw_of (by omega) (by omega)
  ·exact gw_of (by omega) (by omega)
 ·have hg := (ht t h).1.num hk
  have hwt : wt t = dec t.n := by unfold wt;rw [if_pos hk]
  have := decF_le _ 0 t.n (by omega) hg
  exact this
 ·have := fu_len c (wf_fine c hw)
  rw [hfl,tks_len] at this
  omega
theorem lexF_len (s : ByteArray) : ∀ (f a : Nat) (l : List Tok),a <= s.size -> lexF s f a = .good l -> l.length + a <= s.size := by
 intro f
 induction f with
 | zero => intro a l ha h;simp [lexF] at h;subst h;simpa using ha
 | succ f ih =>
   intro a l ha h
   rw [lexF] at h
   split at h
   ·cases hw : wordR s a with
    | err e => rw [hw] at h;simp at h
    | ok k n x z =>
      rw [hw] at h
      simp only at h
      have hz := wordR_le hw
      have hsk := skp_le s s.size z (by omega) (by omega)
      cases hx : lexF s f (skp s z) with
      | bad e p => rw [hx] at h;simp [LR.pre] at h
      | good l' =>
        rw [hx] at h
        simp [LR.pre] at h
        subst h
        have := ih _ _ hsk.2 hx
        simp;omega
   ·simp at h;subst h;simpa using ha
theorem lex_len {s : ByteArray} {l : List Tok} (h : lex s (skp s 0) = .good l) : l.length <= s.size := by
 have h1 := skp_le s s.size 0 (by omega) (by omega)
 have := lexF_len s _ _ l h1.2 h
 omega
set_option maxRecDepth 100000 in
theorem parse_long (s : ByteArray) (hs : 400 < s.size) (hm : s.size <= maxLen) (w : World) :
 Calls Tryz.prog 29 #[.string s] w fun e w' => e = .returned (.tuple #[.pointer none,.int .i64 1,.int .i64 0]) /\ w' = w := by
 have HS : Hid (400 < s.size) := hs
 have HM : Hid (s.size <= maxLen) := hm
 clear hs hm
 go_enter Tryz.func29,Tryz.ntmps29
 go_wp2_with (go_at_call 67;refine (words_long s HS.out HM.out _).mono ?_;rintro _ w1 ⟨rfl,hw1⟩;subst hw1)
 go_ret3
 exact ⟨rfl,rfl⟩
set_option maxRecDepth 100000 in
theorem parse_lex (s : ByteArray) (hs : s.size <= 400) {e p : Nat} (hl : lex s (skp s 0) = .bad e p) (w : World) :
 Calls Tryz.prog 29 #[.string s] w fun e' w' => e' = .returned (.tuple #[.pointer none,.int .i64 e,.int .i64 p]) /\ Below w.heap.size w w' := by
 have h23 := lexF_bad _ _ _ _ _ hl
 have HS : Hid (s.size <= 400) := hs
 have HX : Hid (lex s (skp s 0) = .bad e p) := hl
 clear hs hl
 rcases h23 with rfl | rfl
 all_goals
  go_enter Tryz.func29,Tryz.ntmps29
  go_wp2_with (go_at_call 67;refine (words_short s HS.out _).mono ?_;rw [HX.out];simp only [LR.e,LR.p];rintro _ w1 ⟨v1,rfl,hv1,hb1⟩;have hv2 : v1 = .slice none 0 0 := hv1;subst hv2)
  go_ret3
  exact ⟨rfl,hb1⟩
theorem endTok_ok (s : ByteArray) : okTok (endTok s) := ⟨rfl,by show 0 < 35;omega⟩
theorem words_at {s : ByteArray} (hs : s.size <= 400) {l : List Tok} (hl : lex s (skp s 0) = .good l) (w : World) :
 Calls Tryz.prog 67 #[.string s] w fun e w' => ∃ g cap,e = .returned (.tuple #[.slice (some ⟨g,0,none⟩) (l.length + 1) cap,.int .i64 0,.int .i64 0]) /\ l.length + 1 <= cap /\ g < w'.heap.size /\ w.heap.size <= g /\ RW w' g 0 (l ++ [endTok s]) /\ Below w.heap.size w w' := by
 refine (words_short s hs w).mono ?_
 rw [hl]
 rintro _ w1 ⟨v1,rfl,hv1,hb1⟩
 have hv2 : w1.ownsRow w.heap.size 200 3 v1 (l.length + 1) ((l ++ [endTok s]).flatMap Tok.rcells) := by
  have := hv1
  simpa [WordsOwn] using this
 obtain ⟨wg,wcap,rfl,hw1,hw2,hw3,hw4⟩ := own_shapeP3 hv2
 exact ⟨wg,wcap,rfl,hw3,hw2,hw1,rw_own hv2,hb1⟩
set_option maxRecDepth 100000 in
theorem parse_bad (s : ByteArray) (hs : s.size <= 400) {l : List Tok} {e p n0 : Nat} (hl : lex s (skp s 0) = .good l) (hM : MR 12 n0 [.nt .Expr,.tm 0] (l ++ [endTok s]) 0 (some (e,p))) (w : World) :
 Calls Tryz.prog 29 #[.string s] w fun e' w' => e' = .returned (.tuple #[.pointer none,.int .i64 e,.int .i64 p]) /\ Below w.heap.size w w' := by
 have h45 := mr_e hM e p rfl
 have hll := lex_len hl
 have HS : Hid (s.size <= 400) := hs
 have HX : Hid (lex s (skp s 0) = .good l) := hl
 have HOK : Hid (∀ t ∈ l ++ [endTok s],okTok t) := fun t ht => by
  rw [List.mem_append] at ht
  rcases ht with ht | ht
  ·exact (lexF_ok s hs _ _ l hl t ht).gd.1
  ·simp at ht;subst ht;exact endTok_ok s
 have hLn : (l ++ [endTok s]).length = l.length + 1 := by simp
 obtain ⟨L,hLL⟩ : ∃ L,L = l ++ [endTok s] := ⟨_,rfl⟩
 rw [<- hLL] at hM HOK hLn
 have HLL : Hid (L = l ++ [endTok s]) := hLL
 clear hl hLL
 rcases h45 with rfl | rfl
 all_goals
  have HM : Hid (MR 12 n0 [.nt .Expr,.tm 0] L 0 (some (_,p))) := hM
  clear hM
  go_enter Tryz.func29,Tryz.ntmps29
  go_wp2_with (first
   | (go_at_call 67;refine (words_at HS.out HX.out _).mono ?_;rintro _ w1 ⟨wg,wcap,rfl,hw3,hw2,hw1,hrw,hb1⟩;rw [<- HLL.out] at hrw)
   | (go_at_call 68;refine (accepts_at (L := L) (N := 12) (R := some (_,p)) hLn (by omega) (by omega) (by omega) hrw hw2 HOK.out HM.out).mono ?_;rintro _ w2 ⟨rfl,hb2⟩))
  go_ret3
  exact ⟨rfl,hb1.trans (hb2.mono hb1.size)⟩
set_option maxRecDepth 100000 in
theorem parse_ok (s : ByteArray) (hs : s.size <= 400) {l : List Tok} {n0 : Nat} {c : T} (hl : lex s (skp s 0) = .good l) (hM : MR 12 n0 [.nt .Expr,.tm 0] (l ++ [endTok s]) 0 none) (hw : wf c) (h25 : c.k ≠ 25) (hfl : fl c = tks l) (w : World) :
 ∃ g,er g = gt c /\ Calls Tryz.prog 29 #[.string s] w fun e' w' => ∃ q,e' = .returned (.tuple #[.pointer (some ⟨q,0,none⟩),.int .i64 0,.int .i64 0]) /\ HT w' w.heap.size w'.heap.size (.pointer (some ⟨q,0,none⟩)) g /\ Below w.heap.size w w' := by
 have hgd := lexF_ok s hs _ _ l hl
 obtain ⟨g,hT,he⟩ := tree_fl hw h25 hfl.symm (fun t ht => (hgd t ht).gd)
 refine ⟨g,he,?_⟩
 have hll := lex_len hl
 have HS : Hid (s.size <= 400) := hs
 have HX : Hid (lex s (skp s 0) = .good l) := hl
 have HOKl : Hid (∀ t ∈ l,okTok t) := fun t ht => (hgd t ht).gd.1
 have HOK : Hid (∀ t ∈ l ++ [endTok s],okTok t) := fun t ht => by
  rw [List.mem_append] at ht
  rcases ht with ht | ht
  ·exact (hgd t ht).gd.1
  ·simp at ht;subst ht;exact endTok_ok s
 have hLn : (l ++ [endTok s]).length = l.length + 1 := by simp
 have HTR : Hid (TreeOK l g) := hT
 obtain ⟨L,hLL⟩ : ∃ L,L = l ++ [endTok s] := ⟨_,rfl⟩
 rw [<- hLL] at hM HOK hLn
 have HLL : Hid (L = l ++ [endTok s]) := hLL
 have HM : Hid (MR 12 n0 [.nt .Expr,.tm 0] L 0 none) := hM
 clear hl hLL hM hT hgd hfl he hw h25
 go_enter Tryz.func29,Tryz.ntmps29
 go_wp2_with (first
  | (go_at_call 67;refine (words_at HS.out HX.out _).mono ?_;rintro _ w1 ⟨wg,wcap,rfl,hw3,hw2,hw1,hrw,hb1⟩;rw [<- HLL.out] at hrw;have hs1 := hb1.size)
  | (go_at_call 68;refine (accepts_at (L := L) (N := 12) (R := none) hLn (by omega) (by omega) (by omega) hrw hw2 HOK.out HM.out).mono ?_;rintro _ w2 ⟨rfl,hb2⟩;have hs2 := hb2.size;have HR2 : Hid (RW w2 wg 0 l) := (by have h := hrw.below hb2 hw2;rw [HLL.out] at h;exact rw_left h))
  | (go_at_call 69;refine (HTR.out _ wg 0 wcap _ rfl (by omega) (by omega) (by omega) HR2.out HOKl.out).mono ?_;rintro _ w3 ⟨v3,rfl,ht3,hb3⟩;obtain ⟨p3,rfl,hp3,hp3'⟩ := ht3.ptr;have hs3 := hb3.size))
 go_ret3
 exact ⟨p3,rfl,ht3.wide (by omega) (Nat.le_refl _),hb1.trans ((hb2.mono (by omega)).trans (hb3.mono (by omega)))⟩
abbrev D (b : ByteArray) : List UInt8 := b.data.toList
theorem D_app (x y : ByteArray) : D (x ++ y) = D x ++ D y := by simp [D]
theorem D_len (x : ByteArray) : (D x).length = x.size := len_data x
theorem stB_D {s t : ByteArray} {i : Nat} (hi : i <= s.size) : stB s i t = (D t).isPrefixOf ((D s).drop i) := by
 have hl := D_len s
 have ht := D_len t
 have h : stB s i t = true ↔ (D t).isPrefixOf ((D s).drop i) = true := by
  rw [List.isPrefixOf_iff_prefix,List.prefix_iff_eq_take]
  unfold stB
  simp only [Bool.and_eq_true,decide_eq_true_eq,beq_iff_eq]
  rw [Lib.extract_toList,ByteArray.toList_eq,Nat.add_sub_cancel_left]
  constructor
  ·intro h
   rw [ht];exact h.2.symm
  ·intro h
   refine ⟨?_,by rw [<- ht];exact h.symm⟩
   have := congrArg List.length h
   rw [List.length_take,List.length_drop] at this
   omega
 cases h1 : stB s i t <;> cases h2 : (D t).isPrefixOf ((D s).drop i)
 ·rfl
 ·rw [h1,h2] at h;simp at h
 ·rw [h1,h2] at h;simp at h
 ·rfl
def sgL (l : List UInt8) : Option Nat := firstK (fun k => (D (txt k)).isPrefixOf l) 18 17
theorem signK_D {s : ByteArray} {i : Nat} (hi : i <= s.size) : signK s i = sgL ((D s).drop i) := by
 unfold signK sgL
 congr 1
 funext k
 exact stB_D hi
def remL (l : List UInt8) : Bool := [40,42].isPrefixOf l
theorem opn_D {s : ByteArray} {i : Nat} (hi : i <= s.size) : stB s i opn = remL ((D s).drop i) := stB_D hi
def badP (a b : Nat) : Bool := !(sgL (D (txt a) ++ D (txt b)) == some a) || remL (D (txt a) ++ D (txt b))
theorem sg_one : ∀ k : Fin 35,18 <= k.val -> sgL (D (txt k.val)) = some k.val /\ remL (D (txt k.val)) = false := by decide
theorem bad_none : ∀ a b : Fin 35,18 <= a.val -> 18 <= b.val -> (b.val = 23 \/ b.val = 24 \/ b.val = 31 \/ (a.val ≠ 28 /\ a.val ≠ 29 /\ a.val ≠ 31 /\ a.val ≠ 23)) -> badP a.val b.val = false := by decide
theorem sign_chars : ∀ k : Fin 35,18 <= k.val -> (D (txt k.val)).all (fun c => !letB c && !blkB c) = true /\ (D (txt k.val)) ≠ [] := by decide
theorem pre_letter : ∀ (t u : List UInt8) (c : UInt8) (r : List UInt8),t.all (fun c => !letB c) = true -> letB c = true -> t.isPrefixOf (u ++ c :: r) = t.isPrefixOf u
 | [],u,c,r,_,_ => by simp
 | a :: t,[],c,r,ht,hc => by
   have : (a == c) = false := by
    simp only [List.all_cons,Bool.and_eq_true] at ht
    cases h : (a == c)
    ·rfl
    ·have e : a = c := by simpa using h
     subst e
     rw [hc] at ht;simp at ht
   show ((a == c) && t.isPrefixOf r) = false
   rw [this];rfl
 | a :: t,b :: u,c,r,ht,hc => by
   simp only [List.cons_append]
   rw [List.isPrefixOf,List.isPrefixOf,pre_letter t u c r (by simp only [List.all_cons,Bool.and_eq_true] at ht;exact ht.2) hc]
theorem firstK_congr {p q : Nat -> Bool} : ∀ (n a : Nat),(∀ k,a <= k -> k < a + n -> p k = q k) -> firstK p a n = firstK q a n := by
 intro n
 induction n with
 | zero => intro a _;rfl
 | succ n ih =>
   intro a h
   simp only [firstK]
   rw [h a (Nat.le_refl _) (by omega),ih (a + 1) (fun k h1 h2 => h k (by omega) (by omega))]
theorem sgL_letter (u : List UInt8) (c : UInt8) (r : List UInt8) (hc : letB c = true) : sgL (u ++ c :: r) = sgL u := by
 unfold sgL
 refine firstK_congr _ _ (fun k h1 h2 => pre_letter _ u c r ?_ hc)
 have := (sign_chars ⟨k,by omega⟩ h1).1
 rw [List.all_eq_true] at this ⊢
 intro x hx
 have := this x hx
 simp at this ⊢
 exact this.1
theorem remL_letter (u : List UInt8) (c : UInt8) (r : List UInt8) (hc : letB c = true) : remL (u ++ c :: r) = remL u := pre_letter _ u c r (by decide) hc
theorem get_D {s : ByteArray} {i : Nat} (h : i < s.size) : s[i] = (D s)[i]'(by rw [D_len];exact h) := rfl
theorem runE_to {s : ByteArray} {e : Nat} (he : e <= s.size) (hend : ∀ h : e < s.size,letB s[e] = false) : ∀ (n j : Nat),j + n = e -> (∀ i (h : i < s.size),j <= i -> i < e -> letB s[i] = true) -> runE s j = e := by
 intro n
 induction n with
 | zero =>
   intro j hj _
   have : j = e := by omega
   subst this
   by_cases h : j < s.size
   ·exact runE_off s j h (hend h)
   ·exact runE_end s j h
 | succ n ih =>
   intro j hj hl
   rw [runE_on s j (by omega) (hl j (by omega) (Nat.le_refl _) (by omega))]
   exact ih (j + 1) (by omega) (fun i h h1 h2 => hl i h (by omega) h2)
structure LW (x : ByteArray) : Prop where
 all : (D x).all letB = true
 pos : 0 < x.size
 num : ∀ h : 0 < x.size,digB x[0] = true -> ∃ v,numV x = some v
structure SG (x : ByteArray) (k : Nat) : Prop where
 eq : x = txt k
 ge : 18 <= k
 lt : k < 35
theorem SG.ch {x : ByteArray} {k : Nat} (h : SG x k) : (D x).all (fun c => !letB c && !blkB c) = true /\ 0 < x.size := by
 obtain ⟨h1,h2⟩ := sign_chars ⟨k,h.lt⟩ h.ge
 rw [h.eq]
 refine ⟨h1,?_⟩
 rw [<- D_len]
 cases hx : D (txt k) with
 | nil => exact absurd hx h2
 | cons a r => simp
theorem app_left {x y : ByteArray} {i : Nat} (h : i < x.size) : ∃ h',(x ++ y)[i]'h' = x[i] := by
 have hs : (x ++ y).size = x.size + y.size := ByteArray.size_append
 refine ⟨by omega,?_⟩
 rw [get_D,get_D]
 simp only [D_app]
 rw [List.getElem_append_left]
theorem app_right {x y : ByteArray} {i : Nat} (h : i < y.size) : ∃ h',(x ++ y)[x.size + i]'h' = y[i] := by
 have hs : (x ++ y).size = x.size + y.size := ByteArray.size_append
 refine ⟨by omega,?_⟩
 rw [get_D,get_D]
 simp only [D_app]
 rw [List.getElem_append_right (by rw [D_len];omega)]
 simp only [D_len]
 congr 1;omega
theorem LW.let {x : ByteArray} (h : LW x) (i : Nat) (hi : i < x.size) : letB x[i] = true := by
 have := h.all
 rw [List.all_eq_true] at this
 exact this _ (by rw [get_D];exact List.getElem_mem _)
theorem SG.get {x : ByteArray} {k : Nat} (h : SG x k) (i : Nat) (hi : i < x.size) : letB x[i] = false /\ blkB x[i] = false := by
 have := h.ch.1
 rw [List.all_eq_true] at this
 have := this x[i] (by rw [get_D];exact List.getElem_mem _)
 simpa using this
theorem let_blk {c : UInt8} (h : letB c = true) : blkB c = false := by
 unfold letB digB smlB at h
 unfold blkB
 simp at h ⊢
 omega
theorem drop_left {x y : ByteArray} : (D (x ++ y)).drop x.size = D y := by
 rw [D_app,<- D_len x];simp
theorem rem_head {l : List UInt8} {c : UInt8} {r : List UInt8} (h : l = c :: r) (hc : c ≠ 40) : remL l = false := by
 subst h
 unfold remL
 rw [List.isPrefixOf]
 have : ((40 : UInt8) == c) = false := by
  cases h : ((40 : UInt8) == c)
  ·rfl
  ·have e : (40 : UInt8) = c := by simpa using h
   exact absurd e.symm hc
 rw [this];rfl
theorem D_cons {x : ByteArray} (h : 0 < x.size) : ∃ r,D x = x[0] :: r := by
 have hl := D_len x
 cases hx : D x with
 | nil => rw [hx] at hl;simp at hl;omega
 | cons a r =>
   refine ⟨r,?_⟩
   rw [get_D]
   simp [hx]
theorem let_ne40 {c : UInt8} (h : letB c = true) : c ≠ 40 := by
 intro e
 subst e
 revert h
 decide
theorem word_at {s : ByteArray} {p e : Nat} {x : ByteArray} (hp : p < s.size) (hr : runE s p = e) (hx : s.extract p e = x) (hl : letB s[p] = true) (hrem : remL ((D s).drop p) = false) (hnum : digB s[p] = true -> ∃ v,numV x = some v) : ∃ k n,wordR s p = .ok k n x e := by
 have ho : stB s p opn = false := by rw [opn_D (by omega)];exact hrem
 unfold wordR
 rw [dif_pos hp,if_neg (by simp [ho]),if_pos hl,hr,hx]
 by_cases hd : digB s[p] = true
 ·obtain ⟨v,hv⟩ := hnum hd
  rw [if_pos hd,hv];exact ⟨_,_,rfl⟩
 ·rw [if_neg hd];exact ⟨_,_,rfl⟩
theorem sign_at' {s : ByteArray} {p k : Nat} (hp : p < s.size) (hl : letB s[p] = false) (hrem : remL ((D s).drop p) = false) (hs : sgL ((D s).drop p) = some k) : wordR s p = .ok k 0 (txt k) (p + (txt k).size) := by
 have ho : stB s p opn = false := by rw [opn_D (by omega)];exact hrem
 unfold wordR
 rw [dif_pos hp,if_neg (by simp [ho]),if_neg (by simp [hl]),signK_D (by omega),hs]
theorem skp_at {s : ByteArray} {p : Nat} (hp : p < s.size) (hb : blkB s[p] = false) (hrem : remL ((D s).drop p) = false) : skp s p = p := skp_word hp (by rw [opn_D (by omega)];exact hrem) hb
theorem skp_fin (s : ByteArray) : skp s s.size = s.size := skp_end s s.size (by omega)
theorem lex_fin (s : ByteArray) : lex s s.size = .good [] := lex_end s s.size (by omega)
theorem extract_left (x y : ByteArray) : (x ++ y).extract 0 x.size = x := by
 apply toList_inj
 rw [Lib.extract_toList]
 show ((D (x ++ y)).drop 0).take (x.size - 0) = _
 rw [D_app,List.drop_zero,Nat.sub_zero,<- D_len x,take_left',ByteArray.toList_eq]
where
 take_left' {a b : List UInt8} : (a ++ b).take a.length = a := by simp
theorem extract_right (x y : ByteArray) : (x ++ y).extract x.size (x ++ y).size = y := by
 apply toList_inj
 rw [Lib.extract_toList]
 show ((D (x ++ y)).drop x.size).take ((x ++ y).size - x.size) = _
 have hs : (x ++ y).size = x.size + y.size := ByteArray.size_append
 rw [drop_left,hs,Nat.add_sub_cancel_left,ByteArray.toList_eq,List.take_of_length_le]
 rw [D_len];exact Nat.le_refl _
theorem lex_two {s : ByteArray} {p k1 n1 k2 n2 : Nat} {x y : ByteArray} (hp : 0 < s.size) (hp2 : p < s.size) (h0 : skp s 0 = 0) (h1 : wordR s 0 = .ok k1 n1 x p) (h2 : skp s p = p) (h3 : wordR s p = .ok k2 n2 y s.size) : lex s (skp s 0) = .good [⟨k1,n1,0,x⟩,⟨k2,n2,p,y⟩] := by
 rw [h0,lex_ok hp h1,h2,lex_ok hp2 h3,skp_fin,lex_fin]
 rfl
theorem ap_false {x y : ByteArray} {k1 n1 k2 n2 p : Nat} (hs : (x ++ y).size <= 400) (h : lex (x ++ y) (skp (x ++ y) 0) = .good [⟨k1,n1,0,x⟩,⟨k2,n2,p,y⟩]) : apB x y = false := by
 unfold apB
 rw [if_neg (by omega),h]
 simp [two]
theorem ap_ww {x y : ByteArray} (hx : LW x) (hy : LW y) : apB x y = true := by
 unfold apB
 split
 ·rfl
 ·have hs : (x ++ y).size = x.size + y.size := ByteArray.size_append
  have hp := hx.pos
  have hall : ∀ i (h : i < (x ++ y).size),letB (x ++ y)[i] = true := by
   intro i h
   by_cases hi : i < x.size
   ·obtain ⟨_,e⟩ := app_left (y := y) hi
    rw [e];exact hx.let i hi
   ·obtain ⟨_,e⟩ := app_right (x := x) (y := y) (i := i - x.size) (by omega)
    have : x.size + (i - x.size) = i := by omega
    simp only [this] at e
    rw [e];exact hy.let _ _
  have hpos : 0 < (x ++ y).size := by omega
  have hl0 := hall 0 hpos
  obtain ⟨r,hr⟩ := D_cons hpos
  have hrem : remL ((D (x ++ y)).drop 0) = false := by rw [List.drop_zero];exact rem_head hr (let_ne40 hl0)
  have hsk := skp_at hpos (let_blk hl0) hrem
  have hrun : runE (x ++ y) 0 = (x ++ y).size := runE_to (Nat.le_refl _) (fun h => by omega) (x ++ y).size 0 (by omega) (fun i h _ _ => hall i h)
  rw [hsk]
  cases hw : wordR (x ++ y) 0 with
  | err e => rw [lex_err hpos hw]
  | ok k n t z =>
    have hz : z = (x ++ y).size := by
     have ho : stB (x ++ y) 0 opn = false := by rw [opn_D (by omega)];exact hrem
     unfold wordR at hw
     rw [dif_pos hpos,if_neg (by simp [ho]),if_pos hl0,hrun] at hw
     split at hw
     ·split at hw
      ·simp at hw;omega
      ·simp at hw
     ·simp at hw;omega
    subst hz
    rw [lex_ok hpos hw,skp_fin,lex_fin]
    rfl
theorem ap_ws {x y : ByteArray} {k : Nat} (hx : LW x) (hy : SG y k) (h4 : (x ++ y).size <= 400) : apB x y = false := by
 have hs : (x ++ y).size = x.size + y.size := ByteArray.size_append
 have hp := hx.pos
 have hq := hy.ch.2
 have hpos : 0 < (x ++ y).size := by omega
 obtain ⟨_,e0⟩ := app_left (y := y) hp
 have hl0 : letB (x ++ y)[0] = true := by rw [e0];exact hx.let 0 hp
 obtain ⟨r,hr⟩ := D_cons hpos
 have hrem : remL ((D (x ++ y)).drop 0) = false := by rw [List.drop_zero];exact rem_head hr (let_ne40 hl0)
 have hxs : x.size < (x ++ y).size := by omega
 obtain ⟨_,e1⟩ := app_right (x := x) (y := y) (i := 0) hq
 simp only [Nat.add_zero] at e1
 obtain ⟨g1,g2⟩ := hy.get 0 hq
 obtain ⟨s1,s2⟩ := sg_one ⟨k,hy.lt⟩ hy.ge
 have hey := hy.eq
 have hrun : runE (x ++ y) 0 = x.size := runE_to (by omega) (fun h => by rw [e1];exact g1) x.size 0 (by omega) (fun i h _ h2 => by
  obtain ⟨_,e⟩ := app_left (y := y) h2
  rw [e];exact hx.let i h2)
 obtain ⟨k1,n1,hw1⟩ := word_at hpos hrun (extract_left x y) hl0 hrem (fun hd => hx.num hp (by rw [<- e0];exact hd))
 have hrem2 : remL ((D (x ++ y)).drop x.size) = false := by rw [drop_left,hey];exact s2
 have hw2 := sign_at' (k := k) hxs (by rw [e1];exact g1) hrem2 (by rw [drop_left,hey];exact s1)
 rw [<- hey,<- hs] at hw2
 exact ap_false h4 (lex_two hpos hxs (skp_at hpos (let_blk hl0) hrem) hw1 (skp_at hxs (by rw [e1];exact g2) hrem2) hw2)
theorem ap_sw {x y : ByteArray} {k : Nat} (hx : SG x k) (hy : LW y) (h4 : (x ++ y).size <= 400) : apB x y = false := by
 have hs : (x ++ y).size = x.size + y.size := ByteArray.size_append
 have hp := hx.ch.2
 have hq := hy.pos
 have hpos : 0 < (x ++ y).size := by omega
 obtain ⟨_,e0⟩ := app_left (y := y) hp
 obtain ⟨g1,g2⟩ := hx.get 0 hp
 obtain ⟨s1,s2⟩ := sg_one ⟨k,hx.lt⟩ hx.ge
 have hex := hx.eq
 have hxs : x.size < (x ++ y).size := by omega
 obtain ⟨_,e1⟩ := app_right (x := x) (y := y) (i := 0) hq
 simp only [Nat.add_zero] at e1
 have hl1 : letB (x ++ y)[x.size] = true := by rw [e1];exact hy.let 0 hq
 obtain ⟨r,hr⟩ := D_cons hq
 have hly := hy.let 0 hq
 have hD : (D (x ++ y)).drop 0 = D x ++ y[0] :: r := by rw [List.drop_zero,D_app,hr]
 have hrem : remL ((D (x ++ y)).drop 0) = false := by rw [hD,remL_letter _ _ _ hly,hex];exact s2
 have hw1 := sign_at' (k := k) hpos (by rw [e0];exact g1) hrem (by rw [hD,sgL_letter _ _ _ hly,hex];exact s1)
 rw [<- hex,Nat.zero_add] at hw1
 have hrem2 : remL ((D (x ++ y)).drop x.size) = false := by rw [drop_left];exact rem_head hr (let_ne40 hly)
 have hrun : runE (x ++ y) x.size = (x ++ y).size := runE_to (Nat.le_refl _) (fun h => by omega) y.size x.size (by omega) (fun i h h1 _ => by
  obtain ⟨_,e⟩ := app_right (x := x) (y := y) (i := i - x.size) (by omega)
  have : x.size + (i - x.size) = i := by omega
  simp only [this] at e
  rw [e];exact hy.let _ _)
 obtain ⟨k2,n2,hw2⟩ := word_at hxs hrun (extract_right x y) hl1 hrem2 (fun hd => hy.num hq (by rw [<- e1];exact hd))
 exact ap_false h4 (lex_two hpos hxs (skp_at hpos (by rw [e0];exact g2) hrem) hw1 (skp_at hxs (let_blk hl1) hrem2) hw2)
theorem ap_ss {x y : ByteArray} {k k' : Nat} (hx : SG x k) (hy : SG y k') (hb : badP k k' = false) (h4 : (x ++ y).size <= 400) : apB x y = false := by
 have hs : (x ++ y).size = x.size + y.size := ByteArray.size_append
 have hp := hx.ch.2
 have hq := hy.ch.2
 have hpos : 0 < (x ++ y).size := by omega
 obtain ⟨_,e0⟩ := app_left (y := y) hp
 obtain ⟨g1,g2⟩ := hx.get 0 hp
 obtain ⟨t1,t2⟩ := hy.get 0 hq
 obtain ⟨s1,s2⟩ := sg_one ⟨k',hy.lt⟩ hy.ge
 have hex := hx.eq
 have hey := hy.eq
 have hxs : x.size < (x ++ y).size := by omega
 obtain ⟨_,e1⟩ := app_right (x := x) (y := y) (i := 0) hq
 simp only [Nat.add_zero] at e1
 unfold badP at hb
 simp only [Bool.or_eq_false_iff,Bool.not_eq_false',beq_iff_eq] at hb
 have hD : (D (x ++ y)).drop 0 = D (txt k) ++ D (txt k') := by rw [List.drop_zero,D_app,hex,hey]
 have hrem : remL ((D (x ++ y)).drop 0) = false := by rw [hD];exact hb.2
 have hw1 := sign_at' (k := k) hpos (by rw [e0];exact g1) hrem (by rw [hD];exact hb.1)
 rw [<- hex,Nat.zero_add] at hw1
 have hrem2 : remL ((D (x ++ y)).drop x.size) = false := by rw [drop_left,hey];exact s2
 have hw2 := sign_at' (k := k') hxs (by rw [e1];exact t1) hrem2 (by rw [drop_left,hey];exact s1)
 rw [<- hey,<- hs] at hw2
 exact ap_false h4 (lex_two hpos hxs (skp_at hpos (by rw [e0];exact g2) hrem) hw1 (skp_at hxs (by rw [e1];exact t2) hrem2) hw2)
def okh (k : Nat) : Prop := k < 18 \/ k = 23 \/ k = 24 \/ k = 31
def lg (k : Nat) : Prop := k ≠ 23 /\ k ≠ 28 /\ k ≠ 29 /\ k ≠ 31
def nx (a b : Nat) : Prop := lg a \/ okh b
def nb : List Tk -> Prop
 | [] => True
 | [_] => True
 | a :: b :: r => nx a.k b.k /\ nb (b :: r)
theorem nb_app : ∀ (x y : List Tk),nb x -> nb y -> (x ≠ [] -> y ≠ [] -> nx (lastK 0 x) (hk y)) -> nb (x ++ y)
 | [],y,_,hy,_ => hy
 | [a],y,_,hy,h => by
   cases y with
   | nil => trivial
   | cons b r => exact ⟨h (by simp) (by simp),hy⟩
 | a :: b :: r,y,hx,hy,h => by
   refine ⟨hx.1,?_⟩
   exact nb_app (b :: r) y hx.2 hy (fun _ h2 => h (by simp) h2)
theorem last_any {x : List Tk} (h : x ≠ []) (p q : Nat) : lastK p x = lastK q x := by
 cases x with
 | nil => exact absurd rfl h
 | cons t r => rfl
theorem lastK_ne {x y : List Tk} (h : y ≠ []) (p : Nat) : lastK p (x ++ y) = lastK 0 y := by
 rw [lastK_app];exact last_any h _ _
theorem nb_all {x : List Tk} (h : ∀ t ∈ x,lg t.k) : nb x := by
 induction x with
 | nil => trivial
 | cons a r ih =>
   cases r with
   | nil => trivial
   | cons b r => exact ⟨.inl (h a (by simp)),ih (fun t ht => h t (by simp [ht]))⟩
theorem nb_okh {x : List Tk} (h : ∀ t ∈ x,okh t.k) : nb x := by
 induction x with
 | nil => trivial
 | cons a r ih =>
   cases r with
   | nil => trivial
   | cons b r => exact ⟨.inr (h b (by simp)),ih (fun t ht => h t (by simp [ht]))⟩
theorem hk_mem {x : List Tk} (h : x ≠ []) : ∃ t ∈ x,hk x = t.k := by
 cases x with
 | nil => exact absurd rfl h
 | cons t r => exact ⟨t,by simp,rfl⟩
theorem last_mem : ∀ {x : List Tk} (p : Nat),x ≠ [] -> ∃ t ∈ x,lastK p x = t.k
 | [],_,h => absurd rfl h
 | [t],_,_ => ⟨t,by simp,rfl⟩
 | a :: b :: r,p,_ => by
   obtain ⟨t,h1,h2⟩ := last_mem (x := b :: r) a.k (by simp)
   exact ⟨t,by simp at h1 ⊢;exact .inr h1,h2⟩
structure Good (x : List Tk) : Prop where
 ne : x ≠ []
 nbb : nb x
 hd : okh (hk x)
 la : lg (lastK 0 x)
theorem Good.app {x y : List Tk} (hx : Good x) (hy : Good y) : Good (x ++ y) :=
 ⟨by intro h;exact hx.ne (List.append_eq_nil_iff.1 h).1,nb_app x y hx.nbb hy.nbb (fun _ _ => .inr hy.hd),by rw [hk_app hx.ne];exact hx.hd,by rw [lastK_ne hy.ne];exact hy.la⟩
theorem Good.mid {x m y : List Tk} (hx : Good x) (hm : nb m) (hy : Good y) : Good (x ++ (m ++ y)) := by
 refine ⟨by intro h;exact hx.ne (List.append_eq_nil_iff.1 h).1,?_,by rw [hk_app hx.ne];exact hx.hd,?_⟩
 ·refine nb_app x (m ++ y) hx.nbb (nb_app m y hm hy.nbb (fun _ _ => .inr hy.hd)) (fun _ _ => .inl hx.la)
 ·rw [lastK_app,lastK_ne hy.ne];exact hy.la
theorem Good.end {x m : List Tk} (hx : Good x) (hm : nb m) (hl : m ≠ [] -> lg (lastK 0 m)) : Good (x ++ m) := by
 refine ⟨by intro h;exact hx.ne (List.append_eq_nil_iff.1 h).1,nb_app x m hx.nbb hm (fun _ _ => .inl hx.la),by rw [hk_app hx.ne];exact hx.hd,?_⟩
 by_cases h : m = []
 ·subst h;rw [List.append_nil];exact hx.la
 ·rw [lastK_ne h];exact hl h
theorem Good.pre {m y : List Tk} (hm : nb m) (hh : m ≠ [] -> okh (hk m)) (hy : Good y) : Good (m ++ y) := by
 refine ⟨by intro h;exact hy.ne (List.append_eq_nil_iff.1 h).2,nb_app m y hm hy.nbb (fun _ _ => .inr hy.hd),?_,by rw [lastK_ne hy.ne];exact hy.la⟩
 by_cases h : m = []
 ·subst h;exact hy.hd
 ·rw [hk_app h];exact hh h
theorem Good.wrap {x : List Tk} (hx : Good x) (b : Nat) : Good (List.replicate b oB ++ (x ++ List.replicate b cB)) := by
 refine Good.pre (nb_okh (fun t ht => ?_)) (fun h => ?_) (Good.end hx (nb_all (fun t ht => ?_)) (fun h => ?_))
 ·rw [List.mem_replicate] at ht;rw [ht.2];exact .inr (.inl rfl)
 ·obtain ⟨t,h1,h2⟩ := hk_mem h
  rw [List.mem_replicate] at h1
  rw [h2,h1.2];exact .inr (.inl rfl)
 ·rw [List.mem_replicate] at ht;rw [ht.2];exact ⟨by decide,by decide,by decide,by decide⟩
 ·obtain ⟨t,h1,h2⟩ := last_mem 0 h
  rw [List.mem_replicate] at h1
  rw [h2,h1.2];exact ⟨by decide,by decide,by decide,by decide⟩
theorem sep_nb {k s m i : Nat} {xs : List ByteArray} (h : arB k s xs m = true) : nb (sep k s i) := by
 unfold sep
 cases i with
 | zero => trivial
 | succ i =>
   simp only
   split <;> (try split) <;> trivial
theorem flk_good {k s m : Nat} {xs : List ByteArray} (h : arB k s xs m = true) : ∀ (l : List T) (i : Nat),(∀ c ∈ l,Good (fl c)) -> ∀ x : List Tk,Good x -> Good (x ++ flk k s i l)
 | [],i,_,x,hx => by rw [flk,List.append_nil];exact hx
 | c :: r,i,hc,x,hx => by
   rw [flk]
   have h1 := Good.mid hx (sep_nb (i := i) h) (hc c (by simp))
   have h2 := flk_good h r (i + 1) (fun d hd => hc d (by simp [hd])) _ h1
   simpa using h2
theorem names_good : ∀ (xs : List ByteArray),nb (xs.map nmTk) := fun xs => nb_all (fun t ht => by
 have := names_kinds xs t ht
 rw [this];exact ⟨by decide,by decide,by decide,by decide⟩)
theorem pre_good {k s n m : Nat} {xs : List ByteArray} (h : arB k s xs m = true) : nb (pre k s n xs) /\ (pre k s n xs ≠ [] -> okh (hk (pre k s n xs))) /\ (m = 0 -> k ≠ 25 -> lg (lastK 0 (pre k s n xs))) := by
 have hlg : ∀ {q : Nat},q ≠ 23 -> q ≠ 28 -> q ≠ 29 -> q ≠ 31 -> lg q := fun h1 h2 h3 h4 => ⟨h1,h2,h3,h4⟩
 have hall : ∀ (ys : List ByteArray) (e : Nat),lg e -> ∀ t ∈ ys.map nmTk ++ [Tk.of e],lg t.k := fun ys e he t ht => by
  rw [List.mem_append] at ht
  rcases ht with ht | ht
  ·rw [names_kinds ys t ht];exact hlg (by decide) (by decide) (by decide) (by decide)
  ·simp at ht;subst ht;exact he
 match k,h with
 | 0,h => simp [arB] at h
 | 1,_ => exact ⟨trivial,fun _ => .inl (show (1 : Nat) < 18 by decide),fun _ _ => (show lg 1 from ⟨by decide,by decide,by decide,by decide⟩)⟩
 | 2,_ => exact ⟨trivial,fun _ => .inl (show (11 : Nat) < 18 by decide),fun _ _ => (show lg 11 from ⟨by decide,by decide,by decide,by decide⟩)⟩
 | 3,_ => exact ⟨trivial,fun _ => .inl (show (12 : Nat) < 18 by decide),fun _ _ => (show lg 12 from ⟨by decide,by decide,by decide,by decide⟩)⟩
 | 4,_ => exact ⟨trivial,fun _ => .inl (show (13 : Nat) < 18 by decide),fun _ _ => (show lg 13 from ⟨by decide,by decide,by decide,by decide⟩)⟩
 | 5,h =>
   simp [arB] at h
   match xs,h with
   | [x],_ => exact ⟨trivial,fun _ => .inl (show (2 : Nat) < 18 by decide),fun _ _ => (show lg 2 from ⟨by decide,by decide,by decide,by decide⟩)⟩
 | 6,_ => exact ⟨⟨.inr (.inr (.inr (.inl rfl))),trivial⟩,fun _ => .inr (.inl rfl),fun _ _ => (show lg 24 from ⟨by decide,by decide,by decide,by decide⟩)⟩
 | 7,h => exact ⟨trivial,fun h => absurd rfl h,fun h0 => by exfalso;simp [arB] at h;omega⟩
 | 8,h =>
   refine ⟨nb_all (fun t ht => ?_),fun _ => .inl (show (3 : Nat) < 18 by decide),fun h0 => by exfalso;simp [arB] at h;omega⟩
   rcases List.mem_cons.1 ht with rfl | ht
   ·exact hlg (by decide) (by decide) (by decide) (by decide)
   ·exact hall xs _ (hlg (by decide) (by decide) (by decide) (by decide)) t ht
 | 9,h =>
   refine ⟨nb_all (fun t ht => ?_),fun _ => .inl (show (3 : Nat) < 18 by decide),fun h0 => by exfalso;simp [arB] at h;omega⟩
   rcases List.mem_cons.1 ht with rfl | ht
   ·exact hlg (by decide) (by decide) (by decide) (by decide)
   ·rcases List.mem_cons.1 ht with rfl | ht
    ·exact hlg (by decide) (by decide) (by decide) (by decide)
    ·exact hall xs _ (hlg (by decide) (by decide) (by decide) (by decide)) t ht
 | 10,h => exact ⟨trivial,fun _ => .inl (show (3 : Nat) < 18 by decide),fun h0 => by exfalso;simp [arB] at h;omega⟩
 | 11,h => exact ⟨trivial,fun _ => .inl (show (6 : Nat) < 18 by decide),fun h0 => by exfalso;simp [arB] at h;omega⟩
 | 12,h =>
   refine ⟨nb_all (fun t ht => ?_),fun _ => .inl (show (9 : Nat) < 18 by decide),fun h0 => by exfalso;simp [arB] at h;omega⟩
   rcases List.mem_cons.1 ht with rfl | ht
   ·exact hlg (by decide) (by decide) (by decide) (by decide)
   ·exact hall xs _ (hlg (by decide) (by decide) (by decide) (by decide)) t ht
 | 13,h => exact ⟨trivial,fun _ => .inr (.inr (.inr rfl)),fun h0 => by exfalso;simp [arB] at h;omega⟩
 | 14,h => exact ⟨trivial,fun _ => .inl (show (10 : Nat) < 18 by decide),fun h0 => by exfalso;simp [arB] at h;omega⟩
 | 15,h => exact ⟨trivial,fun h => absurd rfl h,fun h0 => by exfalso;simp [arB] at h;omega⟩
 | 16,h => exact ⟨trivial,fun h => absurd rfl h,fun h0 => by exfalso;simp [arB] at h;omega⟩
 | 17,h => exact ⟨trivial,fun h => absurd rfl h,fun h0 => by exfalso;simp [arB] at h;omega⟩
 | 18,h => exact ⟨trivial,fun h => absurd rfl h,fun h0 => by exfalso;simp [arB] at h;omega⟩
 | 19,h => exact ⟨trivial,fun h => absurd rfl h,fun h0 => by exfalso;simp [arB] at h;omega⟩
 | 20,h => exact ⟨trivial,fun h => absurd rfl h,fun h0 => by exfalso;simp [arB] at h;omega⟩
 | 21,h => exact ⟨trivial,fun _ => .inl (show (14 : Nat) < 18 by decide),fun h0 => by exfalso;simp [arB] at h;omega⟩
 | 22,h => exact ⟨trivial,fun _ => .inl (show (15 : Nat) < 18 by decide),fun h0 => by exfalso;simp [arB] at h;omega⟩
 | 23,h => exact ⟨trivial,fun _ => .inl (show (16 : Nat) < 18 by decide),fun h0 => by exfalso;simp [arB] at h;omega⟩
 | 24,h => exact ⟨trivial,fun _ => .inl (show (17 : Nat) < 18 by decide),fun h0 => by exfalso;simp [arB] at h;omega⟩
 | 25,_ =>
   refine ⟨nb_all (fun t ht => ?_),fun hne => ?_,fun _ h25 => absurd rfl h25⟩
   ·rcases commas_kinds xs t ht with e | e <;> rw [e] <;> exact hlg (by decide) (by decide) (by decide) (by decide)
   ·match xs,hne with
    | [],hne => exact absurd rfl hne
    | [x],_ => exact .inl (show (2 : Nat) < 18 by decide)
    | x :: y :: r,_ => exact .inl (show (2 : Nat) < 18 by decide)
 | k + 26,h => simp [arB] at h
theorem fl_good : ∀ (m : Nat) (c : T),SizeOf.sizeOf c <= m -> wf c -> Good (fl c) := by
 intro m
 induction m with
 | zero => intro c h;cases c;simp at h
 | succ m ih =>
   intro c hs hw
   cases c with
   | nd b k s n xs kids =>
     rw [wf] at hw
     obtain ⟨ha,_,_,hws⟩ := hw
     rw [fl_eq]
     refine Good.wrap ?_ b
     obtain ⟨p1,p2,p3⟩ := pre_good (n := n) ha
     have hkid : ∀ c ∈ kids,Good (fl c) := fun c hc => by
      obtain ⟨j,_,_,j3,_⟩ := wfs_mem kids 0 hws c hc
      exact ih c (by have := List.sizeOf_lt_of_mem hc;simp at hs;omega) j3
     have hpost : nb (post k) /\ (post k ≠ [] -> lg (lastK 0 (post k))) := by
      unfold post
      split
      ·exact ⟨trivial,fun _ => ⟨by decide,by decide,by decide,by decide⟩⟩
      ·exact ⟨trivial,fun h => absurd rfl h⟩
     unfold bod
     cases kids with
     | nil =>
       have hne : pre k s n xs ≠ [] := by
        intro h
        have := two_kids ha h
        simp at this
       rw [flk,List.nil_append]
       refine Good.end ⟨hne,p1,p2 hne,?_⟩ hpost.1 hpost.2
       by_cases h25 : k = 25
       ·subst h25
        obtain ⟨t,h1,h2⟩ := last_mem 0 hne
        rw [h2]
        rcases commas_kinds xs t h1 with e | e <;> rw [e] <;> exact ⟨by decide,by decide,by decide,by decide⟩
       ·exact p3 rfl h25
     | cons a r =>
       have h1 : Good (pre k s n xs ++ fl a) := Good.pre p1 p2 (hkid a (by simp))
       have h2 := flk_good ha r 1 (fun c hc => hkid c (by simp [hc])) _ h1
       have h3 := Good.end h2 hpost.1 hpost.2
       have e : pre k s n xs ++ (flk k s 0 (a :: r) ++ post k) = pre k s n xs ++ fl a ++ flk k s 1 r ++ post k := by
        rw [flk];simp [sep]
       rw [e];exact h3
def kj : Nat -> ByteArray -> List Tk -> ByteArray
 | _,acc,[] => acc
 | p,acc,t :: r => kj t.k ((if p < 18 /\ t.k < 18 then acc ++ ⟨#[32]⟩ else acc) ++ wt t) r
structure TW (t : Tk) : Prop where
 lt : t.k < 35
 lw : t.k < 18 -> LW (wt t)
theorem TW.sg {t : Tk} (h : TW t) (h18 : 18 <= t.k) : SG (wt t) t.k := ⟨wt_txt (by omega),h18,h.lt⟩
theorem nx_bad {a b : Nat} (ha : 18 <= a) (ha2 : a < 35) (hb : 18 <= b) (hb2 : b < 35) (h : nx a b) : badP a b = false := by
 refine bad_none ⟨a,ha2⟩ ⟨b,hb2⟩ ha hb ?_
 show b = 23 \/ b = 24 \/ b = 31 \/ (a ≠ 28 /\ a ≠ 29 /\ a ≠ 31 /\ a ≠ 23)
 rcases h with h | h
 ·exact .inr (.inr (.inr ⟨h.2.1,h.2.2.1,h.2.2.2,h.1⟩))
 ·rcases h with h | h | h | h
  ·omega
  ·exact .inl h
  ·exact .inr (.inl h)
  ·exact .inr (.inr (.inl h))
theorem ap_tk {a b : Tk} (ha : TW a) (hb : TW b) (hn : nx a.k b.k) (hs : (wt a).size + (wt b).size <= 400) : apB (wt a) (wt b) = decide (a.k < 18 /\ b.k < 18) := by
 have h4 : (wt a ++ wt b).size <= 400 := by rw [ByteArray.size_append];exact hs
 by_cases h1 : a.k < 18
 ·by_cases h2 : b.k < 18
  ·rw [ap_ww (ha.lw h1) (hb.lw h2)];simp [h1,h2]
  ·rw [ap_ws (ha.lw h1) (hb.sg (by omega)) h4];simp [h2]
 ·by_cases h2 : b.k < 18
  ·rw [ap_sw (ha.sg (by omega)) (hb.lw h2) h4];simp [h1]
  ·rw [ap_ss (ha.sg (by omega)) (hb.sg (by omega)) (nx_bad (by omega) ha.lt (by omega) hb.lt hn) h4];simp [h1]
def tot' : List Tk -> Nat
 | [] => 0
 | t :: r => (wt t).size + tot' r
theorem jb_kj : ∀ (r : List Tk) (a : Tk) (acc : ByteArray),(∀ t ∈ a :: r,TW t) -> nb (a :: r) -> tot' (a :: r) <= 400 -> jb (some (wt a)) acc (r.map wt) = kj a.k acc r
 | [],a,acc,_,_,_ => rfl
 | b :: r,a,acc,ht,hn,hs => by
   rw [List.map_cons,jb_some,kj]
   simp only [tot'] at hs
   rw [ap_tk (ht a (by simp)) (ht b (by simp)) hn.1 (by omega)]
   have := jb_kj r b ((if a.k < 18 /\ b.k < 18 then acc ++ ⟨#[32]⟩ else acc) ++ wt b) (fun t h => ht t (by simp at h ⊢;exact .inr h)) hn.2 (by simp only [tot'];omega)
   rw [<- this]
   simp
theorem jb_all (z : List Tk) (ht : ∀ t ∈ z,TW t) (hn : nb z) (hs : tot' z <= 400) : jb none ⟨#[]⟩ (z.map wt) = kj 99 ⟨#[]⟩ z := by
 cases z with
 | nil => rfl
 | cons a r =>
   rw [List.map_cons,jb_none,kj,jb_kj r a _ ht hn hs,if_neg (by omega)]
theorem tot_app (x y : List Tk) : tot' (x ++ y) = tot' x + tot' y := by
 induction x with
 | nil => simp [tot']
 | cons t r ih => rw [List.cons_append,tot',tot',ih];omega
theorem tot_rep (t : Tk) : ∀ n,tot' (List.replicate n t) = n * (wt t).size
 | 0 => by simp [tot']
 | n + 1 => by rw [List.replicate_succ,tot',tot_rep t n,Nat.succ_mul];omega
theorem need_le {b k q : Nat} (h7 : k = 7 -> 1 <= b) (h25 : k = 25 -> b = 1) (hq : q <= (if 1 <= b then 7 else rk k)) : need q k <= b := by
 unfold need
 split
 ·rename_i h
  rcases h with h | h
  ·exact h7 h
  ·have := h25 h;omega
 ·split
  ·rename_i h
   by_cases hb : 1 <= b
   ·exact hb
   ·rw [if_neg hb] at hq;omega
  ·omega
mutual
theorem mi_tot : ∀ (c : T) (q : Nat),wf c -> q <= rkT c -> tot' (fl (mi q c)) <= tot' (fl c)
 | .nd b k s n xs kids,q,hw,hq => by
   rw [wf] at hw
   rw [rkT] at hq
   have h1 := need_le hw.2.1 hw.2.2.1 hq
   have h2 := mik_tot kids k s 0 hw.2.2.2
   rw [mi,fl,fl]
   simp only [tot_app,tot_rep]
   have e1 : need q k * (wt oB).size <= b * (wt oB).size := Nat.mul_le_mul_right _ h1
   have e2 : need q k * (wt cB).size <= b * (wt cB).size := Nat.mul_le_mul_right _ h1
   omega
theorem mik_tot : ∀ (l : List T) (k s i : Nat),wfs k i l -> tot' (flk k s i (mik k i l)) <= tot' (flk k s i l)
 | [],k,s,i,_ => by simp [mik,flk,tot']
 | c :: r,k,s,i,h => by
   have h1 := mi_tot c (wanted k i) h.1 h.2.1
   have h2 := mik_tot r k s (i + 1) h.2.2.2
   rw [mik,flk,flk]
   simp only [tot_app]
   omega
end
mutual
theorem mem_mi : ∀ (c : T) (q : Nat) (t : Tk),t ∈ fl (mi q c) -> t ∈ fl c \/ t = oB \/ t = cB
 | .nd b k s n xs kids,q,t,h => by
   rw [mi,fl] at h
   rw [fl]
   simp only [List.mem_append,List.mem_replicate] at h ⊢
   rcases h with h | h | h | h | h
   ·exact .inr (.inl h.2)
   ·exact .inl (.inr (.inl h))
   ·rcases mem_mik kids k s 0 t h with h | h | h
    ·exact .inl (.inr (.inr (.inl h)))
    ·exact .inr (.inl h)
    ·exact .inr (.inr h)
   ·exact .inl (.inr (.inr (.inr (.inl h))))
   ·exact .inr (.inr h.2)
theorem mem_mik : ∀ (l : List T) (k s i : Nat) (t : Tk),t ∈ flk k s i (mik k i l) -> t ∈ flk k s i l \/ t = oB \/ t = cB
 | [],k,s,i,t,h => by simp [mik,flk] at h
 | c :: r,k,s,i,t,h => by
   rw [mik,flk] at h
   rw [flk]
   simp only [List.mem_append] at h ⊢
   rcases h with h | h | h
   ·exact .inl (.inl h)
   ·rcases mem_mi c _ t h with h | h
    ·exact .inl (.inr (.inl h))
    ·exact .inr h
   ·rcases mem_mik r k s (i + 1) t h with h | h
    ·exact .inl (.inr (.inr h))
    ·exact .inr h
end
structure LexW (t : Tok) : Prop where
 tw : TW t.tk
 sz : (wt t.tk).size <= t.t.size
theorem runE_let (s : ByteArray) : ∀ (n p : Nat),s.size <= n + p -> ∀ i (h : i < s.size),p <= i -> i < runE s p -> letB s[i] = true := by
 intro n
 induction n with
 | zero => intro p hn i h h1 h2;omega
 | succ n ih =>
   intro p hn i h h1 h2
   by_cases hp : p < s.size
   ·by_cases hl : letB s[p] = true
    ·rw [runE_on s p hp hl] at h2
     by_cases hi : i = p
     ·subst hi;exact hl
     ·exact ih (p + 1) (by omega) i h (by omega) h2
    ·rw [runE_off s p hp (by simpa using hl)] at h2;omega
   ·rw [runE_end s p hp] at h2;omega
theorem D_extract (s : ByteArray) (p e : Nat) : D (s.extract p e) = ((D s).drop p).take (e - p) := by
 have h := Lib.extract_toList s p e
 rw [ByteArray.toList_eq] at h
 exact h
theorem ext_let {s : ByteArray} {p : Nat} (hle : runE s p <= s.size) : (D (s.extract p (runE s p))).all letB = true := by
 rw [D_extract,List.all_eq_true]
 intro c hc
 obtain ⟨i,hi,rfl⟩ := List.getElem_of_mem hc
 rw [List.length_take,List.length_drop,D_len] at hi
 simp only [List.getElem_take,List.getElem_drop]
 exact runE_let s s.size p (by omega) (p + i) (by omega) (by omega) (by omega)
theorem decL_dig : ∀ (N n : Nat),n <= N -> (decL n).all digB = true := by
 intro N
 induction N with
 | zero =>
   intro n h
   have : n = 0 := by omega
   subst this
   rw [decL_end 0 (by omega)]
   show (digB _ && true) = true
   rw [(dig_ok (m := 0) (by omega)).1];rfl
 | succ N ih =>
   intro n h
   by_cases h10 : n < 10
   ·rw [decL_end n h10]
    show (digB _ && true) = true
    rw [(dig_ok h10).1];rfl
   ·rw [decL_step n (by omega),List.all_append,ih (n / 10) (by omega)]
    show (true && (digB _ && true)) = true
    rw [(dig_ok (m := n % 10) (by omega)).1];rfl
theorem all_let {l : List UInt8} (h : l.all digB = true) : l.all letB = true := by
 rw [List.all_eq_true] at h ⊢
 intro c hc
 unfold letB
 rw [h c hc];rfl
theorem lw_dec {n : Nat} (h : n <= 4611686018427387903) : LW (dec n) := by
 obtain ⟨h1,_⟩ := dec_size h
 exact ⟨all_let (decL_dig n n (Nat.le_refl _)),h1,fun _ _ => ⟨n,numV_dec h⟩⟩
theorem kw_facts : ∀ k : Fin 35,3 <= k.val -> k.val < 18 -> (D (txt k.val)).all letB = true /\ digB ((D (txt k.val)).headD 48) = false := by decide
theorem lw_kw {k : Nat} (h3 : 3 <= k) (h18 : k < 18) : LW (txt k) := by
 obtain ⟨h1,h2⟩ := kw_facts ⟨k,by omega⟩ h3 h18
 have hp := (sign_kind h3 (by omega)).2.1
 refine ⟨h1,hp,fun h hd => ?_⟩
 rw [head_get hp] at hd
 have h2' : digB ((txt k).data.toList.headD 48) = false := h2
 rw [h2'] at hd;simp at hd
theorem tw_of {k : Nat} (h3 : 3 <= k) (h35 : k < 35) : TW (Tk.of k) := ⟨h35,fun h18 => by rw [wt_of h3];exact lw_kw h3 h18⟩
theorem wordR_lw {s : ByteArray} {p k n z : Nat} {t : ByteArray} (hs : s.size <= 400) (h : wordR s p = .ok k n t z) (q : Nat) : LexW ⟨k,n,q,t⟩ /\ p + t.size <= z := by
 have hok := wordR_ok hs h q
 have hle := wordR_le h
 unfold wordR at h
 split at h
 ·rename_i hp
  split at h
  ·simp at h
  ·split at h
   ·rename_i hl
    have hr : p < runE s p /\ runE s p <= s.size := by
     rw [runE_on s p hp hl]
     have := runE_le s s.size (p + 1) (by omega) (by omega)
     omega
    have hsz : (s.extract p (runE s p)).size = runE s p - p := by rw [ByteArray.size_extract];omega
    have hall := ext_let (s := s) (p := p) hr.2
    split at h
    ·rename_i hd
     split at h
     ·rename_i v hv
      simp at h
      obtain ⟨rfl,rfl,rfl,rfl⟩ := h
      have hm := decF_le _ 0 v (by omega) hv
      have hv' : decF 0 (D (s.extract p (runE s p))) = some v := hv
      rw [decF_spec _ 0 (by omega)] at hv'
      split at hv'
      ·rename_i hc
       simp at hv'
       have hlt := valF_lt _ hc.1 0
       rw [D_len,hsz,Nat.zero_add,Nat.one_mul,hv'] at hlt
       have hlen := decL_len (runE s p - p - 1) v (by rw [show runE s p - p - 1 + 1 = runE s p - p by omega];exact hlt)
       refine ⟨⟨⟨by show 1 < 35;omega,fun _ => lw_dec hm⟩,?_⟩,by rw [hsz];omega⟩
       show (dec v).size <= (s.extract p (runE s p)).size
       have : (dec v).size = (decL v).length := by show (decL v).toArray.size = _;simp
       omega
      ·simp at hv'
     ·simp at h
    ·rename_i hd
     simp at h
     obtain ⟨rfl,rfl,rfl,rfl⟩ := h
     refine ⟨?_,by rw [hsz];omega⟩
     unfold nmK at hok ⊢
     cases hk : kwK (s.extract p (runE s p)) with
     | none =>
       have hLW : LW (s.extract p (runE s p)) := ⟨hall,by omega,fun h0 hdd => by
        exfalso
        have hb : (s.extract p (runE s p))[0] = s[p] := by rw [ByteArray.getElem_extract];simp
        rw [hb] at hdd
        exact hd hdd⟩
       exact ⟨⟨by show 2 < 35;omega,fun _ => by show LW (s.extract p (runE s p));exact hLW⟩,Nat.le_refl _⟩
     | some k =>
       have hrg := firstK_range _ _ _ _ hk
       have htx : txt k = s.extract p (runE s p) := toList_inj (by simpa using hrg.2.2)
       have ht : (⟨k,0,q,s.extract p (runE s p)⟩ : Tok).tk = Tk.of k := by
        unfold Tok.tk Tk.of
        simp only
        rw [if_neg (by omega),if_neg (by omega)]
       show LexW ⟨k,0,q,s.extract p (runE s p)⟩
       exact ⟨by rw [ht];exact tw_of (by omega) (by omega),by rw [ht,wt_of (by omega),htx];exact Nat.le_refl _⟩
   ·split at h
    ·rename_i k' hk
     simp at h
     obtain ⟨rfl,rfl,rfl,rfl⟩ := h
     have hrg := firstK_range _ _ _ _ hk
     have ht : (⟨k',0,q,txt k'⟩ : Tok).tk = Tk.of k' := by
      unfold Tok.tk Tk.of
      simp only
      rw [if_neg (by omega),if_neg (by omega)]
     exact ⟨⟨by rw [ht];exact tw_of (by omega) (by omega),by rw [ht,wt_of (by omega)];exact Nat.le_refl _⟩,Nat.le_refl _⟩
    ·simp at h
 ·simp at h
theorem lexF_lw (s : ByteArray) (hs : s.size <= 400) : ∀ (f a : Nat) (l : List Tok),a <= s.size -> lexF s f a = .good l -> (∀ t ∈ l,LexW t) /\ tot' (tks l) + a <= s.size := by
 intro f
 induction f with
 | zero => intro a l ha h;simp [lexF] at h;subst h;exact ⟨by simp,by simpa [tks,tot'] using ha⟩
 | succ f ih =>
   intro a l ha h
   rw [lexF] at h
   split at h
   ·cases hw : wordR s a with
    | err e => rw [hw] at h;simp at h
    | ok k n x z =>
      rw [hw] at h
      simp only at h
      have hz := wordR_le hw
      have hsk := skp_le s s.size z (by omega) (by omega)
      cases hx : lexF s f (skp s z) with
      | bad e p => rw [hx] at h;simp [LR.pre] at h
      | good l' =>
        rw [hx] at h
        simp [LR.pre] at h
        subst h
        obtain ⟨i1,i2⟩ := ih _ _ hsk.2 hx
        obtain ⟨h1,h2⟩ := wordR_lw hs hw a
        refine ⟨fun t ht => ?_,?_⟩
        ·rcases List.mem_cons.1 ht with rfl | ht
         ·exact h1
         ·exact i1 t ht
        ·show (wt (Tok.tk ⟨k,n,a,x⟩)).size + tot' (tks l') + a <= s.size
         have h3 : (wt (Tok.tk ⟨k,n,a,x⟩)).size <= x.size := h1.sz
         omega
   ·simp at h;subst h;exact ⟨by simp,by simpa [tks,tot'] using ha⟩
theorem short_kj {s : ByteArray} {l : List Tok} {c : T} (hs : s.size <= 400) (hl : lex s (skp s 0) = .good l) (hw : wf c) (hfl : fl c = tks l) : jb none ⟨#[]⟩ ((fl (mi 0 c)).map wt) = kj 99 ⟨#[]⟩ (fl (mi 0 c)) := by
 have h0 := skp_le s s.size 0 (by omega) (by omega)
 obtain ⟨h1,h2⟩ := lexF_lw s hs _ _ l h0.2 hl
 have hwm : wf (mi 0 c) := mi_wf c (wf_fine c hw) (wf_pats c hw) 0
 refine jb_all _ (fun t ht => ?_) (fl_good _ _ (Nat.le_refl _) hwm).nbb ?_
 ·rcases mem_mi c 0 t ht with h | rfl | rfl
  ·rw [hfl] at h
   unfold tks at h
   rw [List.mem_map] at h
   obtain ⟨x,hx,rfl⟩ := h
   exact (h1 x hx).tw
  ·exact tw_of (by omega) (by omega)
  ·exact tw_of (by omega) (by omega)
 ·have := mi_tot c 0 hw (Nat.zero_le _)
  rw [hfl] at this
  omega
def CW (w : World) (b : Nat) (L : List Tok) : Prop := ∀ i (h : i < L.length),w.cell? ⟨b,i * 4,none⟩ = some (.int .i64 L[i].k) /\ w.cell? ⟨b,i * 4 + 1,none⟩ = some (.int .i64 L[i].p) /\ w.cell? ⟨b,i * 4 + 2,none⟩ = some (.int .i64 L[i].n) /\ w.cell? ⟨b,i * 4 + 3,none⟩ = some (.string (nmOf L[i].k L[i].t))
theorem CW.below {w w' : World} {B b : Nat} {L : List Tok} (h : CW w b L) (hb : Below B w w') (hB : b < B) : CW w' b L := fun i hi => by
 have := h i hi
 exact ⟨(hb.cell (p := ⟨b,_,none⟩) hB).trans this.1,(hb.cell (p := ⟨b,_,none⟩) hB).trans this.2.1,(hb.cell (p := ⟨b,_,none⟩) hB).trans this.2.2.1,(hb.cell (p := ⟨b,_,none⟩) hB).trans this.2.2.2⟩
def cwAt (L : List Tok) (i : Nat) : Tok := L[i]?.getD ⟨0,0,0,⟨#[]⟩⟩
def cwV (t : Tok) : Value := .agg #[.int .i64 t.k,.int .i64 t.p,.int .i64 t.n,.string (nmOf t.k t.t)]
structure PF where
 next : Nat
 opn : Int
 pv : Value
 err : Int
 at' : Int
def pfB (lb n cap : Nat) (N : Int) (S : PF) : Obj := .cells #[.slice (some ⟨lb,0,none⟩) n cap,.int .i64 S.next,.int .i64 S.opn,.int .i64 N,S.pv,.int .i64 S.err,.int .i64 S.at'] 299 (0,0)
set_option maxRecDepth 100000 in
theorem word_any {w : World} {p lb cap : Nat} {N : Int} {L : List Tok} {S : PF} (hL : L.length <= 100000) (hblk : w.heap[p]? = some (pfB lb L.length cap N S)) (hcap : L.length <= cap) (hcw : CW w lb L) (hlb : lb < p) :
 Calls Tryz.prog 314 #[.pointer (some ⟨p,0,none⟩)] w fun e w' => e = .returned (cwV (cwAt L S.next)) /\ Below w.heap.size w w' := by
 have hlt := lt_of_block hblk
 have c0 := blk_at hblk 0 rfl
 have c1 := blk_at hblk 1 rfl
 simp only [List.getElem_toArray,List.getElem_cons_zero,List.getElem_cons_succ] at c0 c1
 obtain ⟨nx',hnx⟩ : ∃ q,S.next = q := ⟨_,rfl⟩
 rw [hnx] at c1 ⊢
 clear hblk hnx
 by_cases hi : nx' < L.length
 ·obtain ⟨w0,w1,w2,w3⟩ := hcw nx' hi
  have hce : cwAt L nx' = L[nx'] := by simp [cwAt,hi]
  rw [hce]
  unfold cwV
  obtain ⟨a0,ha0⟩ : ∃ q : Int,(L[nx'].k : Int) = q := ⟨_,rfl⟩
  obtain ⟨a1,ha1⟩ : ∃ q : Int,(L[nx'].p : Int) = q := ⟨_,rfl⟩
  obtain ⟨a2,ha2⟩ : ∃ q : Int,(L[nx'].n : Int) = q := ⟨_,rfl⟩
  obtain ⟨a3,ha3⟩ : ∃ q,nmOf L[nx'].k L[nx'].t = q := ⟨_,rfl⟩
  rw [ha0] at w0 ⊢
  rw [ha1] at w1 ⊢
  rw [ha2] at w2 ⊢
  rw [ha3] at w3 ⊢
  have hlw : lb < w.heap.size := by omega
  have w0' : ∀ o,(w.alloc o).cell? ⟨lb,nx' * 4,none⟩ = _ := fun o => (World.cell?_of_block (w := w) (a := ⟨lb,nx' * 4,none⟩) (Below.heap_alloc _ o _ hlw)).trans w0
  have w1' : ∀ o,(w.alloc o).cell? ⟨lb,nx' * 4 + 1,none⟩ = _ := fun o => (World.cell?_of_block (w := w) (a := ⟨lb,nx' * 4 + 1,none⟩) (Below.heap_alloc _ o _ hlw)).trans w1
  have w2' : ∀ o,(w.alloc o).cell? ⟨lb,nx' * 4 + 2,none⟩ = _ := fun o => (World.cell?_of_block (w := w) (a := ⟨lb,nx' * 4 + 2,none⟩) (Below.heap_alloc _ o _ hlw)).trans w2
  have w3' : ∀ o,(w.alloc o).cell? ⟨lb,nx' * 4 + 3,none⟩ = _ := fun o => (World.cell?_of_block (w := w) (a := ⟨lb,nx' * 4 + 3,none⟩) (Below.heap_alloc _ o _ hlw)).trans w3
  clear hcw hce ha0 ha1 ha2 ha3
  go_enter Tryz.func314,Tryz.ntmps314
  go_upto_region 1 with fail
  go_region
  have hd : decide (L.length <= nx') = false := by simp;omega
  go_upto_region 3 with fail
  go_region
  go_wp2_with fail
  go_returns
  exact ⟨rfl,(((Below.refl _ _).alloc (Nat.le_refl _) _).drew).drew⟩
 ·have hce : cwAt L nx' = ⟨0,0,0,⟨#[]⟩⟩ := by simp [cwAt,hi]
  rw [hce]
  unfold cwV
  clear hcw hce
  go_enter Tryz.func314,Tryz.ntmps314
  go_upto_region 1 with fail
  go_region
  have hd : decide (L.length <= nx') = true := by simp;omega
  go_wp2_with fail
  go_returns
  exact ⟨rfl,((Below.refl _ _).alloc (Nat.le_refl _) _).drew⟩
theorem fld_word0 (a b c : Int) (d : ByteArray) (w : World) : Sem.run Tryz.prog (Instr.field 294 (.agg #[.int .i64 a,.int .i64 b,.int .i64 c,.string d]) 0) w = .ok (.int .i64 a) w := by kernel_rfl
theorem fld_word1 (a b c : Int) (d : ByteArray) (w : World) : Sem.run Tryz.prog (Instr.field 294 (.agg #[.int .i64 a,.int .i64 b,.int .i64 c,.string d]) 1) w = .ok (.int .i64 b) w := by kernel_rfl
theorem fld_word3 (a b c : Int) (d : ByteArray) (w : World) : Sem.run Tryz.prog (Instr.field 294 (.agg #[.int .i64 a,.int .i64 b,.int .i64 c,.string d]) 3) w = .ok (.string d) w := by kernel_rfl
theorem word_at' {w : World} {p lb cap : Nat} {N : Int} {L : List Tok} {S : PF} {a0 a1 a2 : Int} {a3 : ByteArray} (hcv : cwV (cwAt L S.next) = .agg #[.int .i64 a0,.int .i64 a1,.int .i64 a2,.string a3]) (hL : L.length <= 100000) (hblk : w.heap[p]? = some (pfB lb L.length cap N S)) (hcap : L.length <= cap) (hcw : CW w lb L) (hlb : lb < p) :
 Calls Tryz.prog 314 #[.pointer (some ⟨p,0,none⟩)] w fun e w' => e = .returned (.agg #[.int .i64 a0,.int .i64 a1,.int .i64 a2,.string a3]) /\ Below w.heap.size w w' := by
 rw [<- hcv];exact word_any hL hblk hcap hcw hlb
theorem cwV_split (t : Tok) : ∃ a0 a1 a2 a3,cwV t = .agg #[.int .i64 a0,.int .i64 a1,.int .i64 a2,.string a3] /\ a0 = (t.k : Int) /\ a1 = (t.p : Int) := ⟨_,_,_,_,rfl,rfl,rfl⟩
set_option maxRecDepth 100000 in
theorem pkind_any {w : World} {p lb cap : Nat} {N : Int} {L : List Tok} {S : PF} {kk : Nat} (hkk : (cwAt L S.next).k = kk) (hL : L.length <= 100000) (hblk : w.heap[p]? = some (pfB lb L.length cap N S)) (hcap : L.length <= cap) (hcw : CW w lb L) (hlb : lb < p) :
 Calls Tryz.prog 248 #[.pointer (some ⟨p,0,none⟩)] w fun e w' => e = .returned (.int .i64 (kk : Nat)) /\ Below w.heap.size w w' := by
 obtain ⟨a0,a1,a2,a3,hcv,h0,hx1⟩ := cwV_split (cwAt L S.next)
 clear hx1
 rw [hkk] at h0
 subst h0
 have HCV : Hid (cwV (cwAt L S.next) = .agg #[.int .i64 (kk : Nat),.int .i64 a1,.int .i64 a2,.string a3]) := hcv
 have HBK : Hid (w.heap[p]? = some (pfB lb L.length cap N S)) := hblk
 have HCW : Hid (CW w lb L) := hcw
 clear hblk hcw hcv hkk
 have hfl := fld_word0
 go_enter Tryz.func248,Tryz.ntmps248
 go_wp2_with (go_at_call 314;refine (word_at' HCV.out hL HBK.out hcap HCW.out hlb).mono ?_;rintro _ w1 ⟨rfl,hb1⟩)
 go_ret
 exact ⟨rfl,hb1⟩
def PF.take (S : PF) : PF := { S with next := S.next + 1 }
def PF.fail (L : List Tok) (e : Int) (S : PF) : PF := { S with next := L.length,err := if S.err = 0 then e else S.err,at' := if S.err = 0 then ((cwAt L S.next).p : Nat) else S.at' }
def st4 (W : World) (r : Nat) (x0 x1 x2 x3 : Value) : World := (((W.setCell ⟨r,0,none⟩ x0).setCell ⟨r,1,none⟩ x1).setCell ⟨r,2,none⟩ x2).setCell ⟨r,3,none⟩ x3
theorem st4_at {W : World} {r : Nat} {y0 y1 y2 y3 x0 x1 x2 x3 : Value} {t : TypeId} (h : W.heap[r]? = some (.cells #[y0,y1,y2,y3] t (0,0))) : (st4 W r x0 x1 x2 x3).heap[r]? = some (.cells #[x0,x1,x2,x3] t (0,0)) := by
 have h0 := block_setCell h 0 x0
 have h1 := block_setCell h0 1 x1
 have h2 := block_setCell h1 2 x2
 have h3 := block_setCell h2 3 x3
 exact h3
theorem st4_ne {W : World} {r b : Nat} {x0 x1 x2 x3 : Value} (h : b ≠ r) : (st4 W r x0 x1 x2 x3).heap[b]? = W.heap[b]? := by
 unfold st4
 rw [Below.heap_setCell _ _ _ _ h,Below.heap_setCell _ _ _ _ h,Below.heap_setCell _ _ _ _ h,Below.heap_setCell _ _ _ _ h]
theorem st4_below {W w : World} {r B : Nat} {x0 x1 x2 x3 : Value} (h : Below B w W) (hr : B <= r) : Below B w (st4 W r x0 x1 x2 x3) := (((h.setCell (p := ⟨r,0,none⟩) hr x0).setCell (p := ⟨r,1,none⟩) hr x1).setCell (p := ⟨r,2,none⟩) hr x2).setCell (p := ⟨r,3,none⟩) hr x3
theorem take_ret {W : World} {tmps : Array Value} {r : Nat} {x0 x1 x2 x3 : Value} {Q : Ending -> World -> Prop} (ht : tmps.getD 2 undef = .pointer (some ⟨r,0,none⟩)) (hb : W.heap[r]? = some (.cells #[x0,x1,x2,x3] 294 (0,0))) (hq : Q (.returned (.agg #[x0,x1,x2,x3])) W) :
 bodyPost Tryz.prog Tryz.f254 Q Exit.ret { tmps := tmps,defers := [] } W := by
 have c0 := blk_at hb 0 rfl
 have c1 := blk_at hb 1 rfl
 have c2 := blk_at hb 2 rfl
 have c3 := blk_at hb 3 rfl
 simp only [List.getElem_toArray,List.getElem_cons_zero,List.getElem_cons_succ] at c0 c1 c2 c3
 have ht' : tmps[2]?.getD undef = .pointer (some ⟨r,0,none⟩) := by simpa using ht
 exact bodyPost_ret (v := .agg #[x0,x1,x2,x3]) (by simp [results,Tryz.results254,go_sem,ht',c0,c1,c2,c3]) rfl hq
set_option maxRecDepth 100000 in
theorem take_any {w : World} {p lb cap : Nat} {N : Int} {L : List Tok} {S : PF} (hL : L.length <= 100000) (hS : S.next <= 1000000) (hblk : w.heap[p]? = some (pfB lb L.length cap N S)) (hcap : L.length <= cap) (hcw : CW w lb L) (hlb : lb < p) :
 Calls Tryz.prog 254 #[.pointer (some ⟨p,0,none⟩)] w fun e w' => e = .returned (cwV (cwAt L S.next)) /\ w'.heap[p]? = some (pfB lb L.length cap N S.take) /\ Only p w.heap.size w w' := by
 obtain ⟨a0,a1,a2,a3,hcv,hx0,hx1⟩ := cwV_split (cwAt L S.next)
 clear hx0 hx1
 have HCV : Hid (cwV (cwAt L S.next) = .agg #[.int .i64 a0,.int .i64 a1,.int .i64 a2,.string a3]) := hcv
 rw [hcv]
 have hlt := lt_of_block hblk
 have HBK : Hid (w.heap[p]? = some (pfB lb L.length cap N S)) := hblk
 have HCW : Hid (CW w lb L) := hcw
 clear hblk hcw hcv
 go_enter Tryz.func254,Tryz.ntmps254
 go_wp2_with (go_at_call 314;refine (word_at' HCV.out hL (al_old HBK.out) hcap (HCW.out.below ((Below.refl w.heap.size w).alloc (Nat.le_refl _) _) (by omega)) hlb).mono ?_;rintro _ w1 ⟨rfl,hb1⟩;have hs1 := hb1.size;rw [World.size_alloc] at hs1;have hblk1 := blk_below (al_old HBK.out) hb1 (by simp;omega);have c1 := blk_cell hblk1 1 rfl;have f1 := blk_free hblk1 1;have hr0 := blk_below (blk_new w _) hb1 (by simp);have e0 := blk_cell hr0 0 rfl;have e1 := blk_cell hr0 1 rfl;have e2 := blk_cell hr0 2 rfl;have e3 := blk_cell hr0 3 rfl;have g0 := blk_free hr0 0;have g1 := blk_free hr0 1;have g2 := blk_free hr0 2;have g3 := blk_free hr0 3)
 have hbk0 := (Below.heap_setCell (w1.alloc (.cells #[.int .i64 a0,.int .i64 a1,.int .i64 a2,.string a3] 294 (0,0))) ⟨p,1,none⟩ (.int .i64 ((S.next : Int) + 1)) w.heap.size (by show w.heap.size ≠ p;omega)).trans (al_old hr0)
 have hbp := block_setCell (w := w1.alloc (.cells #[.int .i64 a0,.int .i64 a1,.int .i64 a2,.string a3] 294 (0,0))) (al_old hblk1) 1 (.int .i64 ((S.next : Int) + 1))
 have hA : Only p w.heap.size w w1 := Only.of ((((Below.refl w.heap.size w).alloc (Nat.le_refl _) _)).trans (hb1.mono (by simp))) (by omega)
 have hB1 : Below p w ((w1.alloc (.cells #[.int .i64 a0,.int .i64 a1,.int .i64 a2,.string a3] 294 (0,0))).setCell ⟨p,1,none⟩ (.int .i64 ((S.next : Int) + 1))) := (hA.below.alloc (by omega) _).setCell (Nat.le_refl _) _
 have hB2 : ∀ b,b < w.heap.size -> b ≠ p -> ((w1.alloc (.cells #[.int .i64 a0,.int .i64 a1,.int .i64 a2,.string a3] 294 (0,0))).setCell ⟨p,1,none⟩ (.int .i64 ((S.next : Int) + 1))).heap[b]? = w.heap[b]? := fun b h1 h2 => by
  rw [Below.heap_setCell _ _ _ _ h2,Below.heap_alloc _ _ _ (by omega)]
  exact hA.rest b h1 h2
 clear hblk1 hr0 hb1 hA e0 e1 e2 e3 g0 g1 g2 g3 c1 f1
 generalize (w1.alloc (.cells #[.int .i64 a0,.int .i64 a1,.int .i64 a2,.string a3] 294 (0,0))).setCell ⟨p,1,none⟩ (.int .i64 ((S.next : Int) + 1)) = W at hbk0 hbp hB1 hB2 ⊢
 refine take_ret rfl (st4_at hbk0) ⟨rfl,?_,?_⟩
 ·exact (st4_ne (by omega)).trans hbp
 ·exact ⟨st4_below hB1 (by omega),fun b h1 h2 => (st4_ne (by omega)).trans (hB2 b h1 h2)⟩
set_option maxRecDepth 100000 in
theorem fail_any {w : World} {p lb cap : Nat} {N e : Int} {L : List Tok} {S : PF} (hL : L.length <= 100000) (hblk : w.heap[p]? = some (pfB lb L.length cap N S)) (hcap : L.length <= cap) (hcw : CW w lb L) (hlb : lb < p) :
 Calls Tryz.prog 253 #[.pointer (some ⟨p,0,none⟩),.int .i64 e] w fun r w' => (∃ u,r = .returned u) /\ w'.heap[p]? = some (pfB lb L.length cap N (S.fail L e)) /\ Only p w.heap.size w w' := by
 obtain ⟨a0,a1,a2,a3,hcv,hx0,hx1⟩ := cwV_split (cwAt L S.next)
 have HCV : Hid (cwV (cwAt L S.next) = .agg #[.int .i64 a0,.int .i64 a1,.int .i64 a2,.string a3]) := hcv
 have HX1 : Hid (a1 = ((cwAt L S.next).p : Int)) := hx1
 have hlt := lt_of_block hblk
 have HBK : Hid (w.heap[p]? = some (pfB lb L.length cap N S)) := hblk
 have HCW : Hid (CW w lb L) := hcw
 have c0 := blk_at hblk 0 rfl
 have c1 := blk_at hblk 1 rfl
 have c5 := blk_at hblk 5 rfl
 have c6 := blk_at hblk 6 rfl
 have f1 := blk_at_f hblk 1
 have f5 := blk_at_f hblk 5
 have f6 := blk_at_f hblk 6
 simp only [List.getElem_toArray,List.getElem_cons_zero,List.getElem_cons_succ] at c0 c1 c5 c6
 have hfl := fld_word1
 clear hblk hcw hcv hx0 hx1
 by_cases he : S.err = 0
 ·have HE : Hid (S.err = 0) := he
  rw [he] at c5
  clear he
  have hbe := block_setCell HBK.out 5 (.int .i64 e)
  go_enter Tryz.func253,Tryz.ntmps253
  go_wp2_with (go_at_call 314;refine (word_at' (S := { S with err := e }) HCV.out hL hbe hcap (HCW.out.below (below_set w p 5 _) hlb) hlb).mono ?_;rintro _ w1 ⟨rfl,hb1⟩;have hs1 := hb1.size;rw [size_setCell] at hs1;have hb2 := blk_below hbe hb1 (by rw [size_setCell];omega);have q0 := blk_at hb2 0 rfl;have q1 := blk_at hb2 1 rfl;have q6 := blk_at hb2 6 rfl;have z1 := blk_at_f hb2 1;have z6 := blk_at_f hb2 6)
  go_returns
  refine ⟨⟨_,rfl⟩,?_,?_⟩
  ·have h := block_setCell (block_setCell hb2 6 (.int .i64 a1)) 1 (.int .i64 L.length)
   have e1 : S.fail L e = { S with next := L.length,err := e,at' := a1 } := by
    unfold PF.fail
    rw [if_pos HE.out,if_pos HE.out,<- HX1.out]
   rw [e1]
   exact h
  ·have hA : Only p w.heap.size w (w.setCell ⟨p,5,none⟩ (.int .i64 e)) := Only.sole ((Sole.refl p w).set _)
   have hB : Only p w.heap.size w w1 := hA.trans (Only.of (by have := hb1;rw [size_setCell] at this;exact this) (by omega))
   exact hB.trans (Only.sole (((Sole.refl p w1).set _).set _))
 ·have he' : (S.err == 0) = false := by simpa using he
  have HE : Hid (¬ S.err = 0) := he
  clear he
  go_enter Tryz.func253,Tryz.ntmps253
  go_wp2_with fail
  go_returns
  refine ⟨⟨_,rfl⟩,?_,Only.sole ((Sole.refl p w).set _)⟩
  have h := block_setCell HBK.out 1 (.int .i64 L.length)
  have e1 : S.fail L e = { S with next := L.length } := by
   unfold PF.fail
   rw [if_neg HE.out,if_neg HE.out]
  rw [e1]
  exact h
end Go.Proofs.YtmkdoejpgkgpbaaGreatDoor
