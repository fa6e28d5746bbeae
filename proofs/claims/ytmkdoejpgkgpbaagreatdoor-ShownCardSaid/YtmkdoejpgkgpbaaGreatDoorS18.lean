import Derived.Test.YtmkdoejpgkgpbaaGreatDoorS17
set_option linter.unusedVariables false
set_option linter.unusedSimpArgs false
set_option maxHeartbeats 20000000
namespace Go.Proofs.YtmkdoejpgkgpbaaGreatDoor
open Go.RowKit Sl
def OKm : Nat -> Int -> List Tok -> G -> Prop
 | 0,_,L,g => TreeOK L g
 | 1,p,L,g => SubOK 119 p L g
 | 2,p,L,g => SubOK 189 p L g
 | _,p,L,g => SubOK 263 p L g
def OKms (m : Nat) : List (List Tok) -> List G -> Prop
 | [],[] => True
 | L :: r,g :: gs => OKm m (tokAt L 0).p L g /\ OKms m r gs
 | _,_ => False
theorem okms_oks {L : List Tok} : ∀ {ls : List (Nat × Nat)} {gs : List G},OKms 0 (ls.map (fun q => cutL L q.1 q.2)) gs -> OKs L ls gs := by
 intro ls
 induction ls with
 | nil => intro gs h;cases gs with | nil => trivial | cons => exact h.elim
 | cons q ls ih => intro gs h;cases gs with | nil => exact h.elim | cons g gs => exact ⟨h.1,ih h.2⟩
theorem okms_ops {L : List Tok} : ∀ {ls : List (Nat × Nat)} {gs : List G},OKms 2 (ls.map (fun q => cutL L q.1 q.2)) gs -> OPs L ls gs := by
 intro ls
 induction ls with
 | nil => intro gs h;cases gs with | nil => trivial | cons => exact h.elim
 | cons q ls ih => intro gs h;cases gs with | nil => exact h.elim | cons g gs => exact ⟨h.1,ih h.2⟩
theorem spl4 {L : List Tok} (h0 : spl 26 L = 0) (h1 : spl 27 L = 0) (h2 : spl 30 L = 0) (h3 : spl 32 L = 0) : ∀ d,d < 4 -> spl (clsN d) L = 0
 | 0,_ => h0
 | 1,_ => h1
 | 2,_ => h2
 | 3,_ => h3
mutual
theorem tg_ok : ∀ {m : Nat} {p : Int} {L : List Tok} {g : G},TG m p L g -> OKm m p L g
 | _,_,_,_,.lt h0 he hi h1 h2 h3 h4 h5 h6 h7 ha hb => tree_let h0 (by omega) (letTree_lt he hi h1 h4 h3 h5 h6 h7 (tg_ok ha) (tg_ok hb))
 | _,_,_,_,.rc h0 he hi h1 h2 h3 h4 h5 h6 ha hb => tree_let h0 (by omega) (letTree_rc he hi h1 h4 h3 h5 h6 (tg_ok ha) (tg_ok hb))
 | _,_,_,_,.pr h0 he hi h1 h2 h3 h4 h5 h6 ha hb => tree_let h0 (by omega) (letTree_pr he hi h1 h4 h3 h5 h6 (tg_ok ha) (tg_ok hb))
 | _,_,_,_,.iff h0 hi hj h1 h2 h3 ha hb hc => tree_iff h0 hi hj h1 h2 h3 (tg_ok ha) (tg_ok hb) (tg_ok hc)
 | _,_,_,_,.fn h0 hi h1 h3 hb => tree_fn h0 hi h1 h3 (tg_ok hb)
 | _,_,_,_,.sq h3 h6 h9 hi h1 h2 ha hb => tree_sq (c := 0) (by omega) rfl h3 h6 h9 (fun d hd => by omega) hi h1 h2 (tg_ok ha) (tg_ok hb)
 | _,_,_,_,.cm h3 h6 h9 z0 hi h1 h2 ha hb => tree_op (c := 1) (by omega) (by omega) h3 h6 h9 (fun d hd => match d,hd with | 0,_ => z0) hi h1 h2 (tg_ok ha) (tg_ok hb)
 | _,_,_,_,.su h3 h6 h9 z0 z1 hi h1 h2 ha hb => tree_op (c := 2) (by omega) (by omega) h3 h6 h9 (fun d hd => match d,hd with | 0,_ => z0 | 1,_ => z1) hi h1 h2 (tg_ok ha) (tg_ok hb)
 | _,_,_,_,.po h3 h6 h9 z0 z1 z2 hi h1 h2 ha hb => tree_op (c := 3) (by omega) (by omega) h3 h6 h9 (fun d hd => match d,hd with | 0,_ => z0 | 1,_ => z1 | 2,_ => z2) hi h1 h2 (tg_ok ha) (tg_ok hb)
 | _,_,_,_,.ng h0 z0 z1 z2 z3 hl ha => tree_ng h0 (spl4 z0 z1 z2 z3) hl (tg_ok ha)
 | _,_,_,_,.nt h0 z0 z1 z2 z3 hl ha => tree_nt h0 (spl4 z0 z1 z2 z3) hl (tg_ok ha)
 | _,_,_,_,.ca h3 h6 h9 h31 h10 z0 z1 z2 z3 hl ha => tree_ca h3 h6 h9 h31 h10 (spl4 z0 z1 z2 z3) hl (tg_ok ha)
 | _,_,_,_,.wd hw hl hs => call_wd hw hl (okms_ops (tgs_ok hs))
 | _,_,_,_,.o1 hw hl h1 h => call_o1 hw hl h1 (tg_ok h)
 | _,_,_,_,.cl hw hl h1 hs => call_cl hw hl h1 (okms_ops (tgs_ok hs))
 | _,_,_,_,.gt hx h1 h2 ha hb => opd_gt hx h1 h2 (tg_ok ha) (tg_ok hb)
 | _,_,_,_,.nu hx hl h0 hv hvs => opd_nu hx h0 hv hvs hl
 | _,_,_,_,.tr hx hl h0 => opd_tr hx h0 hl
 | _,_,_,_,.fa hx hl h0 => opd_fa hx h0 hl
 | _,_,_,_,.rd hx hl h0 => opd_rd hx h0 hl
 | _,_,_,_,.vr hx hl h0 => opd_vr hx h0 hl
 | _,_,_,_,.bk hx hl h0 hs => opd_bk hx h0 hl (tg_ok hs)
 | _,_,_,_,.un => brk_un
 | _,p,L,g,.on hl hc h => (by
  have h2 : (cmL L).2 = 0 := by rw [hc]
  have h1 : OKs L (cmL L).1 [] := by rw [hc];trivial
  exact brk_any (gs := []) hl hl h2 h1 (by rw [List.drop_zero];exact tg_ok h))
 | _,p,L,_,.tu hl hn hlt hs h => (by
  have := brk_any (p := p) hl hlt rfl (okms_oks (tgs_ok hs)) (tg_ok h)
  unfold tupR at this
  rw [if_neg hn] at this
  exact this)
theorem tgs_ok : ∀ {m : Nat} {ls : List (List Tok)} {gs : List G},TGs m ls gs -> OKms m ls gs
 | _,_,_,.nil => trivial
 | _,_,_,.cons hl h hs => ⟨tg_ok h,tgs_ok hs⟩
end
theorem tree_any {L : List Tok} {p : Int} {g : G} (h : TG 0 p L g) : TreeOK L g := tg_ok h
mutual
def er : G -> G
 | .nd f _ n x xs ks => .nd f 0 n x xs (ers ks)
def ers : List G -> List G
 | [] => []
 | g :: r => er g :: ers r
end
theorem ers_app : ∀ a b : List G,ers (a ++ b) = ers a ++ ers b
 | [],_ => rfl
 | x :: a,b => by rw [List.cons_append,ers,ers,ers_app a b];rfl
def txs : T -> List ByteArray
 | .nd _ _ _ _ xs _ => xs
def patNames : List T -> List ByteArray
 | [] => []
 | c :: _ => txs c
def gNode (k s n : Nat) (xs : List ByteArray) (pn : List ByteArray) (ks : List G) : G :=
 match k with
 | 1 => .nd f_num 0 n f_0 [] []
 | 2 => .nd f_bool 0 1 f_0 [] []
 | 3 => .nd f_bool 0 0 f_0 [] []
 | 4 => .nd f_read 0 0 f_0 [] []
 | 5 => .nd f_var 0 0 (xs.headD f_0) [] []
 | 6 => .nd f_unit 0 0 f_0 [] []
 | 7 => .nd f_tuple 0 0 f_0 [] ks
 | 8 => .nd f_let 0 0 (xs.headD f_0) [] ks
 | 9 => .nd f_rec 0 0 (xs.headD f_0) xs.tail ks
 | 10 => .nd f_pair 0 0 f_0 pn ks.tail
 | 11 => .nd f_if 0 0 f_0 [] ks
 | 12 => .nd f_fun 0 0 f_0 xs ks
 | 13 => .nd f_neg 0 0 f_0 [] ks
 | 14 => .nd f_not 0 0 f_0 [] ks
 | 15 | 16 | 17 => .nd f_op 0 0 (nameK s) [] ks
 | 18 => .nd f_seq 0 0 f_0 [] ks
 | 19 => .nd f_call 0 0 f_0 [] ks
 | 20 => .nd f_get 0 0 f_0 [] ks
 | 21 => .nd (nameK 14) 0 0 f_0 [] ks
 | 22 => .nd (nameK 15) 0 0 f_0 [] ks
 | 23 => .nd (nameK 16) 0 0 f_0 [] ks
 | 24 => .nd (nameK 17) 0 0 f_0 [] ks
 | _ => .nd f_0 0 0 f_0 [] []
mutual
def gt : T -> G
 | .nd _ k s n xs kids => gNode k s n xs (patNames kids) (gts kids)
def gts : List T -> List G
 | [] => []
 | c :: r => gt c :: gts r
end
theorem gt_br (b b' k s n : Nat) (xs : List ByteArray) (kids : List T) : gt (.nd b k s n xs kids) = gt (.nd b' k s n xs kids) := rfl
def gd (t : Tok) : Prop := okTok t /\ (t.k = 1 -> numV t.t = some t.n /\ t.t.size <= 1000)
theorem tks_cut (L : List Tok) (i j : Nat) : tks (cutL L i j) = ((tks L).drop i).take (j - i) := by
 unfold tks cutL;rw [List.map_take,List.map_drop]
theorem tks_dr (L : List Tok) (i : Nat) : tks (L.drop i) = (tks L).drop i := by unfold tks;rw [List.map_drop]
theorem tks_len (L : List Tok) : (tks L).length = L.length := by unfold tks;rw [List.length_map]
theorem kdAt_tks {L : List Tok} {x y : List Tk} {t : Tk} (h : tks L = x ++ t :: y) : kdAt L x.length = t.k := by
 have hl : x.length < L.length := by rw [<- tks_len,h];simp
 have : (tks L)[x.length]? = some t := by rw [h];simp
 unfold tks at this
 rw [List.getElem?_map,List.getElem?_eq_getElem hl] at this
 simp at this
 rw [kdAt_eq L _ hl,<- this];rfl
theorem kdAt_tks0 {L : List Tok} {y : List Tk} {t : Tk} (h : tks L = t :: y) : kdAt L 0 = t.k := kdAt_tks (x := []) h
theorem tokAt_tk {L : List Tok} {x y : List Tk} {t : Tk} (h : tks L = x ++ t :: y) : (tokAt L x.length).tk = t := by
 have hl : x.length < L.length := by rw [<- tks_len,h];simp
 have : (tks L)[x.length]? = some t := by rw [h];simp
 unfold tks at this
 rw [List.getElem?_map,List.getElem?_eq_getElem hl] at this
 simp at this
 rw [tokAt_eq hl,<- this]
theorem tokAt_mem {L : List Tok} {i : Nat} (h : i < L.length) : tokAt L i ∈ L := by rw [tokAt_eq h];simp
theorem cut_at {L : List Tok} {x y : List Tk} {t : Tk} (h : tks L = x ++ t :: y) : tks (cutL L 0 x.length) = x /\ tks (L.drop (x.length + 1)) = y := by
 rw [tks_cut,tks_dr,h];simp
theorem nameK_far {k : Nat} (h : 35 <= k) : nameK k = ⟨#[]⟩ := by
 unfold nameK kName
 rw [if_neg (by omega),if_neg (by omega),if_neg (by omega),txt_far k h]
theorem hit26 : hitS 26 = fun _ k => k == 26 := by
 funext p k
 unfold hitS
 rw [if_pos rfl]
 by_cases h : k < 35
 ·rw [nk26 h];by_cases e : k = 26 <;> simp [e]
 ·rw [nameK_far (by omega),toL []]
  have : ¬ k = 26 := by omega
  simp [this]
theorem hit27 : hitS 27 = fun _ k => isCmp k := by
 funext p k
 unfold hitS
 rw [if_neg (by omega),if_pos rfl]
 by_cases h : k < 35
 ·exact cmpS_k h
 ·rw [nameK_far (by omega)]
  have e : isCmp k = false := by simp [isCmp];omega
  rw [e]
  unfold cmpS
  rw [toL []];rfl
theorem hit30 : hitS 30 = pSum := by
 funext p k
 unfold hitS pSum
 rw [if_neg (by omega),if_neg (by omega),if_pos rfl]
 by_cases h : k < 35
 ·rw [nk30 h,nk31 h]
  by_cases e1 : k = 30 <;> by_cases e2 : k = 31 <;> simp [isSum,e1,e2]
 ·rw [nameK_far (by omega),toL []]
  have e : isSum k = false := by simp [isSum];omega
  rw [e];rfl
theorem hit32 : hitS 32 = fun _ k => isPro k := by
 funext p k
 unfold hitS
 rw [if_neg (by omega),if_neg (by omega),if_neg (by omega)]
 by_cases h : k < 35
 ·rw [nk32 h,nk33 h,nk34 h]
  by_cases e1 : k = 32 <;> by_cases e2 : k = 33 <;> by_cases e3 : k = 34 <;> simp [isPro,e1,e2,e3]
 ·rw [nameK_far (by omega),toL []]
  have e : isPro k = false := by simp [isPro];omega
  rw [e];rfl
theorem spl_zero {cls : Nat} {L : List Tok} {x : List Tk} (hx : tks L = x) (hb : dep 0 x = some 0) (hh : pos (hitS cls) 0 0 0 x = []) : spl cls L = 0 := spl_pos hx hb hh (by simp)
theorem spl_first {L : List Tok} {x : List Tk} {i : Nat} {r : List Nat} (hx : tks L = x) (hb : dep 0 x = some 0) (hh : pos (hitS 26) 0 0 0 x = i :: r) (hi : 1 <= i) (hr : ∀ h ∈ r,1 <= h) : spl 26 L = i := by
 rw [spl_pos hx hb hh (by intro h hm;rcases List.mem_cons.1 hm with rfl | hm;exact hi;exact hr h hm)]
 have : ∀ (r : List Nat) (i : Nat),1 <= i -> r.foldl (stp 26) i = i := by
  intro r
  induction r with
  | nil => intro i _;rfl
  | cons a r ih =>
    intro i hi
    rw [List.foldl_cons]
    have : stp 26 i a = i := by unfold stp;rw [if_neg (by intro h;have := h rfl;omega)]
    rw [this,ih i hi]
 rw [List.foldl_cons]
 have e : stp 26 0 i = i := by unfold stp;rw [if_pos (fun _ => rfl)]
 rw [e,this r i hi]
theorem spl_last {cls : Nat} {L : List Tok} {x : List Tk} {i : Nat} {r : List Nat} (hc : cls ≠ 26) (hx : tks L = x) (hb : dep 0 x = some 0) (hh : pos (hitS cls) 0 0 0 x = r ++ [i]) (hi : 1 <= i) (hr : ∀ h ∈ r,1 <= h) : spl cls L = i := by
 rw [spl_pos hx hb hh (by intro h hm;rcases List.mem_append.1 hm with hm | hm;exact hr h hm;simp at hm;omega),List.foldl_append]
 show stp cls _ i = i
 unfold stp
 rw [if_pos (fun h => absurd h hc)]
theorem pos_ge (P : Nat -> Nat -> Bool) : ∀ (x : List Tk) (d p i : Nat),∀ h ∈ pos P d p i x,i <= h /\ h < i + x.length := by
 intro x
 induction x with
 | nil => intro d p i h hh;simp [pos] at hh
 | cons t r ih =>
   intro d p i h hh
   simp only [pos,List.mem_append] at hh
   rcases hh with hh | hh
   ·simp only [List.mem_ite_nil_right,List.mem_singleton] at hh
    have := hh.2
    simp only [List.length_cons];omega
   ·have := ih _ _ _ h hh
    simp only [List.length_cons];omega
def hk : List Tk -> Nat
 | [] => 0
 | t :: _ => t.k
theorem hk_app {x : List Tk} (h : x ≠ []) (y : List Tk) : hk (x ++ y) = hk x := by cases x with | nil => exact absurd rfl h | cons t r => rfl
theorem hk_kd {L : List Tok} {x : List Tk} (h : tks L = x) : kdAt L 0 = hk x := by
 subst h
 cases L with
 | nil => rfl
 | cons t r => rfl
theorem hk_rank : ∀ (m : Nat) (c : T),SizeOf.sizeOf c <= m -> wf c -> c.k ≠ 25 -> 1 <= rkT c -> (hk (fl c) ≠ 3 /\ hk (fl c) ≠ 6 /\ hk (fl c) ≠ 9) /\ (5 <= rkT c -> hk (fl c) ≠ 31 /\ hk (fl c) ≠ 10) /\ (6 <= rkT c -> wordK (hk (fl c)) = false) := by
 intro m
 induction m with
 | zero => intro c h;cases c;simp at h
 | succ m ih =>
   intro c hs hw h25 hr
   cases c with
   | nd b k s n xs kids =>
     have hw0 := hw
     rw [wf] at hw
     rw [fl_eq]
     cases b with
     | succ b => rw [List.replicate_succ];simp [hk,Tk.of,wordK]
     | zero =>
       rw [rkT,if_neg (by omega)] at hr ⊢
       simp only [List.replicate_zero,List.nil_append,List.append_nil]
       have hk7 : k ≠ 7 := fun e => by have := hw.2.1 e;omega
       have hk25 : k ≠ 25 := h25
       by_cases hp : pre k s n xs = []
       ·have h2 := two_kids hw.1 hp
        match kids,h2,hw,hs with
        | a :: q,_,hw,hs =>
          have wa := hw.2.2.2.1
          have ra := hw.2.2.2.2.1
          have a25 : a.k ≠ 25 := fun e => by
           have := (hw.2.2.2.2.2.1.1 e).1
           subst this
           simp [pre] at hp
          have hne := (fl_bal a (wf_fine a wa)).ne
          have e : bod k s n xs (a :: q) = fl a ++ (flk k s 1 q ++ post k) := by simp [bod,hp,flk,sep]
          rw [e,hk_app hne]
          have h18 : k ≠ 18 := fun e => by subst e;simp [rk] at hr
          have hk' : k = 15 \/ k = 16 \/ k = 17 \/ k = 19 \/ k = 20 := by
           have ha := hw.1
           unfold arB at ha
           unfold pre at hp
           split at ha <;> first
            | omega
            | (simp at hp;done)
            | (simp at ha;done)
            | (exfalso;simp at hp;subst hp;simp at ha;done)
          have hi := ih a (by simp at hs;omega) wa a25
          rcases hk' with rfl | rfl | rfl | rfl | rfl
          ·have h3 : 3 <= rkT a := ra
           obtain ⟨i1,_,_⟩ := hi (by omega)
           exact ⟨i1,fun h => by simp [rk] at h,fun h => by simp [rk] at h⟩
          ·have h3 : 2 <= rkT a := ra
           obtain ⟨i1,_,_⟩ := hi (by omega)
           exact ⟨i1,fun h => by simp [rk] at h,fun h => by simp [rk] at h⟩
          ·have h3 : 2 <= rkT a := ra
           obtain ⟨i1,_,_⟩ := hi (by omega)
           exact ⟨i1,fun h => by simp [rk] at h,fun h => by simp [rk] at h⟩
          ·have h3 : 6 <= rkT a := ra
           obtain ⟨i1,i2,i3⟩ := hi (by omega)
           exact ⟨i1,fun h => i2 (by omega),fun _ => i3 h3⟩
          ·have h3 : 6 <= rkT a := ra
           obtain ⟨i1,i2,i3⟩ := hi (by omega)
           exact ⟨i1,fun h => i2 (by omega),fun _ => i3 h3⟩
       ·unfold bod
        rw [hk_app hp]
        have ha := hw.1
        unfold arB at ha
        unfold pre at hp ⊢
        split at ha <;> first
         | (exfalso;omega)
         | (simp [rk] at hr;done)
         | (simp [hk,Tk.of,nuTk,wordK,rk];done)
         | (exfalso;simp at ha;done)
         | (simp at ha;match xs,ha with | [x],_ => (simp [hk,nmTk,wordK]))
         | (exfalso;exact hp rfl)
def Res (c : T) (L : List Tok) : Prop := (∀ p,∃ g,TG 0 p L g /\ er g = gt c) /\ (6 <= rkT c -> ∀ p,∃ g,TG 2 p L g /\ er g = gt c)
def IHk (kids : List T) : Prop := ∀ c ∈ kids,c.k ≠ 25 -> ∀ L',tks L' = fl c -> (∀ t ∈ L',gd t) -> Res c L'
theorem gd_cut {L : List Tok} (h : ∀ t ∈ L,gd t) (i j : Nat) : ∀ t ∈ cutL L i j,gd t := fun t ht => h t (List.mem_of_mem_drop (List.mem_of_mem_take ht))
theorem gd_drop {L : List Tok} (h : ∀ t ∈ L,gd t) (i : Nat) : ∀ t ∈ L.drop i,gd t := fun t ht => h t (List.mem_of_mem_drop ht)
theorem fl_dep {c : T} (hw : wf c) : dep 0 (fl c) = some 0 := (fl_bal c (wf_fine c hw)).dep 0
theorem fl_ne {c : T} (hw : wf c) : fl c ≠ [] := (fl_bal c (wf_fine c hw)).ne
theorem fl_pos {c : T} (hw : wf c) : 1 <= (fl c).length := by
 have := fl_ne hw
 cases h : fl c with
 | nil => exact absurd h this
 | cons t r => simp
theorem z26 {c : T} {L : List Tok} (hL : tks L = fl c) (hw : wf c) (hr : 1 <= rkT c) : spl 26 L = 0 := spl_zero hL (fl_dep hw) (by rw [hit26];exact no_semi hw hr 0 0)
theorem z27 {c : T} {L : List Tok} (hL : tks L = fl c) (hw : wf c) (hr : 2 <= rkT c) : spl 27 L = 0 := spl_zero hL (fl_dep hw) (by rw [hit27];exact no_cmp hw hr 0 0)
theorem z30 {c : T} {L : List Tok} (hL : tks L = fl c) (hw : wf c) (h25 : c.k ≠ 25) (hr : 3 <= rkT c) : spl 30 L = 0 := spl_zero hL (fl_dep hw) (by rw [hit30];exact no_sum _ c (Nat.le_refl _) hw h25 hr 0 0 (.inr rfl))
theorem z32 {c : T} {L : List Tok} (hL : tks L = fl c) (hw : wf c) (hr : 4 <= rkT c) : spl 32 L = 0 := spl_zero hL (fl_dep hw) (by rw [hit32];exact no_pro hw hr 0 0)
theorem len_pos {c : T} {L : List Tok} (hL : tks L = fl c) (hw : wf c) : 0 < L.length := by
 have := fl_pos hw
 rw [<- hL,tks_len] at this
 exact this
theorem ca_of {c : T} {L : List Tok} {g : G} (hw : wf c) (h25 : c.k ≠ 25) (hr : 5 <= rkT c) (hL : tks L = fl c) (h : TG 1 (tokAt L 0).p L g) (p : Int) : TG 0 p L g := by
 obtain ⟨⟨h3,h6,h9⟩,h2,_⟩ := hk_rank _ c (Nat.le_refl _) hw h25 (by omega)
 obtain ⟨h31,h10⟩ := h2 hr
 rw [<- hk_kd hL] at h3 h6 h9 h31 h10
 exact .ca h3 h6 h9 h31 h10 (z26 hL hw (by omega)) (z27 hL hw (by omega)) (z30 hL hw h25 (by omega)) (z32 hL hw (by omega)) (len_pos hL hw) h
theorem o1_of {c : T} {L : List Tok} {g : G} (hw : wf c) (h25 : c.k ≠ 25) (hr : 6 <= rkT c) (hL : tks L = fl c) {p : Int} (h : TG 2 p L g) : TG 1 p L g := by
 obtain ⟨_,_,h3⟩ := hk_rank _ c (Nat.le_refl _) hw h25 (by omega)
 have hwd := h3 hr
 rw [<- hk_kd hL] at hwd
 have := op_pos (hs := []) hL (fl_dep hw) (opd_start _ c (Nat.le_refl _) hw h25 hr 0 0) (by simp)
 exact .o1 hwd (len_pos hL hw) (by rw [this];rfl) h
theorem res_opd {c : T} {L : List Tok} (hw : wf c) (h25 : c.k ≠ 25) (hr : 6 <= rkT c) (hL : tks L = fl c) (h : ∀ p,∃ g,TG 2 p L g /\ er g = gt c) : Res c L := by
 refine ⟨fun p => ?_,fun _ => h⟩
 obtain ⟨g,h1,h2⟩ := h (tokAt L 0).p
 exact ⟨g,ca_of hw h25 (by omega) hL (o1_of hw h25 hr hL h1) p,h2⟩
theorem res_low {c : T} {L : List Tok} (hr : rkT c < 6) (h : ∀ p,∃ g,TG 0 p L g /\ er g = gt c) : Res c L := ⟨h,fun h6 => by omega⟩
def cp : Nat -> List T -> List Nat
 | _,[] => []
 | e,c :: r => e :: cp (e + 1 + (fl c).length) r
theorem cp_pos (s : Nat) : ∀ (r : List T) (j i p : Nat),(∀ c ∈ r,wf c /\ c.k ≠ 25) -> pos (fun _ k => k == 25) 0 p i (flk 7 s (j + 1) r) = cp i r
 | [],j,i,p,_ => rfl
 | c :: r,j,i,p,h => by
   have hc := h c (by simp)
   rw [flk,cp,show sep 7 s (j + 1) = [Tk.of 25] from rfl,List.singleton_append,pos_one _ (by decide) (by decide) (by decide),(fl_bal c (wf_fine c hc.1)).pos,no_com hc.1 (fun e => absurd e hc.2) _ _,cp_pos s r (j + 1) _ _ (fun d hd => h d (by simp [hd]))]
   simp [Tk.of]
theorem take_app {x y : List Tk} : (x ++ y).take x.length = x := by simp
theorem tup (L : List Tok) (hg : ∀ t ∈ L,gd t) (s : Nat) : ∀ (r : List T) (c0 : T) (f j : Nat),wf c0 -> tks (L.drop f) = fl c0 ++ flk 7 s (j + 1) r -> (∀ c ∈ c0 :: r,∀ L',tks L' = fl c -> (∀ t ∈ L',gd t) -> Res c L') -> (∀ c ∈ r,wf c) ->
 ∃ gs g,TGs 0 ((cms f (cp (f + (fl c0).length) r)).1.map (fun q => cutL L q.1 q.2)) gs /\ TG 0 0 (L.drop (cms f (cp (f + (fl c0).length) r)).2) g /\ ers (gs ++ [g]) = gts (c0 :: r) /\ (cms f (cp (f + (fl c0).length) r)).2 < L.length /\ f <= (cms f (cp (f + (fl c0).length) r)).2 /\ (r ≠ [] -> f < (cms f (cp (f + (fl c0).length) r)).2)
 | [],c0,f,j,hw0,hL,hR,_ => by
   rw [flk,List.append_nil] at hL
   obtain ⟨g,h1,h2⟩ := (hR c0 (by simp) (L.drop f) hL (gd_drop hg f)).1 0
   have hl := len_pos hL hw0
   rw [List.length_drop] at hl
   refine ⟨[],g,.nil,h1,?_,?_,Nat.le_refl _,fun h => absurd rfl h⟩
   ·show [er g] = [gt c0];rw [h2]
   ·show f < L.length;omega
 | c1 :: r,c0,f,j,hw0,hL,hR,hw => by
   have hL0 := hL
   rw [flk,show sep 7 s (j + 1) = [Tk.of 25] from rfl,List.singleton_append] at hL
   have hlen : (L.drop f).length = (fl c0).length + (1 + ((fl c1).length + (flk 7 s (j + 1 + 1) r).length)) := by
    rw [<- tks_len,hL];simp;omega
   rw [List.length_drop] at hlen
   have hc0 := fl_pos hw0
   have hcut : tks (cutL L f (f + (fl c0).length)) = fl c0 := by
    rw [tks_cut,<- tks_dr,hL,Nat.add_sub_cancel_left,take_app]
   have hrest : tks (L.drop (f + (fl c0).length + 1)) = fl c1 ++ flk 7 s (j + 1 + 1) r := by
    rw [show f + (fl c0).length + 1 = f + ((fl c0).length + 1) by omega,<- List.drop_drop,tks_dr,hL]
    simp
   obtain ⟨gs,g,i1,i2,i3,i4,i5,i6⟩ := tup L hg s r c1 (f + (fl c0).length + 1) (j + 1) (hw c1 (by simp)) hrest (fun c hc => hR c (by simp at hc ⊢;exact .inr hc)) (fun c hc => hw c (by simp [hc]))
   obtain ⟨g0,h1,h2⟩ := (hR c0 (by simp) _ hcut (gd_cut hg _ _)).1 (tokAt (cutL L f (f + (fl c0).length)) 0).p
   refine ⟨g0 :: gs,g,?_,i2,?_,i4,?_,fun _ => ?_⟩
   ·exact .cons (by rw [<- tks_len,hcut];omega) h1 i1
   ·rw [List.cons_append,ers,h2,i3,gts];rfl
   ·have := i5;show f <= (cms (f + (fl c0).length + 1) _).2;omega
   ·have := i5;show f < (cms (f + (fl c0).length + 1) _).2;omega
def st : Nat -> List T -> List Nat
 | _,[] => []
 | i,c :: r => i :: st (i + (fl c).length) r
theorem st_pos {k s : Nat} (hsep : ∀ i,sep k s i = []) : ∀ (r : List T) (j i p : Nat),(∀ c ∈ r,wf c /\ c.k ≠ 25 /\ 6 <= rkT c) -> pos pOpd 0 p i (flk k s j r) = st i r
 | [],j,i,p,_ => rfl
 | c :: r,j,i,p,h => by
   have hc := h c (by simp)
   rw [flk,st,hsep,List.nil_append,(fl_bal c (wf_fine c hc.1)).pos,opd_start _ c (Nat.le_refl _) hc.1 hc.2.1 hc.2.2,st_pos hsep r (j + 1) _ _ (fun d hd => h d (by simp [hd]))]
   rfl
theorem ops {k s : Nat} (hsep : ∀ i,sep k s i = []) (L : List Tok) (hg : ∀ t ∈ L,gd t) : ∀ (r : List T) (c0 : T) (f j : Nat),tks (L.drop f) = fl c0 ++ flk k s (j + 1) r -> (∀ c ∈ c0 :: r,wf c /\ 6 <= rkT c /\ ∀ L',tks L' = fl c -> (∀ t ∈ L',gd t) -> Res c L') ->
 ∃ gs,TGs 2 ((prs f (st (f + (fl c0).length) r) L.length).map (fun q => cutL L q.1 q.2)) gs /\ ers gs = gts (c0 :: r)
 | [],c0,f,j,hL,hR => by
   rw [flk,List.append_nil] at hL
   obtain ⟨hw0,hr0,hR0⟩ := hR c0 (by simp)
   have hl := len_pos hL hw0
   have hcut : tks (cutL L f L.length) = fl c0 := by
    rw [tks_cut,<- tks_dr,hL,List.take_of_length_le]
    rw [<- hL,tks_len,List.length_drop];omega
   obtain ⟨g,h1,h2⟩ := (hR0 _ hcut (gd_cut hg _ _)).2 hr0 (tokAt (cutL L f L.length) 0).p
   refine ⟨[g],.cons (by rw [<- tks_len,hcut];exact fl_pos hw0) h1 .nil,?_⟩
   show [er g] = [gt c0];rw [h2]
 | c1 :: r,c0,f,j,hL,hR => by
   obtain ⟨hw0,hr0,hR0⟩ := hR c0 (by simp)
   rw [flk,hsep,List.nil_append] at hL
   have hcut : tks (cutL L f (f + (fl c0).length)) = fl c0 := by
    rw [tks_cut,<- tks_dr,hL,Nat.add_sub_cancel_left,take_app]
   have hrest : tks (L.drop (f + (fl c0).length)) = fl c1 ++ flk k s (j + 1 + 1) r := by
    rw [<- List.drop_drop,tks_dr,hL]
    simp
   obtain ⟨gs,i1,i2⟩ := ops hsep L hg r c1 (f + (fl c0).length) (j + 1) hrest (fun c hc => hR c (by simp at hc ⊢;exact .inr hc))
   obtain ⟨g0,h1,h2⟩ := (hR0 _ hcut (gd_cut hg _ _)).2 hr0 (tokAt (cutL L f (f + (fl c0).length)) 0).p
   refine ⟨g0 :: gs,.cons (by rw [<- tks_len,hcut];exact fl_pos hw0) h1 i1,?_⟩
   rw [ers,h2,i2];rfl
theorem prs_len : ∀ (hs : List Nat) (f e : Nat),(prs f hs e).length = hs.length + 1
 | [],_,_ => rfl
 | h :: r,f,e => by rw [prs,List.length_cons,prs_len r];rfl
theorem st_len : ∀ (r : List T) (i : Nat),(st i r).length = r.length
 | [],_ => rfl
 | c :: r,i => by rw [st,List.length_cons,st_len r];rfl
theorem st_ge : ∀ (r : List T) (i : Nat),∀ h ∈ st i r,i <= h
 | [],_,h,hh => by simp [st] at hh
 | c :: r,i,h,hh => by
   rw [st,List.mem_cons] at hh
   rcases hh with rfl | hh
   ·exact Nat.le_refl _
   ·have := st_ge r _ h hh;omega
theorem opL_st {k s : Nat} (hsep : ∀ i,sep k s i = []) {L : List Tok} {c0 : T} {r : List T} {j : Nat} (hL : tks L = fl c0 ++ flk k s (j + 1) r) (hb : dep 0 (tks L) = some 0) (h : ∀ c ∈ c0 :: r,wf c /\ c.k ≠ 25 /\ 6 <= rkT c) : opL L = prs 0 (st (fl c0).length r) L.length := by
 have hc := h c0 (by simp)
 refine op_pos rfl hb ?_ (fun x hx => ?_)
 ·rw [hL,(fl_bal c0 (wf_fine c0 hc.1)).pos,opd_start _ c0 (Nat.le_refl _) hc.1 hc.2.1 hc.2.2,st_pos hsep r (j + 1) _ _ (fun d hd => h d (by simp [hd])),Nat.zero_add]
  rfl
 ·have := st_ge r _ x hx
  have := fl_pos hc.1
  omega
theorem idsF_tks (l : List Tok) : idsF l = ((tks l).filter (fun t => t.k == 2)).map Tk.x := by
 induction l with
 | nil => rfl
 | cons t r ih =>
   rw [idsF_cons]
   show _ = (List.filter _ (t.tk :: tks r)).map Tk.x
   by_cases h : t.k = 2
   ·rw [if_pos h,List.filter_cons_of_pos (by simp [Tok.tk,h]),List.map_cons,ih]
    simp [Tok.tk,h]
   ·rw [if_neg h,List.filter_cons_of_neg (by simp [Tok.tk,h]),ih]
theorem ids_names (xs : List ByteArray) : ((xs.map nmTk).filter (fun t => t.k == 2)).map Tk.x = xs := by
 induction xs with
 | nil => rfl
 | cons x r ih => rw [List.map_cons,List.filter_cons_of_pos (by simp [nmTk]),List.map_cons,ih];rfl
theorem ids_commas : ∀ (xs : List ByteArray),((commas xs).filter (fun t => t.k == 2)).map Tk.x = xs
 | [] => rfl
 | [x] => rfl
 | x :: y :: r => by
   rw [commas,List.filter_cons_of_pos (by simp [nmTk]),List.filter_cons_of_neg (by simp [Tk.of]),List.map_cons,ids_commas (y :: r)];rfl
theorem mt_hit {op cl n : Nat} {u r : List Tk} {t : Tk} (hu : Even op cl u) (ht : t.k = cl) (hn : n = 0) : mt op cl n (u ++ t :: r) = u.length := by
 subst hn
 rw [hu,Sl.mt,if_pos ht,if_pos rfl];rfl
theorem even_names {op cl : Nat} (xs : List ByteArray) (h1 : op ≠ 2) (h2 : cl ≠ 2) : Even op cl (xs.map nmTk) := even_none fun t ht => by
 have := names_kinds xs t ht
 omega
theorem commas_kinds : ∀ (xs : List ByteArray),∀ t ∈ commas xs,t.k = 2 \/ t.k = 25
 | [],t,ht => by simp [commas] at ht
 | [x],t,ht => by simp [commas] at ht;subst ht;exact .inl rfl
 | x :: y :: r,t,ht => by
   rw [commas,List.mem_cons,List.mem_cons] at ht
   rcases ht with rfl | rfl | ht
   ·exact .inl rfl
   ·exact .inr rfl
   ·exact commas_kinds (y :: r) t ht
theorem even_one {op cl : Nat} {t : Tk} (h1 : t.k ≠ op) (h2 : t.k ≠ cl) : Even op cl [t] := even_none (by simp;exact ⟨h1,h2⟩)
theorem even_t {op cl : Nat} (hp : Pair op cl) {c : T} (hw : wf c) : Even op cl (fl c) := even_fl hp _ c (Nat.le_refl _) (wf_fine c hw)
theorem let_cut {L : List Tok} {u A B : List Tk} {t0 : Tk} (hL : tks L = t0 :: (u ++ Tk.of 27 :: (A ++ Tk.of 5 :: B))) (hu : Even 99 27 u) (hu5 : Even 3 5 u) (hA : Even 3 5 A) :
 mtL L 1 99 27 = u.length + 1 /\ mtL L 1 3 5 = u.length + 1 + 1 + A.length /\ tks (cutL L 1 (u.length + 1)) = u /\ tks (cutL L (u.length + 1 + 1) (u.length + 1 + 1 + A.length)) = A /\ tks (L.drop (u.length + 1 + 1 + A.length + 1)) = B /\ L.length = u.length + A.length + B.length + 3 := by
 have hd : tks (L.drop 1) = u ++ Tk.of 27 :: (A ++ Tk.of 5 :: B) := by rw [tks_dr,hL];rfl
 refine ⟨?_,?_,?_,?_,?_,?_⟩
 ·unfold mtL;rw [hd,mt_hit hu rfl rfl];omega
 ·unfold mtL
  rw [hd,show u ++ Tk.of 27 :: (A ++ Tk.of 5 :: B) = (u ++ ([Tk.of 27] ++ A)) ++ Tk.of 5 :: B by simp,mt_hit (even_app hu5 (even_app (even_one (by decide) (by decide)) hA)) rfl rfl]
  simp;omega
 ·rw [tks_cut,<- tks_dr,hd,Nat.add_sub_cancel,take_app]
 ·rw [tks_cut,hL,Nat.add_sub_cancel_left]
  simp
 ·rw [tks_dr,hL,show t0 :: (u ++ Tk.of 27 :: (A ++ Tk.of 5 :: B)) = ((t0 :: u) ++ Tk.of 27 :: A ++ [Tk.of 5]) ++ B by simp]
  refine List.drop_left' ?_
  simp;omega
 ·rw [<- tks_len,hL];simp;omega
theorem kd1 {L : List Tok} {t0 t1 : Tk} {r : List Tk} (h : tks L = t0 :: t1 :: r) : kdAt L 1 = t1.k := kdAt_tks (x := [t0]) h
theorem res_let {s n b' : Nat} {x : ByteArray} {a b : T} {L : List Tok} (hb0 : b' = 0) (hL : tks L = fl (.nd b' 8 s n [x] [a,b])) (hg : ∀ t ∈ L,gd t) (ha : ∀ L',tks L' = fl a -> (∀ t ∈ L',gd t) -> Res a L') (hb : ∀ L',tks L' = fl b -> (∀ t ∈ L',gd t) -> Res b L') (wa : wf a) (wb : wf b) :
 ∀ p,∃ g,TG 0 p L g /\ er g = gt (.nd b' 8 s n [x] [a,b]) := by
 subst hb0
 intro p
 have hL' : tks L = Tk.of 3 :: ([nmTk x] ++ Tk.of 27 :: (fl a ++ Tk.of 5 :: fl b)) := by rw [hL];simp [fl,pre,flk,sep,post]
 obtain ⟨h1,h2,h3,h4,h5,h6⟩ := let_cut hL' (even_names [x] (by decide) (by decide)) (even_names [x] (by decide) (by decide)) (even_t (.inl ⟨rfl,rfl⟩) wa)
 obtain ⟨ga,i1,i2⟩ := (ha _ h4 (gd_cut hg _ _)).1 0
 obtain ⟨gb,j1,j2⟩ := (hb _ h5 (gd_drop hg _)).1 0
 have hids : idsF (cutL L 1 ([nmTk x].length + 1)) = [x] := by rw [idsF_tks,h3];rfl
 have la := fl_pos wa
 have lb := fl_pos wb
 have hk1 : kdAt L 1 = 2 := kd1 (by rw [hL'];rfl)
 refine ⟨_,.lt (kdAt_tks0 hL') h1 h2 (by simp) (by simp;omega) (by rw [h6];simp;omega) (by simp;omega) (by rw [hids];simp) (by rw [hk1];omega) (by rw [hk1];omega) i1 j1,?_⟩
 rw [hids,er,ers,ers,ers,i2,j2]
 rfl
theorem res_rec {s n b' : Nat} {xs : List ByteArray} {a b : T} {L : List Tok} (hb0 : b' = 0) (hx : 2 <= xs.length) (hL : tks L = fl (.nd b' 9 s n xs [a,b])) (hg : ∀ t ∈ L,gd t) (ha : ∀ L',tks L' = fl a -> (∀ t ∈ L',gd t) -> Res a L') (hb : ∀ L',tks L' = fl b -> (∀ t ∈ L',gd t) -> Res b L') (wa : wf a) (wb : wf b) :
 ∀ p,∃ g,TG 0 p L g /\ er g = gt (.nd b' 9 s n xs [a,b]) := by
 subst hb0
 intro p
 have hL' : tks L = Tk.of 3 :: ((Tk.of 4 :: xs.map nmTk) ++ Tk.of 27 :: (fl a ++ Tk.of 5 :: fl b)) := by rw [hL];simp [fl,pre,flk,sep,post]
 obtain ⟨h1,h2,h3,h4,h5,h6⟩ := let_cut hL' (even_app (even_one (t := Tk.of 4) (by decide) (by decide)) (even_names xs (by decide) (by decide))) (even_app (even_one (t := Tk.of 4) (by decide) (by decide)) (even_names xs (by decide) (by decide))) (even_t (.inl ⟨rfl,rfl⟩) wa)
 obtain ⟨ga,i1,i2⟩ := (ha _ h4 (gd_cut hg _ _)).1 0
 obtain ⟨gb,j1,j2⟩ := (hb _ h5 (gd_drop hg _)).1 0
 have hids : idsF (cutL L 1 ((Tk.of 4 :: xs.map nmTk).length + 1)) = xs := by rw [idsF_tks,h3,List.filter_cons_of_neg (by simp [Tk.of]),ids_names]
 have la := fl_pos wa
 have lb := fl_pos wb
 have hk1 : kdAt L 1 = 4 := kd1 (by rw [hL'];rfl)
 refine ⟨_,.rc (kdAt_tks0 hL') h1 h2 (by simp) (by simp;omega) (by rw [h6];simp;omega) (by simp;omega) (by rw [hids];exact hx) hk1 i1 j1,?_⟩
 rw [hids,er,ers,ers,ers,i2,j2]
 rfl
theorem res_pair {s n b' s1 n1 : Nat} {xs ys : List ByteArray} {a b : T} {L : List Tok} (hb0 : b' = 0) (hx : 2 <= xs.length) (hL : tks L = fl (.nd b' 10 s n ys [.nd 1 25 s1 n1 xs [],a,b])) (hg : ∀ t ∈ L,gd t) (ha : ∀ L',tks L' = fl a -> (∀ t ∈ L',gd t) -> Res a L') (hb : ∀ L',tks L' = fl b -> (∀ t ∈ L',gd t) -> Res b L') (wa : wf a) (wb : wf b) :
 ∀ p,∃ g,TG 0 p L g /\ er g = gt (.nd b' 10 s n ys [.nd 1 25 s1 n1 xs [],a,b]) := by
 subst hb0
 intro p
 have hL' : tks L = Tk.of 3 :: ((oB :: (commas xs ++ [cB])) ++ Tk.of 27 :: (fl a ++ Tk.of 5 :: fl b)) := by rw [hL];simp [fl,pre,flk,sep,post]
 have hu : ∀ op cl,op ≠ 23 -> op ≠ 24 -> op ≠ 25 -> op ≠ 2 -> cl ≠ 23 -> cl ≠ 24 -> cl ≠ 25 -> cl ≠ 2 -> Even op cl (oB :: (commas xs ++ [cB])) := fun op cl q1 q2 q3 q4 q5 q6 q7 q8 => even_none fun t ht => by
  rw [List.mem_cons,List.mem_append] at ht
  rcases ht with rfl | ht | ht
  ·exact ⟨fun e => q1 e.symm,fun e => q5 e.symm⟩
  ·rcases commas_kinds xs t ht with h | h <;> omega
  ·simp at ht;subst ht;exact ⟨fun e => q2 e.symm,fun e => q6 e.symm⟩
 obtain ⟨h1,h2,h3,h4,h5,h6⟩ := let_cut hL' (hu 99 27 (by decide) (by decide) (by decide) (by decide) (by decide) (by decide) (by decide) (by decide)) (hu 3 5 (by decide) (by decide) (by decide) (by decide) (by decide) (by decide) (by decide) (by decide)) (even_t (.inl ⟨rfl,rfl⟩) wa)
 obtain ⟨ga,i1,i2⟩ := (ha _ h4 (gd_cut hg _ _)).1 0
 obtain ⟨gb,j1,j2⟩ := (hb _ h5 (gd_drop hg _)).1 0
 have hids : idsF (cutL L 1 ((oB :: (commas xs ++ [cB])).length + 1)) = xs := by
  rw [idsF_tks,h3,List.filter_cons_of_neg (by decide),List.filter_append,List.map_append,ids_commas]
  simp [Tk.of]
 have la := fl_pos wa
 have lb := fl_pos wb
 have hk1 : kdAt L 1 = 23 := kd1 (by rw [hL'];rfl)
 refine ⟨_,.pr (kdAt_tks0 hL') h1 h2 (by simp) (by simp;omega) (by rw [h6];simp;omega) (by simp;omega) (by rw [hids];omega) hk1 i1 j1,?_⟩
 rw [hids,er,ers,ers,ers,i2,j2]
 rfl
theorem res_if {s n b' : Nat} {xs : List ByteArray} {a b c : T} {L : List Tok} (hb0 : b' = 0) (hL : tks L = fl (.nd b' 11 s n xs [a,b,c])) (hg : ∀ t ∈ L,gd t) (ha : ∀ L',tks L' = fl a -> (∀ t ∈ L',gd t) -> Res a L') (hb : ∀ L',tks L' = fl b -> (∀ t ∈ L',gd t) -> Res b L') (hc : ∀ L',tks L' = fl c -> (∀ t ∈ L',gd t) -> Res c L') (wa : wf a) (wb : wf b) (wc : wf c) :
 ∀ p,∃ g,TG 0 p L g /\ er g = gt (.nd b' 11 s n xs [a,b,c]) := by
 subst hb0
 intro p
 have hL' : tks L = Tk.of 6 :: (fl a ++ Tk.of 7 :: (fl b ++ Tk.of 8 :: fl c)) := by rw [hL];simp [fl,pre,flk,sep,post]
 have hd : tks (L.drop 1) = fl a ++ Tk.of 7 :: (fl b ++ Tk.of 8 :: fl c) := by rw [tks_dr,hL'];rfl
 have hd2 : tks (L.drop (1 + (fl a).length + 1)) = fl b ++ Tk.of 8 :: fl c := by
  rw [tks_dr,hL',show Tk.of 6 :: (fl a ++ Tk.of 7 :: (fl b ++ Tk.of 8 :: fl c)) = (Tk.of 6 :: fl a ++ [Tk.of 7]) ++ (fl b ++ Tk.of 8 :: fl c) by simp]
  exact List.drop_left' (by simp;omega)
 have hd3 : tks (L.drop (1 + (fl a).length + 1 + (fl b).length + 1)) = fl c := by
  rw [tks_dr,hL',show Tk.of 6 :: (fl a ++ Tk.of 7 :: (fl b ++ Tk.of 8 :: fl c)) = (Tk.of 6 :: fl a ++ Tk.of 7 :: fl b ++ [Tk.of 8]) ++ fl c by simp]
  exact List.drop_left' (by simp;omega)
 have hi : mtL L 1 6 7 = 1 + (fl a).length := by unfold mtL;rw [hd,mt_hit (even_t (.inr (.inl ⟨rfl,rfl⟩)) wa) rfl rfl]
 have hj : mtL L (1 + (fl a).length + 1) 6 8 = 1 + (fl a).length + 1 + (fl b).length := by unfold mtL;rw [hd2,mt_hit (even_t (.inr (.inr ⟨rfl,rfl⟩)) wb) rfl rfl]
 have c1 : tks (cutL L 1 (1 + (fl a).length)) = fl a := by rw [tks_cut,<- tks_dr,hd,Nat.add_sub_cancel_left,take_app]
 have c2 : tks (cutL L (1 + (fl a).length + 1) (1 + (fl a).length + 1 + (fl b).length)) = fl b := by rw [tks_cut,<- tks_dr,hd2,Nat.add_sub_cancel_left,take_app]
 obtain ⟨ga,i1,i2⟩ := (ha _ c1 (gd_cut hg _ _)).1 0
 obtain ⟨gb,j1,j2⟩ := (hb _ c2 (gd_cut hg _ _)).1 0
 obtain ⟨gc,k1,k2⟩ := (hc _ hd3 (gd_drop hg _)).1 0
 have la := fl_pos wa
 have lb := fl_pos wb
 have lc := fl_pos wc
 have hlen : L.length = (fl a).length + (fl b).length + (fl c).length + 3 := by rw [<- tks_len,hL'];simp;omega
 refine ⟨_,.iff (kdAt_tks0 hL') hi hj (by omega) (by omega) (by omega) i1 j1 k1,?_⟩
 rw [er,ers,ers,ers,ers,i2,j2,k2]
 rfl
theorem res_fun {s n b' : Nat} {xs : List ByteArray} {b : T} {L : List Tok} (hb0 : b' = 0) (hL : tks L = fl (.nd b' 12 s n xs [b])) (hg : ∀ t ∈ L,gd t) (hb : ∀ L',tks L' = fl b -> (∀ t ∈ L',gd t) -> Res b L') (wb : wf b) :
 ∀ p,∃ g,TG 0 p L g /\ er g = gt (.nd b' 12 s n xs [b]) := by
 subst hb0
 intro p
 have hL' : tks L = Tk.of 9 :: (xs.map nmTk ++ Tk.of 22 :: fl b) := by rw [hL];simp [fl,pre,flk,sep,post]
 have hd : tks (L.drop 1) = xs.map nmTk ++ Tk.of 22 :: fl b := by rw [tks_dr,hL'];rfl
 have hi : mtL L 1 99 22 = 1 + (xs.map nmTk).length := by unfold mtL;rw [hd,mt_hit (op := 99) (cl := 22) (even_names xs (by decide) (by decide)) rfl rfl]
 have c1 : tks (cutL L 1 (1 + (xs.map nmTk).length)) = xs.map nmTk := by rw [tks_cut,<- tks_dr,hd,Nat.add_sub_cancel_left,take_app]
 have c2 : tks (L.drop (1 + (xs.map nmTk).length + 1)) = fl b := by
  rw [tks_dr,hL',show Tk.of 9 :: (xs.map nmTk ++ Tk.of 22 :: fl b) = (Tk.of 9 :: xs.map nmTk ++ [Tk.of 22]) ++ fl b by simp]
  exact List.drop_left' (by simp;omega)
 obtain ⟨gb,j1,j2⟩ := (hb _ c2 (gd_drop hg _)).1 0
 have lb := fl_pos wb
 have hlen : L.length = xs.length + (fl b).length + 2 := by rw [<- tks_len,hL'];simp;omega
 refine ⟨_,.fn (kdAt_tks0 hL') hi (by omega) (by simp;omega) j1,?_⟩
 rw [idsF_tks,c1,ids_names,er,ers,ers,j2]
 rfl
abbrev RK (a : T) : Prop := ∀ L',tks L' = fl a -> (∀ t ∈ L',gd t) -> Res a L'
theorem gd_txt {t : Tok} (h : gd t) (hk : 3 <= t.k) : t.t = nameK t.k := by
 have := h.1.1
 rw [<- this]
 unfold kName
 rw [if_neg (by omega),if_neg (by omega),if_neg (by omega)]
theorem sign_at {L : List Tok} {A B : List Tk} {s : Nat} (hL : tks L = A ++ Tk.of s :: B) (hg : ∀ t ∈ L,gd t) (h3 : 3 <= s) : (tokAt L A.length).t = nameK s := by
 have hl : A.length < L.length := by rw [<- tks_len,hL];simp
 have h1 := tokAt_tk hL
 have hk : (tokAt L A.length).k = s := congrArg Tk.k h1
 rw [gd_txt (hg _ (tokAt_mem hl)) (by omega),hk]
theorem lens {L : List Tok} {A B : List Tk} {t : Tk} (hL : tks L = A ++ t :: B) (hB : 1 <= B.length) : A.length + 1 < L.length := by
 rw [<- tks_len,hL];simp;omega
theorem res_seq {n : Nat} {xs : List ByteArray} {a b : T} {L : List Tok} {s : Nat} (hL : tks L = fl (.nd 0 18 s n xs [a,b])) (hg : ∀ t ∈ L,gd t) (ha : RK a) (hb : RK b) (wa : wf a) (wb : wf b) (a25 : a.k ≠ 25) (ra : 1 <= rkT a) :
 ∀ p,∃ g,TG 0 p L g /\ er g = gt (.nd 0 18 s n xs [a,b]) := by
 intro p
 have hL' : tks L = fl a ++ Tk.of 26 :: fl b := by rw [hL];simp [fl,pre,flk,sep,post]
 obtain ⟨c1,c2⟩ := cut_at hL'
 obtain ⟨ga,i1,i2⟩ := (ha _ c1 (gd_cut hg _ _)).1 0
 obtain ⟨gb,j1,j2⟩ := (hb _ c2 (gd_drop hg _)).1 0
 have la := fl_pos wa
 have hd : dep 0 (tks L) = some 0 := by
  rw [hL',dep_app,fl_dep wa]
  show dep 0 (Tk.of 26 :: fl b) = some 0
  rw [dep_one (by decide) (by decide) (by decide),fl_dep wb]
 have hsp : spl 26 L = (fl a).length := by
  refine spl_first (x := tks L) (r := pos (fun _ k => k == 26) 0 26 ((fl a).length + 1) (fl b)) rfl hd ?_ la (fun h hh => by have := pos_ge _ _ _ _ _ h hh;omega)
  rw [hit26,hL',(fl_bal a (wf_fine a wa)).pos,no_semi wa ra,pos_one _ (by decide) (by decide) (by decide)]
  simp [Tk.of]
 obtain ⟨⟨h3,h6,h9⟩,_⟩ := hk_rank _ a (Nat.le_refl _) wa a25 ra
 have hk0 : kdAt L 0 = hk (fl a) := by rw [hk_kd hL',hk_app (fl_ne wa)]
 rw [<- hk0] at h3 h6 h9
 refine ⟨_,.sq h3 h6 h9 hsp (by omega) (lens hL' (fl_pos wb)) i1 j1,?_⟩
 rw [er,ers,ers,ers,i2,j2]
 rfl
theorem res_cmp {n : Nat} {xs : List ByteArray} {a b : T} {L : List Tok} {s : Nat} (hw : wf (.nd 0 17 s n xs [a,b])) (hs : isCmp s = true) (hL : tks L = fl (.nd 0 17 s n xs [a,b])) (hg : ∀ t ∈ L,gd t) (ha : RK a) (hb : RK b) (wa : wf a) (wb : wf b) (a25 : a.k ≠ 25) (ra : 2 <= rkT a) (rb : 2 <= rkT b) :
 ∀ p,∃ g,TG 0 p L g /\ er g = gt (.nd 0 17 s n xs [a,b]) := by
 intro p
 have hL' : tks L = fl a ++ Tk.of s :: fl b := by rw [hL];simp [fl,pre,flk,sep,post]
 obtain ⟨c1,c2⟩ := cut_at hL'
 obtain ⟨ga,i1,i2⟩ := (ha _ c1 (gd_cut hg _ _)).1 0
 obtain ⟨gb,j1,j2⟩ := (hb _ c2 (gd_drop hg _)).1 0
 have la := fl_pos wa
 have hsk : (Tk.of s).k = s := rfl
 have hs' := hs
 simp only [isCmp,Bool.or_eq_true,beq_iff_eq] at hs'
 have hsp : spl 27 L = (fl a).length := by
  refine spl_last (r := []) (by omega) hL (fl_dep hw) ?_ la (by simp)
  rw [<- hL,hit27,hL',(fl_bal a (wf_fine a wa)).pos,no_cmp wa ra,pos_one _ (by rw [hsk];omega) (by rw [hsk];omega) (by rw [hsk];omega),no_cmp wb rb,hsk,if_pos hs]
  simp
 obtain ⟨⟨h3,h6,h9⟩,_⟩ := hk_rank _ a (Nat.le_refl _) wa a25 (by omega)
 have hk0 : kdAt L 0 = hk (fl a) := by rw [hk_kd hL',hk_app (fl_ne wa)]
 rw [<- hk0] at h3 h6 h9
 refine ⟨_,.cm h3 h6 h9 (z26 hL hw (by simp [rkT,rk])) hsp (by omega) (lens hL' (fl_pos wb)) i1 j1,?_⟩
 rw [er,ers,ers,ers,i2,j2,sign_at hL' hg (by omega)]
 rfl
theorem res_sum {n : Nat} {xs : List ByteArray} {a b : T} {L : List Tok} {s : Nat} (hw : wf (.nd 0 16 s n xs [a,b])) (hs : isSum s = true) (hL : tks L = fl (.nd 0 16 s n xs [a,b])) (hg : ∀ t ∈ L,gd t) (ha : RK a) (hb : RK b) (wa : wf a) (wb : wf b) (a25 : a.k ≠ 25) (b25 : b.k ≠ 25) (ra : 2 <= rkT a) (rb : 3 <= rkT b) :
 ∀ p,∃ g,TG 0 p L g /\ er g = gt (.nd 0 16 s n xs [a,b]) := by
 intro p
 have hL' : tks L = fl a ++ Tk.of s :: fl b := by rw [hL];simp [fl,pre,flk,sep,post]
 obtain ⟨c1,c2⟩ := cut_at hL'
 obtain ⟨ga,i1,i2⟩ := (ha _ c1 (gd_cut hg _ _)).1 0
 obtain ⟨gb,j1,j2⟩ := (hb _ c2 (gd_drop hg _)).1 0
 have la := fl_pos wa
 have hsk : (Tk.of s).k = s := rfl
 have hs' := hs
 simp only [isSum,Bool.or_eq_true,beq_iff_eq] at hs'
 obtain ⟨⟨h3,h6,h9⟩,_⟩ := hk_rank _ a (Nat.le_refl _) wa a25 (by omega)
 have hen : ended (lastK 0 (fl a)) = true := last_end _ a (Nat.le_refl _) wa a25 (by omega) 0
 have hpe : pSum (lastK 0 (fl a)) s = true := by unfold pSum;rw [hs,hen];rfl
 have hsn : ended s = false := by unfold ended isLeaf;rcases hs' with rfl | rfl <;> rfl
 have hge : ∀ h ∈ pos pSum 0 0 0 (fl a),1 <= h := by
  intro h hh
  rcases Nat.eq_zero_or_pos h with h0 | h0
  ·exfalso
   subst h0
   cases hx : fl a with
   | nil => exact fl_ne wa hx
   | cons t r =>
     rw [hx] at hh
     simp only [pos,List.mem_append] at hh
     rcases hh with hh | hh
     ·simp only [List.mem_ite_nil_right] at hh
      have := hh.1.2
      simp [pSum,ended,isLeaf] at this
     ·have := (pos_ge _ _ _ _ _ 0 hh).1
      omega
  ·exact h0
 have hsp : spl 30 L = (fl a).length := by
  refine spl_last (r := pos pSum 0 0 0 (fl a)) (by omega) hL (fl_dep hw) ?_ la hge
  rw [<- hL,hit30,hL',(fl_bal a (wf_fine a wa)).pos,pos_one _ (by rw [hsk];omega) (by rw [hsk];omega) (by rw [hsk];omega),hsk,no_sum _ b (Nat.le_refl _) wb b25 rb _ _ (.inr hsn),if_pos hpe]
  simp
 have hk0 : kdAt L 0 = hk (fl a) := by rw [hk_kd hL',hk_app (fl_ne wa)]
 rw [<- hk0] at h3 h6 h9
 refine ⟨_,.su h3 h6 h9 (z26 hL hw (by simp [rkT,rk])) (z27 hL hw (by simp [rkT,rk])) hsp (by omega) (lens hL' (fl_pos wb)) i1 j1,?_⟩
 rw [er,ers,ers,ers,i2,j2,sign_at hL' hg (by omega)]
 rfl
theorem hk_pro : ∀ (m : Nat) (c : T),SizeOf.sizeOf c <= m -> wf c -> c.k ≠ 25 -> 1 <= rkT c -> isPro (hk (fl c)) = false := by
 intro m
 induction m with
 | zero => intro c h;cases c;simp at h
 | succ m ih =>
   intro c hs hw h25 hr
   cases c with
   | nd b k s n xs kids =>
     rw [wf] at hw
     rw [fl_eq]
     cases b with
     | succ b => rw [List.replicate_succ];rfl
     | zero =>
       rw [rkT,if_neg (by omega)] at hr
       simp only [List.replicate_zero,List.nil_append,List.append_nil]
       have hk7 : k ≠ 7 := fun e => by have := hw.2.1 e;omega
       have hk25 : k ≠ 25 := h25
       by_cases hp : pre k s n xs = []
       ·have h2 := two_kids hw.1 hp
        match kids,h2,hw,hs with
        | a :: q,_,hw,hs =>
          have wa := hw.2.2.2.1
          have ra := hw.2.2.2.2.1
          have a25 : a.k ≠ 25 := fun e => by
           have := (hw.2.2.2.2.2.1.1 e).1
           subst this
           simp [pre] at hp
          have hne := (fl_bal a (wf_fine a wa)).ne
          have e : bod k s n xs (a :: q) = fl a ++ (flk k s 1 q ++ post k) := by simp [bod,hp,flk,sep]
          rw [e,hk_app hne]
          refine ih a (by simp at hs;omega) wa a25 ?_
          have := wanted_rank hw.1 (show 0 < (a :: q).length by simp) hr hk7 (fun e => by omega)
          omega
       ·unfold bod
        rw [hk_app hp]
        have ha := hw.1
        unfold arB at ha
        unfold pre at hp ⊢
        split at ha <;> first
         | (exfalso;omega)
         | (simp [rk] at hr;done)
         | rfl
         | (exfalso;simp at ha;done)
         | (simp at ha;match xs,ha with | [x],_ => rfl)
         | (exfalso;exact hp rfl)
theorem res_pro {n : Nat} {xs : List ByteArray} {a b : T} {L : List Tok} {s : Nat} (hw : wf (.nd 0 15 s n xs [a,b])) (hs : isPro s = true) (hL : tks L = fl (.nd 0 15 s n xs [a,b])) (hg : ∀ t ∈ L,gd t) (ha : RK a) (hb : RK b) (wa : wf a) (wb : wf b) (a25 : a.k ≠ 25) (ra : 3 <= rkT a) (rb : 4 <= rkT b) :
 ∀ p,∃ g,TG 0 p L g /\ er g = gt (.nd 0 15 s n xs [a,b]) := by
 intro p
 have hL' : tks L = fl a ++ Tk.of s :: fl b := by rw [hL];simp [fl,pre,flk,sep,post]
 obtain ⟨c1,c2⟩ := cut_at hL'
 obtain ⟨ga,i1,i2⟩ := (ha _ c1 (gd_cut hg _ _)).1 0
 obtain ⟨gb,j1,j2⟩ := (hb _ c2 (gd_drop hg _)).1 0
 have la := fl_pos wa
 have hsk : (Tk.of s).k = s := rfl
 have hs' := hs
 simp only [isPro,Bool.or_eq_true,beq_iff_eq] at hs'
 obtain ⟨⟨h3,h6,h9⟩,_⟩ := hk_rank _ a (Nat.le_refl _) wa a25 (by omega)
 have hnp := hk_pro _ a (Nat.le_refl _) wa a25 (by omega)
 have hge : ∀ h ∈ pos (fun _ k => isPro k) 0 0 0 (fl a),1 <= h := by
  intro h hh
  rcases Nat.eq_zero_or_pos h with h0 | h0
  ·exfalso
   subst h0
   cases hx : fl a with
   | nil => exact fl_ne wa hx
   | cons t r =>
     rw [hx] at hh hnp
     simp only [pos,List.mem_append] at hh
     rcases hh with hh | hh
     ·simp only [List.mem_ite_nil_right] at hh
      have := hh.1.2
      rw [show isPro t.k = false from hnp] at this
      simp at this
     ·have := (pos_ge _ _ _ _ _ 0 hh).1
      omega
  ·exact h0
 have hsp : spl 32 L = (fl a).length := by
  refine spl_last (r := pos (fun _ k => isPro k) 0 0 0 (fl a)) (by omega) hL (fl_dep hw) ?_ la hge
  rw [<- hL,hit32,hL',(fl_bal a (wf_fine a wa)).pos,pos_one _ (by rw [hsk];omega) (by rw [hsk];omega) (by rw [hsk];omega),no_pro wb rb,hsk,if_pos hs]
  simp
 have hk0 : kdAt L 0 = hk (fl a) := by rw [hk_kd hL',hk_app (fl_ne wa)]
 rw [<- hk0] at h3 h6 h9
 refine ⟨_,.po h3 h6 h9 (z26 hL hw (by simp [rkT,rk])) (z27 hL hw (by simp [rkT,rk])) (z30 hL hw (by show (15 : Nat) ≠ 25;decide) (by simp [rkT,rk])) hsp (by omega) (lens hL' (fl_pos wb)) i1 j1,?_⟩
 rw [er,ers,ers,ers,i2,j2,sign_at hL' hg (by omega)]
 rfl
theorem res_un {n k s : Nat} {xs : List ByteArray} {a : T} {L : List Tok} (hk : k = 13 \/ k = 14) (hw : wf (.nd 0 k s n xs [a])) (hL : tks L = fl (.nd 0 k s n xs [a])) (hg : ∀ t ∈ L,gd t) (ha : RK a) (wa : wf a) :
 ∀ p,∃ g,TG 0 p L g /\ er g = gt (.nd 0 k s n xs [a]) := by
 intro p
 have h25 : (T.nd 0 k s n xs [a]).k ≠ 25 := by show k ≠ 25;omega
 have hr : 4 <= rkT (.nd 0 k s n xs [a]) := by rcases hk with rfl | rfl <;> simp [rkT,rk]
 have zs := And.intro (z26 hL hw (by omega)) (And.intro (z27 hL hw (by omega)) (And.intro (z30 hL hw h25 (by omega)) (z32 hL hw hr)))
 have la := fl_pos wa
 rcases hk with rfl | rfl
 ·have hL' : tks L = Tk.of 31 :: fl a := by rw [hL];simp [fl,pre,flk,sep,post]
  have c2 : tks (L.drop 1) = fl a := by rw [tks_dr,hL'];rfl
  obtain ⟨ga,i1,i2⟩ := (ha _ c2 (gd_drop hg _)).1 0
  refine ⟨_,.ng (kdAt_tks0 hL') zs.1 zs.2.1 zs.2.2.1 zs.2.2.2 (by rw [<- tks_len,hL'];simp;omega) i1,?_⟩
  rw [er,ers,ers,i2];rfl
 ·have hL' : tks L = Tk.of 10 :: fl a := by rw [hL];simp [fl,pre,flk,sep,post]
  have c2 : tks (L.drop 1) = fl a := by rw [tks_dr,hL'];rfl
  obtain ⟨ga,i1,i2⟩ := (ha _ c2 (gd_drop hg _)).1 0
  refine ⟨_,.nt (kdAt_tks0 hL') zs.1 zs.2.1 zs.2.2.1 zs.2.2.2 (by rw [<- tks_len,hL'];simp;omega) i1,?_⟩
  rw [er,ers,ers,i2];rfl
theorem sep_call {k s : Nat} (hk : k = 19 \/ k = 21 \/ k = 22 \/ k = 23 \/ k = 24) : ∀ i,sep k s i = [] := by
 intro i
 cases i with
 | zero => rfl
 | succ i => rcases hk with rfl | rfl | rfl | rfl | rfl <;> rfl
abbrev KidOk (c : T) : Prop := wf c /\ c.k ≠ 25 /\ 6 <= rkT c /\ RK c
theorem gts_cons (c : T) (r : List T) : gts (c :: r) = gt c :: gts r := rfl
theorem res_call {n s : Nat} {xs : List ByteArray} {c0 c1 : T} {r : List T} {L : List Tok} (hw : wf (.nd 0 19 s n xs (c0 :: c1 :: r))) (hL : tks L = fl (.nd 0 19 s n xs (c0 :: c1 :: r))) (hg : ∀ t ∈ L,gd t) (hk : ∀ c ∈ c0 :: c1 :: r,KidOk c) :
 ∀ p,∃ g,TG 0 p L g /\ er g = gt (.nd 0 19 s n xs (c0 :: c1 :: r)) := by
 intro p
 have hsep := sep_call (k := 19) (s := s) (.inl rfl)
 have hL' : tks L = fl c0 ++ flk 19 s (0 + 1) (c1 :: r) := by rw [hL];simp [fl,pre,flk,sep,post]
 have ho := opL_st hsep hL' (by rw [hL];exact fl_dep hw) (fun c hc => ⟨(hk c hc).1,(hk c hc).2.1,(hk c hc).2.2.1⟩)
 have hL0 : tks (L.drop 0) = fl c0 ++ flk 19 s (0 + 1) (c1 :: r) := by rw [List.drop_zero];exact hL'
 obtain ⟨gs,i1,i2⟩ := ops hsep L hg (c1 :: r) c0 0 0 hL0 (fun c hc => ⟨(hk c hc).1,(hk c hc).2.2.1,(hk c hc).2.2.2⟩)
 rw [Nat.zero_add] at i1
 rw [<- ho] at i1
 obtain ⟨_,_,h3⟩ := hk_rank _ c0 (Nat.le_refl _) (hk c0 (by simp)).1 (hk c0 (by simp)).2.1 (by have := (hk c0 (by simp)).2.2.1;omega)
 have hwd := h3 (hk c0 (by simp)).2.2.1
 have hk0 : kdAt L 0 = Go.Proofs.YtmkdoejpgkgpbaaGreatDoor.hk (fl c0) := by rw [hk_kd hL',hk_app (fl_ne (hk c0 (by simp)).1)]
 rw [<- hk0] at hwd
 have hlen : (opL L).length ≠ 1 := by rw [ho,prs_len,st_len];simp
 cases gs with
 | nil => simp [ers,gts] at i2
 | cons g gs =>
   refine ⟨_,ca_of hw (by show (19 : Nat) ≠ 25;decide) (by simp [rkT,rk]) hL (.cl hwd (len_pos hL hw) hlen i1) p,?_⟩
   rw [er,i2];rfl
theorem res_word {n s k w : Nat} {xs : List ByteArray} {c0 : T} {r : List T} {L : List Tok} (hkw : (k = 21 /\ w = 14) \/ (k = 22 /\ w = 15) \/ (k = 23 /\ w = 16) \/ (k = 24 /\ w = 17)) (hw : wf (.nd 0 k s n xs (c0 :: r))) (hL : tks L = fl (.nd 0 k s n xs (c0 :: r))) (hg : ∀ t ∈ L,gd t) (hk : ∀ c ∈ c0 :: r,KidOk c) :
 ∀ p,∃ g,TG 0 p L g /\ er g = gt (.nd 0 k s n xs (c0 :: r)) := by
 intro p
 have hsep := sep_call (k := k) (s := s) (by omega)
 have hL' : tks L = Tk.of w :: (fl c0 ++ flk k s (0 + 1) r) := by
  rw [hL];rcases hkw with ⟨rfl,rfl⟩ | ⟨rfl,rfl⟩ | ⟨rfl,rfl⟩ | ⟨rfl,rfl⟩ <;> simp [fl,pre,flk,sep,post]
 have hLd : tks (L.drop 1) = fl c0 ++ flk k s (0 + 1) r := by rw [tks_dr,hL'];rfl
 have hdep : dep 0 (tks (L.drop 1)) = some 0 := by
  have h := fl_dep hw
  rw [<- hL,hL',dep_one (by show w ≠ 23;omega) (by show w ≠ 24;omega) (by show w ≠ 18;omega)] at h
  rw [hLd];exact h
 have ho := opL_st hsep hLd hdep (fun c hc => ⟨(hk c hc).1,(hk c hc).2.1,(hk c hc).2.2.1⟩)
 have hL0 : tks ((L.drop 1).drop 0) = fl c0 ++ flk k s (0 + 1) r := by rw [List.drop_zero];exact hLd
 obtain ⟨gs,i1,i2⟩ := ops hsep (L.drop 1) (gd_drop hg 1) r c0 0 0 hL0 (fun c hc => ⟨(hk c hc).1,(hk c hc).2.2.1,(hk c hc).2.2.2⟩)
 rw [Nat.zero_add] at i1
 rw [<- ho] at i1
 have hk0 : kdAt L 0 = w := kdAt_tks0 hL'
 have hr : 5 <= rkT (.nd 0 k s n xs (c0 :: r)) := by rcases hkw with ⟨rfl,_⟩ | ⟨rfl,_⟩ | ⟨rfl,_⟩ | ⟨rfl,_⟩ <;> simp [rkT,rk]
 have hc0 := fl_pos (hk c0 (by simp)).1
 refine ⟨_,ca_of hw (by show k ≠ 25;omega) hr hL (.wd (by rw [hk0];rcases hkw with ⟨_,rfl⟩ | ⟨_,rfl⟩ | ⟨_,rfl⟩ | ⟨_,rfl⟩ <;> rfl) (by rw [<- tks_len,hL'];simp;omega) i1) p,?_⟩
 rw [er,i2,hk0]
 rcases hkw with ⟨rfl,rfl⟩ | ⟨rfl,rfl⟩ | ⟨rfl,rfl⟩ | ⟨rfl,rfl⟩ <;> rfl
theorem cut_in {L : List Tok} {x : List Tk} {t u : Tk} (h : tks L = t :: (x ++ [u])) : tks (cutL L 1 (L.length - 1)) = x := by
 have hl : L.length = x.length + 2 := by rw [<- tks_len,h];simp
 rw [tks_cut,h,hl]
 simp
theorem res_get {n s : Nat} {xs : List ByteArray} {a b : T} {L : List Tok} (hw : wf (.nd 0 20 s n xs [a,b])) (hL : tks L = fl (.nd 0 20 s n xs [a,b])) (hg : ∀ t ∈ L,gd t) (ka : KidOk a) (wb : wf b) (hb : RK b) : ∀ p,∃ g,TG 2 p L g /\ er g = gt (.nd 0 20 s n xs [a,b]) := by
 intro p
 have hL' : tks L = fl a ++ Tk.of 18 :: (fl b ++ [cB]) := by rw [hL];simp [fl,pre,flk,sep,post]
 obtain ⟨c1,c2⟩ := cut_at hL'
 have la := fl_pos ka.1
 have lb := fl_pos wb
 have hlen : L.length = (fl a).length + (fl b).length + 2 := by rw [<- tks_len,hL'];simp;omega
 have c3 : tks (cutL L ((fl a).length + 1) (L.length - 1)) = fl b := by
  rw [tks_cut,<- tks_dr,c2,hlen]
  rw [show (fl a).length + (fl b).length + 2 - 1 - ((fl a).length + 1) = (fl b).length by omega,take_app]
 obtain ⟨ga,i1,i2⟩ := (ka.2.2.2 _ c1 (gd_cut hg _ _)).2 ka.2.2.1 (tokAt L 0).p
 obtain ⟨gb,j1,j2⟩ := (hb _ c3 (gd_cut hg _ _)).1 0
 have hba := fl_bal a (wf_fine a ka.1)
 have hbb := fl_bal b (wf_fine b wb)
 have hge : ∀ h ∈ pos (fun _ k => k == 18) 0 0 0 (fl a),1 <= h := by
  intro h hh
  rcases Nat.eq_zero_or_pos h with h0 | h0
  ·exfalso
   subst h0
   have := opd_start _ a (Nat.le_refl _) ka.1 ka.2.1 ka.2.2.1 0 0
   cases hx : fl a with
   | nil => exact fl_ne ka.1 hx
   | cons t r =>
     rw [hx] at hh this
     simp only [pos,List.mem_append] at hh
     rcases hh with hh | hh
     ·simp only [List.mem_ite_nil_right] at hh
      have h18 : t.k = 18 := by simpa using hh.1.2
      have hnc : isC t = false := by simp [isC,h18]
      simp only [pos,hnc,Bool.false_eq_true,if_false,pOpd,h18] at this
      simp at this
      have := pos_ge _ _ _ _ _ 0 (by rw [this];simp)
      omega
     ·have := (pos_ge _ _ _ _ _ 0 hh).1
      omega
  ·exact h0
 have hx : ixL L = (fl a).length := by
  rw [ix_pos (hs := pos (fun _ k => k == 18) 0 0 0 (fl a) ++ [(fl a).length]) hL (fl_dep hw) ?_ (by intro h hm;rcases List.mem_append.1 hm with hm | hm;exact hge h hm;simp at hm;omega),List.foldl_append]
  ·rfl
  ·rw [<- hL,hL',hba.pos,pos18,pos_app _ _ _ 1 1 _ _ (hbb.dep 1),pos_deep _ _ 0 0 _ _ (hbb.dep 0),pos24]
   simp
 refine ⟨_,.gt hx (by omega) (by omega) i1 j1,?_⟩
 rw [er,ers,ers,ers,i2,j2]
 rfl
theorem ix_one {L : List Tok} {t : Tk} (hL : tks L = [t]) (h : t.k ≠ 18) (h2 : t.k ≠ 24) (h3 : t.k ≠ 23) : ixL L = 0 := ix_pos (hs := []) hL (by rw [dep_one h3 h2 h];rfl) (by rw [pos_one _ h3 h2 h];simp [pos,h]) (by simp)
theorem res_atom {k s n : Nat} {xs : List ByteArray} {L : List Tok} (hk : k <= 6) (hw : wf (.nd 0 k s n xs [])) (hL : tks L = fl (.nd 0 k s n xs [])) (hg : ∀ t ∈ L,gd t) : ∀ p,∃ g,TG 2 p L g /\ er g = gt (.nd 0 k s n xs []) := by
 intro p
 have ha := hw
 rw [wf] at ha
 have ha1 := ha.1
 have hl := len_pos hL hw
 have hone : ∀ t : Tk,fl (.nd 0 k s n xs []) = [t] -> (tokAt L 0).tk = t := fun t ht => tokAt_tk (x := []) (by rw [hL,ht];rfl)
 match k,hk with
 | 0,_ => simp [arB] at ha1
 | 1,_ =>
   have hf : fl (.nd 0 1 s n xs []) = [nuTk n] := by simp [fl,pre,flk,post]
   have ht := hone _ hf
   have hk1 : (tokAt L 0).k = 1 := congrArg Tk.k ht
   have hn : (tokAt L 0).n = n := by have := congrArg Tk.n ht;simpa [Tok.tk,hk1,nuTk] using this
   obtain ⟨v1,v2⟩ := (hg _ (tokAt_mem hl)).2 hk1
   have h1 : (nuTk n).k = 1 := rfl
   refine ⟨_,.nu (ix_one (hL.trans hf) (by rw [h1];decide) (by rw [h1];decide) (by rw [h1];decide)) hl (kdAt_tks0 (hL.trans hf)) v1 v2,?_⟩
   rw [hn];rfl
 | 2,_ =>
   have hf : fl (.nd 0 2 s n xs []) = [Tk.of 11] := by simp [fl,pre,flk,post]
   exact ⟨_,.tr (ix_one (hL.trans hf) (by decide) (by decide) (by decide)) hl (kdAt_tks0 (hL.trans hf)),rfl⟩
 | 3,_ =>
   have hf : fl (.nd 0 3 s n xs []) = [Tk.of 12] := by simp [fl,pre,flk,post]
   exact ⟨_,.fa (ix_one (hL.trans hf) (by decide) (by decide) (by decide)) hl (kdAt_tks0 (hL.trans hf)),rfl⟩
 | 4,_ =>
   have hf : fl (.nd 0 4 s n xs []) = [Tk.of 13] := by simp [fl,pre,flk,post]
   exact ⟨_,.rd (ix_one (hL.trans hf) (by decide) (by decide) (by decide)) hl (kdAt_tks0 (hL.trans hf)),rfl⟩
 | 5,_ =>
   simp [arB] at ha1
   match xs,ha1 with
   | [x],_ =>
     have hf : fl (.nd 0 5 s n [x] []) = [nmTk x] := by simp [fl,pre,flk,post]
     have ht := hone _ hf
     have hk2 : (tokAt L 0).k = 2 := congrArg Tk.k ht
     have hx : (tokAt L 0).t = x := by have := congrArg Tk.x ht;simpa [Tok.tk,hk2,nmTk] using this
     have h2 : (nmTk x).k = 2 := rfl
     refine ⟨_,.vr (ix_one (hL.trans hf) (by rw [h2];decide) (by rw [h2];decide) (by rw [h2];decide)) hl (kdAt_tks0 (hL.trans hf)),?_⟩
     rw [hx];rfl
 | 6,_ =>
   have hf : fl (.nd 0 6 s n xs []) = oB :: ([] ++ [cB]) := by simp [fl,pre,flk,post]
   have hL' := hL.trans hf
   have hc := cut_in hL'
   have hnil : cutL L 1 (L.length - 1) = [] := by
    have := congrArg List.length hc
    rw [tks_len] at this
    exact List.eq_nil_of_length_eq_zero this
   have hx : ixL L = 0 := ix_pos (hs := []) hL' rfl rfl (by simp)
   refine ⟨_,.bk hx (by rw [<- tks_len,hL'];simp) (kdAt_tks0 hL') (by rw [hnil];exact .un),rfl⟩
theorem fl_succ (b k s n : Nat) (xs : List ByteArray) (kids : List T) : fl (.nd (b + 1) k s n xs kids) = oB :: (fl (.nd b k s n xs kids) ++ [cB]) := by
 rw [fl_eq,fl_eq,List.replicate_succ,List.replicate_succ' (n := b) (a := cB)];simp
theorem res_brk {b k s n : Nat} {xs : List ByteArray} {kids : List T} {L : List Tok} (hw : wf (.nd (b + 1) k s n xs kids)) (h25 : k ≠ 25) (hL : tks L = fl (.nd (b + 1) k s n xs kids))
 (h : ∀ p,∃ g,TG 3 p (cutL L 1 (L.length - 1)) g /\ er g = gt (.nd (b + 1) k s n xs kids)) : Res (.nd (b + 1) k s n xs kids) L := by
 have hr : 6 <= rkT (.nd (b + 1) k s n xs kids) := by simp [rkT]
 refine res_opd hw h25 hr hL fun p => ?_
 obtain ⟨g,h1,h2⟩ := h p
 have hw' := hw
 rw [wf] at hw'
 have hbod : Bal (bod k s n xs kids) := bod_bal hw'.1 (wfs_fines _ _ _ hw'.2.2.2)
 have hx : ixL L = 0 := ix_pos (hs := []) hL (fl_dep hw) (by rw [fl_eq];exact pos_wrap hbod b 0 0 (fun _ => rfl) (fun _ => rfl)) (by simp)
 rw [fl_succ] at hL
 exact ⟨g,.bk hx (by rw [<- tks_len,hL];simp) (kdAt_tks0 hL) h1,h2⟩
theorem tg_of : ∀ (m : Nat) (c : T),SizeOf.sizeOf c <= m -> wf c -> c.k ≠ 25 -> ∀ L,tks L = fl c -> (∀ t ∈ L,gd t) -> Res c L := by
 intro m
 induction m with
 | zero => intro c h;cases c;simp at h
 | succ m ih =>
   intro c hs hw h25 L hL hg
   cases c with
   | nd b k s n xs kids =>
     have hk25 : k ≠ 25 := h25
     have hw0 := hw
     rw [wf] at hw
     obtain ⟨ha,h7,_,hws⟩ := hw
     have hkid : ∀ c ∈ kids,∃ j,j < kids.length /\ wf c /\ wanted k j <= rkT c /\ (c.k = 25 ↔ (k = 10 /\ j = 0)) /\ (c.k ≠ 25 -> RK c) := fun c hc => by
      obtain ⟨j,_,j2,j3,j4,j5⟩ := wfs_mem kids 0 hws c hc
      refine ⟨j,by omega,j3,j4,j5,fun c25 L' hL' hg' => ih c ?_ j3 c25 L' hL' hg'⟩
      have := List.sizeOf_lt_of_mem hc
      simp at hs;omega
     cases b with
     | succ b =>
       have hLs := hL
       rw [fl_succ] at hLs
       have hin := cut_in hLs
       refine res_brk hw0 hk25 hL fun p => ?_
       by_cases ht : k = 7 /\ b = 0
       ·obtain ⟨rfl,rfl⟩ := ht
        have hm : 2 <= kids.length := by simp [arB] at ha;exact ha.1.1
        match kids,hm,hkid,hws,hin with
        | c0 :: c1 :: r,_,hkid,hws,hin =>
          have hall : ∀ c ∈ c0 :: c1 :: r,wf c /\ c.k ≠ 25 /\ RK c := fun c hc => by
           obtain ⟨j,_,j2,_,j4,j5⟩ := hkid c hc
           have : c.k ≠ 25 := fun e => by have := (j4.1 e).1;omega
           exact ⟨j2,this,j5 this⟩
          have hin' : tks (cutL L 1 (L.length - 1)) = fl c0 ++ flk 7 s (0 + 1) (c1 :: r) := by rw [hin];simp [fl,pre,flk,sep,post]
          obtain ⟨L',hL'⟩ : ∃ L',L' = cutL L 1 (L.length - 1) := ⟨_,rfl⟩
          have hg' : ∀ t ∈ L',gd t := by rw [hL'];exact gd_cut hg _ _
          rw [<- hL'] at hin' ⊢
          have hc0 := (hall c0 (by simp)).1
          have hl' : 0 < L'.length := by rw [<- tks_len,hin'];have := fl_pos hc0;simp;omega
          have hdep : dep 0 (fl c0 ++ flk 7 s (0 + 1) (c1 :: r)) = some 0 := by
           rw [dep_app,fl_dep hc0]
           exact (flk_bal (c1 :: r) (wfs_fines _ _ _ hws.2.2.2) 7 s xs _ ha (by decide) 1 (by simp)).dep 0
          have hcm : cmL L' = cms 0 (cp (0 + (fl c0).length) (c1 :: r)) := by
           refine cm_pos hin' hdep ?_
           rw [(fl_bal c0 (wf_fine c0 hc0)).pos,no_com hc0 (fun e => absurd e (hall c0 (by simp)).2.1),List.nil_append]
           exact cp_pos s (c1 :: r) 0 _ _ (fun c hc => ⟨(hall c (by simp at hc ⊢;exact .inr hc)).1,(hall c (by simp at hc ⊢;exact .inr hc)).2.1⟩)
          obtain ⟨gs,g,i1,i2,i3,i4,i5,i6⟩ := tup L' hg' s (c1 :: r) c0 0 0 hc0 (by rw [List.drop_zero];exact hin') (fun c hc => (hall c hc).2.2) (fun c hc => (hall c (by simp at hc ⊢;exact .inr hc)).1)
          rw [<- hcm] at i1 i2 i4 i6
          have hne := i6 (by simp)
          refine ⟨_,.tu hl' (by omega) i4 i1 i2,?_⟩
          rw [er,i3];rfl
       ·have hw' : wf (.nd b k s n xs kids) := by
         rw [wf]
         exact ⟨ha,fun e => by have := h7 e;omega,fun e => absurd e hk25,hws⟩
        have hres := ih (.nd b k s n xs kids) (by simp at hs ⊢;omega) hw' h25 _ hin (gd_cut hg _ _)
        obtain ⟨g,g1,g2⟩ := hres.1 0
        have hcm : cmL (cutL L 1 (L.length - 1)) = ([],0) := cm_pos (hs := []) hin (fl_dep hw') (no_com hw' (fun e => absurd e hk25) 0 0)
        exact ⟨g,.on (len_pos hin hw') hcm g1,g2⟩
     | zero =>
       have hk7 : k ≠ 7 := fun e => by have := h7 e;omega
       by_cases hk6 : k <= 6
       ·obtain ⟨hm0,hr7⟩ := atomOf ha hk6
        have : kids = [] := List.eq_nil_of_length_eq_zero hm0
        subst this
        exact res_opd hw0 h25 (by simp [rkT,hr7]) hL (res_atom hk6 hw0 hL hg)
       ·have h2 : ∀ {m},kids.length = m -> kids.length = m := fun h => h
        match k,hk6,hk7,hk25 with
        | 8,_,_,_ =>
          simp [arB] at ha
          match kids,ha.1,xs,ha.2 with
          | [a,b],_,[x],_ =>
            obtain ⟨_,_,wa,_,a25,ra⟩ := hkid a (by simp)
            obtain ⟨_,_,wb,_,b25,rb⟩ := hkid b (by simp)
            exact res_low (by simp [rkT,rk]) (res_let rfl hL hg (ra (fun e => by have := (a25.1 e).1;omega)) (rb (fun e => by have := (b25.1 e).1;omega)) wa wb)
        | 9,_,_,_ =>
          simp [arB] at ha
          match kids,ha.1.1 with
          | [a,b],_ =>
            obtain ⟨_,_,wa,_,a25,ra⟩ := hkid a (by simp)
            obtain ⟨_,_,wb,_,b25,rb⟩ := hkid b (by simp)
            exact res_low (by simp [rkT,rk]) (res_rec rfl ha.1.2 hL hg (ra (fun e => by have := (a25.1 e).1;omega)) (rb (fun e => by have := (b25.1 e).1;omega)) wa wb)
        | 10,_,_,_ =>
          simp [arB] at ha
          match kids,ha.1,hws with
          | [q,a,b],_,hws =>
            obtain ⟨_,hq,_⟩ : wf q /\ q.k = 25 /\ True := ⟨hws.1,hws.2.2.1.2 ⟨rfl,rfl⟩,trivial⟩
            have wq := hws.1
            have wa := hws.2.2.2.1
            have wb := hws.2.2.2.2.2.2.1
            have a25 : a.k ≠ 25 := fun e => by have := (hws.2.2.2.2.2.1.1 e).2;omega
            have b25 : b.k ≠ 25 := fun e => by have := (hws.2.2.2.2.2.2.2.2.1.1 e).2;omega
            obtain ⟨_,_,_,_,_,ra⟩ := hkid a (by simp)
            obtain ⟨_,_,_,_,_,rb⟩ := hkid b (by simp)
            cases q with
            | nd bq kq sq nq ys kq' =>
              have hkq : kq = 25 := hq
              subst hkq
              rw [wf] at wq
              have hb1 := wq.2.2.1 rfl
              subst hb1
              have hya := wq.1
              simp [arB] at hya
              obtain ⟨⟨hk0,hy2⟩,_⟩ := hya
              subst hk0
              exact res_low (by simp [rkT,rk]) (res_pair rfl hy2 hL hg (ra a25) (rb b25) wa wb)
        | 11,_,_,_ =>
          simp [arB] at ha
          match kids,ha.1 with
          | [a,b,c],_ =>
            obtain ⟨_,_,wa,_,a25,ra⟩ := hkid a (by simp)
            obtain ⟨_,_,wb,_,b25,rb⟩ := hkid b (by simp)
            obtain ⟨_,_,wc,_,c25,rc⟩ := hkid c (by simp)
            exact res_low (by simp [rkT,rk]) (res_if rfl hL hg (ra (fun e => by have := (a25.1 e).1;omega)) (rb (fun e => by have := (b25.1 e).1;omega)) (rc (fun e => by have := (c25.1 e).1;omega)) wa wb wc)
        | 12,_,_,_ =>
          simp [arB] at ha
          match kids,ha.1.1 with
          | [b],_ =>
            obtain ⟨_,_,wb,_,b25,rb⟩ := hkid b (by simp)
            exact res_low (by simp [rkT,rk]) (res_fun rfl hL hg (rb (fun e => by have := (b25.1 e).1;omega)) wb)
        | 13,_,_,_ =>
          simp [arB] at ha
          match kids,ha.1 with
          | [a],_ =>
            obtain ⟨_,_,wa,_,a25,ra⟩ := hkid a (by simp)
            exact res_low (by simp [rkT,rk]) (res_un (.inl rfl) hw0 hL hg (ra (fun e => by have := (a25.1 e).1;omega)) wa)
        | 14,_,_,_ =>
          simp [arB] at ha
          match kids,ha.1 with
          | [a],_ =>
            obtain ⟨_,_,wa,_,a25,ra⟩ := hkid a (by simp)
            exact res_low (by simp [rkT,rk]) (res_un (.inr rfl) hw0 hL hg (ra (fun e => by have := (a25.1 e).1;omega)) wa)
        | 15,_,_,_ =>
          simp [arB] at ha
          match kids,ha.1.1,hws with
          | [a,b],_,hws =>
            obtain ⟨_,_,wa,_,a25,ra⟩ := hkid a (by simp)
            obtain ⟨_,_,wb,_,b25,rb⟩ := hkid b (by simp)
            have a25' : a.k ≠ 25 := fun e => by have := (a25.1 e).1;omega
            exact res_low (by simp [rkT,rk]) (res_pro hw0 (by simp [isPro];omega) hL hg (ra a25') (rb (fun e => by have := (b25.1 e).1;omega)) wa wb a25' hws.2.1 hws.2.2.2.2.1)
        | 16,_,_,_ =>
          simp [arB] at ha
          match kids,ha.1.1,hws with
          | [a,b],_,hws =>
            obtain ⟨_,_,wa,_,a25,ra⟩ := hkid a (by simp)
            obtain ⟨_,_,wb,_,b25,rb⟩ := hkid b (by simp)
            have a25' : a.k ≠ 25 := fun e => by have := (a25.1 e).1;omega
            have b25' : b.k ≠ 25 := fun e => by have := (b25.1 e).1;omega
            exact res_low (by simp [rkT,rk]) (res_sum hw0 (by simp [isSum];omega) hL hg (ra a25') (rb b25') wa wb a25' b25' hws.2.1 hws.2.2.2.2.1)
        | 17,_,_,_ =>
          simp [arB] at ha
          match kids,ha.1.1,hws with
          | [a,b],_,hws =>
            obtain ⟨_,_,wa,_,a25,ra⟩ := hkid a (by simp)
            obtain ⟨_,_,wb,_,b25,rb⟩ := hkid b (by simp)
            have a25' : a.k ≠ 25 := fun e => by have := (a25.1 e).1;omega
            have b25' : b.k ≠ 25 := fun e => by have := (b25.1 e).1;omega
            exact res_low (by simp [rkT,rk]) (res_cmp hw0 (by simp [isCmp];omega) hL hg (ra a25') (rb b25') wa wb a25' hws.2.1 hws.2.2.2.2.1)
        | 18,_,_,_ =>
          simp [arB] at ha
          match kids,ha.1,hws with
          | [a,b],_,hws =>
            obtain ⟨_,_,wa,_,a25,ra⟩ := hkid a (by simp)
            obtain ⟨_,_,wb,_,b25,rb⟩ := hkid b (by simp)
            have a25' : a.k ≠ 25 := fun e => by have := (a25.1 e).1;omega
            have b25' : b.k ≠ 25 := fun e => by have := (b25.1 e).1;omega
            exact res_low (by simp [rkT,rk]) (res_seq hL hg (ra a25') (rb b25') wa wb a25' hws.2.1)
        | 19,_,_,_ =>
          have hkk : ∀ c ∈ kids,KidOk c := fun c hc => by
           obtain ⟨j,_,wc,rc,c25,rr⟩ := hkid c hc
           have c25' : c.k ≠ 25 := fun e => by have := (c25.1 e).1;omega
           exact ⟨wc,c25',rc,rr c25'⟩
          simp [arB] at ha
          match kids,ha.1.1,hkk with
          | c0 :: c1 :: r,_,hkk => exact res_low (by simp [rkT,rk]) (res_call hw0 hL hg hkk)
        | 20,_,_,_ =>
          simp [arB] at ha
          match kids,ha.1,hws with
          | [a,b],_,hws =>
            obtain ⟨_,_,wa,_,a25,ra⟩ := hkid a (by simp)
            obtain ⟨_,_,wb,_,b25,rb⟩ := hkid b (by simp)
            have a25' : a.k ≠ 25 := fun e => by have := (a25.1 e).1;omega
            have b25' : b.k ≠ 25 := fun e => by have := (b25.1 e).1;omega
            exact res_opd hw0 h25 (by simp [rkT,rk]) hL (res_get hw0 hL hg ⟨wa,a25',hws.2.1,ra a25'⟩ wb (rb b25'))
        | 21,_,_,_ =>
          have hkk : ∀ c ∈ kids,KidOk c := fun c hc => by
           obtain ⟨j,_,wc,rc,c25,rr⟩ := hkid c hc
           have c25' : c.k ≠ 25 := fun e => by have := (c25.1 e).1;omega
           exact ⟨wc,c25',rc,rr c25'⟩
          simp [arB] at ha
          match kids,ha.1,hkk with
          | c0 :: r,_,hkk => exact res_low (by simp [rkT,rk]) (res_word (w := 14) (.inl ⟨rfl,rfl⟩) hw0 hL hg hkk)
        | 22,_,_,_ =>
          have hkk : ∀ c ∈ kids,KidOk c := fun c hc => by
           obtain ⟨j,_,wc,rc,c25,rr⟩ := hkid c hc
           have c25' : c.k ≠ 25 := fun e => by have := (c25.1 e).1;omega
           exact ⟨wc,c25',rc,rr c25'⟩
          simp [arB] at ha
          match kids,ha.1,hkk with
          | c0 :: r,_,hkk => exact res_low (by simp [rkT,rk]) (res_word (w := 15) (.inr (.inl ⟨rfl,rfl⟩)) hw0 hL hg hkk)
        | 23,_,_,_ =>
          have hkk : ∀ c ∈ kids,KidOk c := fun c hc => by
           obtain ⟨j,_,wc,rc,c25,rr⟩ := hkid c hc
           have c25' : c.k ≠ 25 := fun e => by have := (c25.1 e).1;omega
           exact ⟨wc,c25',rc,rr c25'⟩
          simp [arB] at ha
          match kids,ha.1,hkk with
          | c0 :: r,_,hkk => exact res_low (by simp [rkT,rk]) (res_word (w := 16) (.inr (.inr (.inl ⟨rfl,rfl⟩))) hw0 hL hg hkk)
        | 24,_,_,_ =>
          have hkk : ∀ c ∈ kids,KidOk c := fun c hc => by
           obtain ⟨j,_,wc,rc,c25,rr⟩ := hkid c hc
           have c25' : c.k ≠ 25 := fun e => by have := (c25.1 e).1;omega
           exact ⟨wc,c25',rc,rr c25'⟩
          simp [arB] at ha
          match kids,ha.1,hkk with
          | c0 :: r,_,hkk => exact res_low (by simp [rkT,rk]) (res_word (w := 17) (.inr (.inr (.inr ⟨rfl,rfl⟩))) hw0 hL hg hkk)
        | 0,h,_,_ | 1,h,_,_ | 2,h,_,_ | 3,h,_,_ | 4,h,_,_ | 5,h,_,_ | 6,h,_,_ => exact absurd (by omega) h
        | 7,_,h,_ => exact absurd rfl h
        | 25,_,_,h => exact absurd rfl h
        | k + 26,_,_,_ => simp [arB] at ha
theorem tree_fl {c : T} {L : List Tok} (hw : wf c) (h25 : c.k ≠ 25) (hL : tks L = fl c) (hg : ∀ t ∈ L,gd t) : ∃ g,TreeOK L g /\ er g = gt c := by
 obtain ⟨g,h1,h2⟩ := (tg_of _ c (Nat.le_refl _) hw h25 L hL hg).1 0
 exact ⟨g,tree_any h1,h2⟩
end Go.Proofs.YtmkdoejpgkgpbaaGreatDoor
