import Derived.Test.YtmkdoejpgkgpbaaGreatDoorS35
import Derived.Deep.LoopGhost
set_option linter.unusedVariables false
set_option linter.unusedSimpArgs false
set_option maxHeartbeats 20000000
namespace Go.Proofs.YtmkdoejpgkgpbaaGreatDoor
open Go.RowKit Sl
section
variable {w0 : World} {p base : Nat} {pv : Value} {ps : List CP} {vs : List (Value × Value)}
theorem wanted10 (j : Nat) : wanted 10 j = 0 := rfl
theorem bare_tree (E : WE w0 p base pv ps vs) {i k s n b q : Nat} {xs : List ByteArray} {kids : List T} {cp : CP} {na ka : Option Addr} {nc kc : Nat} (ha : arB k s xs kids.length = true) (hpt : patss k 0 kids) (hfi : fines kids) (h25 : k ≠ 25) (hq : q <= 7) (hok : ∀ t ∈ fl (mi q (.nd b k s n xs kids)),okW t)
 (hI : PtI ps vs i k cp.a (wdO k s) cp.nm na cp.ns.length nc ka cp.ks.length kc) (hN : w0.ownsRow base 9 1 (.slice na cp.ns.length nc) cp.ns.length (cp.ns.map Value.string)) (hnm : k = 1 -> cp.nm = n) (hns : cp.ns = (if k = 10 then patNames kids else xs)) (hks : cp.ks.length = kids.length - (if k = 10 then 1 else 0))
 (HK : ∀ j,j < cp.ks.length -> ∀ o1,(kfT k (if k = 10 then 1 else 0) kids j o1).size <= 100000000 -> KiW w0 p pv i k cp.a (wdO k s) cp.nm na cp.ns.length nc ka cp.ks.length kc j o1 (kfT k (if k = 10 then 1 else 0) kids j o1)) (o : ByteArray) (hsz : (WrL o (bodT k s n xs kids)).size <= 100000000) :
 BaW w0 p pv i k cp.a (wdO k s) cp.nm na cp.ns.length nc ka cp.ks.length kc o (WrL o (bodT k s n xs kids)) := by
 obtain ⟨hk26,hk0,hwd,hm6,hx6⟩ := arB_k ha
 obtain ⟨r0,r8,r10,r11,r12,r25,rB⟩ := ar2 ha
 intro w ov h
 have hpre := pre_okW h25 hq hok
 obtain ⟨A,hA⟩ : ∃ A,cp.a = A := ⟨_,rfl⟩
 obtain ⟨NM,hNM⟩ : ∃ NM,cp.nm = NM := ⟨_,rfl⟩
 obtain ⟨NS,hNS⟩ : ∃ NS,cp.ns = NS := ⟨_,rfl⟩
 obtain ⟨KL,hKL⟩ : ∃ KL,cp.ks.length = KL := ⟨_,rfl⟩
 rw [hA,hNM,hNS,hKL] at hI HK ⊢
 rw [hNS] at hN hns
 rw [hKL] at hks
 rw [hNM] at hnm
 clear hA hNM hNS hKL
 rcases k_cases hk26 hk0 h25 with h1 | h5 | h67 | h8 | h9 | h10 | h11 | h12 | hB | h20 | hD
 ·subst h1
  obtain rfl := r0 (.inl rfl)
  rw [<- bod1] at hsz ⊢
  have hn := (hpre (nuTk n) (by simp [pre])).2 rfl
  exact bare1_w E hn (hnm rfl) rfl hsz h
 ·subst h5
  obtain rfl := r0 (.inr (.inl rfl))
  rw [if_neg (by omega)] at hns
  subst hns
  rw [<- bod5] at hsz ⊢
  exact bare5_w E hN (by omega) (fun x hx => by
   have := (hpre (nmTk x) (List.mem_map_of_mem hx)).1
   rw [show wt (nmTk x) = x by simp [wt,nmTk]] at this
   omega) rfl hsz h
 ·rcases h67 with h6 | h7
  ·subst h6
   obtain rfl := r0 (.inr (.inr rfl))
   rw [if_neg (by omega)] at hks
   simp at hks
   subst hks
   rw [<- bod6] at hsz ⊢
   exact bare67_w (kf := kfT 6 0 []) E (kfT_mono _ _ _) (fun j hj => absurd hj (by omega)) (by omega) (.inl rfl) hsz h
  ·subst h7
   simp only [show ((7 : Nat) = 10) = False by simp,if_false] at hks HK
   rw [<- bod7] at hsz ⊢
   rw [Nat.sub_zero] at hks
   subst hks
   exact bare67_w (kf := kfT 7 0 kids) E (kfT_mono _ _ _) HK (by omega) (.inr rfl) hsz h
 ·subst h8
  obtain ⟨a,b',rfl⟩ := r8 (.inl rfl)
  simp only [show ((8 : Nat) = 10) = False by simp,if_false] at hks HK hns
  subst hns
  simp at hks
  subst hks
  rw [<- bod8] at hsz ⊢
  refine bareL_w (fun w ov h => ?_) (.inl rfl) h
  exact let8_w (kf := kfT 8 0 [a,b']) E (kfT_mono _ _ _) HK (by omega) hN (by omega) (fun x hx => by
   have := (hpre (nmTk x) (List.mem_cons_of_mem _ (List.mem_append_left _ (List.mem_map_of_mem hx)))).1
   rw [show wt (nmTk x) = x by simp [wt,nmTk]] at this
   omega) rfl rfl hsz h
 ·subst h9
  obtain ⟨a,b',rfl⟩ := r8 (.inr rfl)
  simp only [show ((9 : Nat) = 10) = False by simp,if_false] at hks HK hns
  subst hns
  simp at hks
  subst hks
  rw [<- bod9] at hsz ⊢
  refine bareL_w (fun w ov h => ?_) (.inr (.inl rfl)) h
  exact let9_w (kf := kfT 9 0 [a,b']) E (kfT_mono _ _ _) HK (by omega) hN (by omega) (fun x hx => by
   have := (hpre (nmTk x) (List.mem_cons_of_mem _ (List.mem_cons_of_mem _ (List.mem_append_left _ (List.mem_map_of_mem hx))))).1
   rw [show wt (nmTk x) = x by simp [wt,nmTk]] at this
   omega) rfl rfl hsz h
 ·subst h10
  obtain ⟨c0,a,b',rfl⟩ := r10 rfl
  have hp0 := patss_at _ 0 0 c0 hpt rfl
  have hk0 : c0.k = 25 := hp0.1.2 ⟨rfl,rfl⟩
  have hf0 := fines_at _ 0 c0 hfi rfl
  cases c0 with
  | nd b2 k2 s2 n2 ys ks2 =>
  have hk2 : k2 = 25 := hk0
  subst hk2
  have hks2 : ks2 = [] := (ar2 hf0.1).2.2.2.2.2.1 rfl
  simp only [if_true] at hks HK hns
  have hns : NS = ys := hns
  subst hns
  simp at hks
  subst hks
  have hys : NS.length <= 6 := (arB_k hf0.1).2.2.2.2
  rw [<- bod10 _ _ _ _ _ _ _ _ _ hks2] at hsz ⊢
  refine bareL_w (fun w ov h => ?_) (.inr (.inr rfl)) h
  refine let10_w (kf := kfT 10 1 [.nd b2 25 s2 n2 NS ks2,a,b']) E (kfT_mono _ _ _) HK (by omega) hN (by omega) (fun x hx => ?_) rfl rfl hsz h
  have hm : nmTk x ∈ fl (mi (wanted 10 0) (.nd b2 25 s2 n2 NS ks2)) := by
   rw [mi,fl]
   have : nmTk x ∈ commas NS := by
    clear hsz HK hok hN hI hpt hp0 hf0 hfi hys ha r8 r10 r11 r12 r25 rB r0 hpre hm6
    cases NS with
    | nil => cases hx
    | cons y r =>
      rw [commas_eq]
      rcases List.mem_cons.1 hx with rfl | hx
      ·simp
      ·simp only [List.mem_cons,List.mem_flatMap]
       exact .inr ⟨x,hx,by simp⟩
   simp [pre,this]
  have := (kid_okW h25 hq hok (j := 0) rfl (nmTk x) hm).1
  rw [show wt (nmTk x) = x by simp [wt,nmTk]] at this
  omega
 ·subst h11
  obtain ⟨a,b',c,rfl⟩ := r11 rfl
  simp only [show ((11 : Nat) = 10) = False by simp,if_false] at hks HK
  simp at hks
  subst hks
  rw [<- bod11] at hsz ⊢
  refine bareI_w (fun w ov h => ?_) rfl h
  exact choice_w (kf := kfT 11 0 [a,b',c]) E (kfT_mono _ _ _) HK (by omega) rfl rfl hsz h
 ·subst h12
  obtain ⟨a,rfl⟩ := r12 rfl
  simp only [show ((12 : Nat) = 10) = False by simp,if_false] at hks HK hns
  subst hns
  simp at hks
  subst hks
  rw [<- bod12] at hsz ⊢
  exact bare12_w (kf := kfT 12 0 [a]) E (kfT_mono _ _ _) HK (by omega) hN (by omega) (fun x hx => by
   have := (hpre (nmTk x) (List.mem_cons_of_mem _ (List.mem_append_left _ (List.mem_map_of_mem hx)))).1
   rw [show wt (nmTk x) = x by simp [wt,nmTk]] at this
   omega) hwd rfl rfl hsz h
 ·have hn10 : k ≠ 10 := by omega
  simp only [if_neg hn10] at hks HK
  rw [Nat.sub_zero] at hks
  subst hks
  rw [<- bodB _ _ _ _ _ _ hB (rB hB)] at hsz ⊢
  exact bareB_w (kf := kfT k 0 kids) E (kfT_mono _ _ _) HK (by omega) hwd hB hsz h
 ·subst h20
  simp only [show ((20 : Nat) = 10) = False by simp,if_false] at hks HK
  rw [Nat.sub_zero] at hks
  subst hks
  rw [<- bod20] at hsz ⊢
  exact bare20_w (kf := kfT 20 0 kids) E (kfT_mono _ _ _) HK (by omega) hwd rfl hsz h
 ·have hn10 : k ≠ 10 := by omega
  simp only [if_neg hn10] at hks HK
  rw [Nat.sub_zero] at hks
  subst hks
  rw [<- bodD _ _ s _ _ _ hD] at hsz ⊢
  exact bareD_w (kf := kfT k 0 kids) E (kfT_mono _ _ _) HK (by omega) hwd hD hsz h
theorem write_tree (E : WE w0 p base pv ps vs) : ∀ (N : Nat) (c : T),SizeOf.sizeOf c <= N -> fine c -> pats c -> c.k ≠ 25 -> ∀ (i : Nat),Rep ps i c -> ∀ q,q <= 7 -> ∀ o,(∀ t ∈ fl (mi q c),okW t) -> (WrL o (fl (mi q c))).size <= 100000000 -> PaW w0 p pv i q o (WrL o (fl (mi q c))) := by
 intro N
 induction N with
 | zero => intro c hs;cases c;simp at hs
 | succ N ih =>
   intro c hs hf hpt h25 i hR q hq o hok hsz
   cases c with
   | nd b k s n xs kids =>
   have h25 : k ≠ 25 := h25
   rw [fine] at hf
   obtain ⟨ha,hfi⟩ := hf
   have hpt : patss k 0 kids := hpt
   obtain ⟨hk26,hk0,hwd,hm6,hx6⟩ := arB_k ha
   rw [Rep,if_neg h25] at hR
   obtain ⟨j,cp,hij,hps,hck,hcw,hnm,hns,hRs⟩ := hR
   have hij : i = j := by omega
   subst hij
   obtain ⟨na,nc,ka,kc,hI,hN⟩ := pt_of E hps
   rw [hck,hcw] at hI
   have hlen := hRs.len
   have hks : cp.ks.length = kids.length - (if k = 10 then 1 else 0) := by
    split at hlen
    ·rw [if_pos (by assumption)];simp at hlen;omega
    ·rw [if_neg (by assumption)];omega
   have hkl1 : k = 10 -> 1 <= kids.length := fun h => by rw [if_pos h] at hlen;simp at hlen;omega
   have HK : ∀ jj,jj < cp.ks.length -> ∀ o1,(kfT k (if k = 10 then 1 else 0) kids jj o1).size <= 100000000 -> KiW w0 p pv i k cp.a (wdO k s) cp.nm na cp.ns.length nc ka cp.ks.length kc jj o1 (kfT k (if k = 10 then 1 else 0) kids jj o1) := by
    intro jj hjj o1 hsz1
    obtain ⟨off,hoff⟩ : ∃ off,(if k = 10 then 1 else 0) = off := ⟨_,rfl⟩
    rw [hoff] at hks hsz1 ⊢
    have hlt : jj + off < kids.length := by omega
    obtain ⟨c',hc'⟩ : ∃ c',kids[jj + off]? = some c' := ⟨_,List.getElem?_eq_getElem hlt⟩
    obtain ⟨i',hi1,hi2,hi3⟩ := Reps.at kids _ (jj + off) c' hRs hc'
    have hp' := patss_at kids 0 (jj + off) c' hpt hc'
    have hc25 : c'.k ≠ 25 := fun h => by
     have h5 := hp'.1.1 h
     rw [if_pos h5.1] at hoff
     omega
    have hlt' := hi3.lt hc25
    obtain ⟨kd,rfl⟩ : ∃ kd : Nat,i' = kd := ⟨i'.toNat,by omega⟩
    have hj : cp.ks[jj]? = some (kd : Int) := by
     by_cases h10 : k = 10
     ·rw [if_pos h10] at hoff hi1
      subst hoff
      simpa using hi1
     ·rw [if_neg h10] at hoff hi1
      subst hoff
      simpa using hi1
    have hw : wanted k (jj + off) = wanted k jj := by
     by_cases h10 : k = 10
     ·subst h10;rfl
     ·rw [if_neg h10] at hoff;subst hoff;rfl
    have hok' := kid_okW h25 hq hok hc'
    rw [hw] at hok'
    rw [kfT_at hc'] at hsz1 ⊢
    refine kid_w (kd := kd) E hI hk26 (by omega) ?_ (by omega) ?_
    ·rw [hps];exact hj
    ·have hsz' : SizeOf.sizeOf c' <= N := by
      have := List.sizeOf_lt_of_mem (List.mem_of_getElem? hc')
      simp at hs;omega
     exact ih c' hsz' (fines_at kids _ c' hfi hc') hp'.2 hc25 kd hi3 (wanted k jj) (wanted_le k jj) o1 hok' hsz1
   have HB := fun o1 (h1 : (WrL o1 (bodT k s n xs kids)).size <= 100000000) => bare_tree E ha hpt hfi h25 hq hok hI hN hnm hns hks HK o1 h1
   rw [fl_mi h25 hq] at hsz ⊢
   by_cases hrk : rk k < q
   ·rw [if_pos hrk] at hsz ⊢
    rw [W3 _ _ _ (by omega),WrL_app,W3 _ _ _ (by omega),WrL_nil] at hsz ⊢
    have h1 := (wr1_size (WrL (wr1 o (txt 23)) (bodT k s n xs kids)) (txt 24)).1
    have h2 := WrL_size (bodT k s n xs kids) (wr1 o (txt 23))
    have h3 := (wr1_size o (txt 23)).1
    exact part_w E hI hk26 hq (fun h => absurd h (by omega)) (fun _ => ⟨_,HB _ (by omega),rfl,by omega⟩) (by omega)
   ·rw [if_neg hrk] at hsz ⊢
    have h2 := WrL_size (bodT k s n xs kids) o
    exact part_w E hI hk26 hq (fun _ => HB _ hsz) (fun h => absurd h hrk) (by omega)
end
section
variable {p lb cap base n : Nat} {N : Int} {L : List Tok}
abbrev WkM (p lb cap base : Nat) (N : Int) (L : List Tok) (n F : Nat) (m : Md) : Prop := Wk p lb cap base N L n F #[.pointer (some ⟨p,0,none⟩)] m
set_option maxRecDepth 100000 in
theorem expr_wk (E : PE p lb cap base L) (h1 : WkM p lb cap base N L n 249 .lett) (h2 : WkM p lb cap base N L n 250 .choice) (h3 : WkM p lb cap base N L n 251 .func) (h4 : WkM p lb cap base N L n 252 .seq) : WkM p lb cap base N L (n + 1) 176 .expr := by
 intro w q pv x q' D hpr hpm
 obtain ⟨hfi,k,hk,hst⟩ := pr_fine hpr
 cases hk
 simp only [pstp] at hst
 obtain ⟨kk,hkk⟩ : ∃ kk,q.kind L = kk := ⟨_,rfl⟩
 rw [hkk] at hst
 have HKK : Hid (q.kind L = kk) := hkk
 have HPM : Hid (PM w p lb cap base N L q pv D) := hpm
 clear hkk hpr hpm hfi
 by_cases k3 : kk = 3
 ·subst k3
  rw [if_pos rfl] at hst
  have HST : Hid (pr L N n .lett q = some (x,q')) := hst
  clear hst
  go_enter Tryz.func176,Tryz.ntmps176
  go_wp2_with (first
   | (go_at_call 248;refine (kindM HKK.out E HPM.out).mono ?_;rintro _ w1 ⟨rfl,hm1,hf1⟩)
   | (go_at_call 249;refine (h1.go HST.out hm1).mono ?_;rintro _ w2 ⟨rfl,pv2,hm2,hf2⟩))
  go_ret
  exact ⟨rfl,pv2,hm2,hf1.trans hf2⟩
 rw [if_neg k3] at hst
 by_cases k6 : kk = 6
 ·subst k6
  rw [if_pos rfl] at hst
  have HST : Hid (pr L N n .choice q = some (x,q')) := hst
  clear hst k3
  go_enter Tryz.func176,Tryz.ntmps176
  go_wp2_with (first
   | (go_at_call 248;refine (kindM HKK.out E HPM.out).mono ?_;rintro _ w1 ⟨rfl,hm1,hf1⟩)
   | (go_at_call 250;refine (h2.go HST.out hm1).mono ?_;rintro _ w2 ⟨rfl,pv2,hm2,hf2⟩))
  go_ret
  exact ⟨rfl,pv2,hm2,hf1.trans hf2⟩
 rw [if_neg k6] at hst
 by_cases k9 : kk = 9
 ·subst k9
  rw [if_pos rfl] at hst
  have HST : Hid (pr L N n .func q = some (x,q')) := hst
  clear hst k3 k6
  go_enter Tryz.func176,Tryz.ntmps176
  go_wp2_with (first
   | (go_at_call 248;refine (kindM HKK.out E HPM.out).mono ?_;rintro _ w1 ⟨rfl,hm1,hf1⟩)
   | (go_at_call 251;refine (h3.go HST.out hm1).mono ?_;rintro _ w2 ⟨rfl,pv2,hm2,hf2⟩))
  go_ret
  exact ⟨rfl,pv2,hm2,hf1.trans hf2⟩
 rw [if_neg k9] at hst
 have HST : Hid (pr L N n .seq q = some (x,q')) := hst
 have b1 := ne_int k3
 have b2 := ne_int k6
 have b3 := ne_int k9
 clear hst k3 k6 k9
 go_enter Tryz.func176,Tryz.ntmps176
 go_wp2_with (first
  | (go_at_call 248;refine (kindM HKK.out E HPM.out).mono ?_;rintro _ w1 ⟨rfl,hm1,hf1⟩)
  | (go_at_call 252;refine (h4.go HST.out hm1).mono ?_;rintro _ w2 ⟨rfl,pv2,hm2,hf2⟩))
 go_ret
 exact ⟨rfl,pv2,hm2,hf1.trans hf2⟩
set_option maxRecDepth 100000 in
theorem choice_wk (E : PE p lb cap base L) (he : WkM p lb cap base N L n 176 .expr) : WkM p lb cap base N L (n + 1) 250 .choice := by
 intro w q pv x q' D hpr hpm
 obtain ⟨hfi,k,hk,hst⟩ := pr_fine hpr
 cases hk
 simp only [pstp] at hst
 obtain ⟨a,q1,e1,f1,hst⟩ := bnd_some hst
 obtain ⟨b,q2,e2,f2,hst⟩ := bnd_some hst
 obtain ⟨c,q3,e3,f3,hst⟩ := bnd_some hst
 obtain ⟨_,rfl,rfl⟩ := addR_some hst
 obtain ⟨tk,tp,tn,ts,hcv,h1,h2,-,-⟩ := cwV_nat (q.word L)
 rw [<- h1,<- h2]
 have HCV : Hid (cwV (q.word L) = .agg #[.int .i64 (tk : Nat),.int .i64 (tp : Nat),.int .i64 tn,.string ts]) := hcv
 have HPM : Hid (PM w p lb cap base N L q pv D) := hpm
 have H1 : Hid (pr L N n .expr q.take = some (a,q1)) := e1
 have H2 : Hid (pr L N n .expr (q1.want L 7) = some (b,q2)) := e2
 have H3 : Hid (pr L N n .expr (q2.want L 8) = some (c,q3)) := e3
 have F0 : q.S.next <= 900000 := by have := hfi.1;omega
 have F1 : q1.S.next <= 900000 := by have := f1.1;omega
 have F2 : q2.S.next <= 900000 := by have := f2.1;omega
 clear hcv h1 h2 e1 e2 e3 hst hpr hpm hfi f1 f2
 go_enter Tryz.func250,Tryz.ntmps250
 go_wp2_with (first
  | (go_at_call 254;refine (takeM HCV.out F0 E HPM.out).mono ?_;rintro _ w1 ⟨rfl,hm1,hf1⟩;have np := Nat.ne_of_gt (hm1.lt E);have hr1 := hm1.row _ (Nat.le_refl _))
  | (go_at_call 176;refine (he.go H1.out (hm1.al E _)).mono ?_;rintro _ w2 ⟨rfl,pv2,hm2,hf2⟩;have gf2 := hf1.trans ((Fr.al hm1 E _).trans hf2);obtain ⟨bx2,hr2⟩ := hf2.loc (blk_new w1 _) np hr1;clear hm1 H1)
  | (go_at_call 177;refine (wantM' F1 E hm2).mono ?_;rintro _ w3 ⟨⟨y0,y1,y2,y3,rfl⟩,hm3,hf3⟩;obtain ⟨bx3,hr3⟩ := hf3.loc bx2 np hr2;have gf3 := gf2.trans hf3;clear hm2)
  | (go_at_call 176;refine (he.go H2.out hm3).mono ?_;rintro _ w4 ⟨rfl,pv4,hm4,hf4⟩;obtain ⟨bx4,hr4⟩ := hf4.loc bx3 np hr3;have gf4 := gf3.trans hf4;clear hm3 H2)
  | (go_at_call 177;refine (wantM' F2 E hm4).mono ?_;rintro _ w5 ⟨⟨z0,z1,z2,z3,rfl⟩,hm5,hf5⟩;obtain ⟨bx5,hr5⟩ := hf5.loc bx4 np hr4;have gf5 := gf4.trans hf5;clear hm4)
  | (go_at_call 176;refine (he.go H3.out hm5).mono ?_;rintro _ w6 ⟨rfl,pv6,hm6,hf6⟩;obtain ⟨bx6,hr6⟩ := hf6.loc bx5 np hr5;have gf6 := gf5.trans hf6;have c0 := blk_at bx6 0 rfl;have c1 := blk_at bx6 1 rfl;have d0 := blk_cell bx6 0 rfl;have d1 := blk_cell bx6 1 rfl;clear hm5 H3 bx2 bx3 bx4 bx5 bx6)
  | (go_at_call 317;refine (addM (k := 11) (a := tp) (wd := tk) (nm := 0) (ns := []) (ks := [a,b,c]) f3 E (hm6.al E _) (nmr_none _ _ _ _) (kdr_new hm6 hm6.bs [a,b,c] (by simp) rfl rfl rfl)).mono ?_;rintro _ w7 ⟨rfl,pv7,hm7,hf7⟩))
 go_ret
 exact ⟨rfl,pv7,hm7,gf6.trans ((Fr.al hm6 E _).trans hf7)⟩
end
theorem parL_next (L : List Tok) : ∀ (f : Nat) (S : PF) (ns : List ByteArray),(parL L f S ns).1.next <= S.next + f
 | 0,S,ns => Nat.le_refl _
 | f + 1,S,ns => by
   rw [parL]
   split
   ·have := parL_next L f S.take (ns ++ [tkNm (cwAt L S.next)])
    have h : S.take.next = S.next + 1 := rfl
    omega
   ·show S.next <= _;omega
theorem tupL_next (L : List Tok) {M : Nat} (hL : L.length <= M) : ∀ (f : Nat) (S : PF) (ns : List ByteArray) (k : Nat),S.next <= M + k -> (tupL L f S ns).1.next <= M + k + 2 * f
 | 0,S,ns,k,h => by simpa [tupL] using h
 | f + 1,S,ns,k,h => by
   rw [tupL]
   split
   ·have h1 : S.take.next <= M + (k + 1) := by show S.next + 1 <= _;omega
    have h2 := want_next' (L := L) (k := 2) (M := M + (k + 1)) (S := S.take) (by omega) h1
    have := tupL_next L hL f (S.take.want L 2) (ns ++ [tkNm (wantW L 2 S.take)]) (k + 2) (by omega)
    omega
   ·show S.next <= _;omega
theorem par_next {L : List Tok} {q : Q} (hL : L.length <= 1000) (h : q.S.next <= 600000) : (q.par L).1.S.next <= 700000 := by
 have h1 := want_next' (L := L) (k := 2) (M := 600000) (S := q.S) (by omega) h
 have h2 := parL_next L 3 (q.S.want L 2) [tkNm (wantW L 2 q.S)]
 show (parL L 3 (q.S.want L 2) [tkNm (wantW L 2 q.S)]).1.next <= _
 omega
theorem fnm_next {L : List Tok} {q : Q} (hL : L.length <= 1000) (h : q.S.next <= 600000) : (q.fnm L).1.S.next <= 700000 := by
 have h1 := want_next' (L := L) (k := 2) (M := 600000) (S := q.S) (by omega) h
 have h2 := want_next' (L := L) (k := 2) (M := 600001) (S := q.S.want L 2) (by omega) h1
 have h3 := parL_next L 3 ((q.S.want L 2).want L 2) [tkNm (wantW L 2 (q.S.want L 2))]
 show (parL L 3 ((q.S.want L 2).want L 2) [tkNm (wantW L 2 (q.S.want L 2))]).1.next <= _
 omega
theorem tpm_next {L : List Tok} {N : Int} {q : Q} (hL : L.length <= 1000) (h : q.S.next <= 600000) : (q.tpm L N).1.S.next <= 700000 := by
 have h0 := begin_next (L := L) (N := N) (k := 23) (M := 600000) (S := q.S) (by omega) h
 have h1 := want_next' (L := L) (k := 2) (M := 600001) (S := q.S.begin L N 23) (by omega) h0
 have h2 := want_next' (L := L) (k := 25) (M := 600002) (S := (q.S.begin L N 23).want L 2) (by omega) h1
 have h3 := want_next' (L := L) (k := 2) (M := 600003) (S := ((q.S.begin L N 23).want L 2).want L 25) (by omega) h2
 have h4 := tupL_next L (M := 600004) (by omega) 4 ((((q.S.begin L N 23).want L 2).want L 25).want L 2) [tkNm (wantW L 2 (q.S.begin L N 23)),tkNm (wantW L 2 (((q.S.begin L N 23).want L 2).want L 25))] 0 (by omega)
 have h5 := want_next' (L := L) (k := 24) (M := 600012) (S := (tpB L N q.S).1) (by omega) (by unfold tpB;omega)
 show ((tpB L N q.S).1.want L 24).next <= _
 omega
section
variable {p lb cap base n : Nat} {N : Int} {L : List Tok}
set_option maxRecDepth 100000 in
theorem func_wk (E : PE p lb cap base L) (he : WkM p lb cap base N L n 176 .expr) : WkM p lb cap base N L (n + 1) 251 .func := by
 intro w q pv x q' D hpr hpm
 obtain ⟨hfi,k,hk,hst⟩ := pr_fine hpr
 cases hk
 simp only [pstp] at hst
 obtain ⟨q1,ns,hz⟩ : ∃ q1 ns,q.take.par L = (q1,ns) := ⟨_,_,rfl⟩
 rw [hz] at hst
 obtain ⟨b,q2,e1,f1,hst⟩ := bnd_some hst
 obtain ⟨_,rfl,rfl⟩ := addR_some hst
 obtain ⟨tk,tp,tn,ts,hcv,h1,h2,-,-⟩ := cwV_nat (q.word L)
 rw [<- h1,<- h2]
 have HCV : Hid (cwV (q.word L) = .agg #[.int .i64 (tk : Nat),.int .i64 (tp : Nat),.int .i64 tn,.string ts]) := hcv
 have HPM : Hid (PM w p lb cap base N L q pv D) := hpm
 have HZ : Hid (q.take.par L = (q1,ns)) := hz
 have H1 : Hid (pr L N n .expr (q1.want L 22) = some (b,q2)) := e1
 have F0 : q.S.next <= 900000 := by have := hfi.1;omega
 have F1 : q.take.S.next <= 800000 := by have := hfi.1;show q.S.next + 1 <= _;omega
 have F2 : q1.S.next <= 900000 := by
  have := par_next (L := L) (q := q.take) E.len (by have := hfi.1;show q.S.next + 1 <= _;omega)
  rw [hz] at this
  simp only at this;omega
 clear hcv h1 h2 e1 hst hpr hpm hfi hz
 go_enter Tryz.func251,Tryz.ntmps251
 go_wp2_with (first
  | (go_at_call 254;refine (takeM HCV.out F0 E HPM.out).mono ?_;rintro _ w1 ⟨rfl,hm1,hf1⟩;have np := Nat.ne_of_gt (hm1.lt E);have hr1 := hm1.row _ (Nat.le_refl _))
  | (go_at_call 318;refine (parM HZ.out F1 E (hm1.al E _)).mono ?_;rintro _ w2 ⟨na,nc,rfl,hm2,hn2,hf2⟩;have gf2 := hf1.trans ((Fr.al hm1 E _).trans hf2);obtain ⟨bx2,hr2⟩ := hf2.loc (blk_new w1 _) np hr1;clear hm1)
  | (go_at_call 177;refine (wantM' F2 E hm2).mono ?_;rintro _ w3 ⟨⟨y0,y1,y2,y3,rfl⟩,hm3,hf3⟩;obtain ⟨bx3,hr3⟩ := hf3.loc bx2 np hr2;have hn3 := hn2.fr hf3 E.pb;have gf3 := gf2.trans hf3;clear hm2)
  | (go_at_call 176;refine (he.go H1.out hm3).mono ?_;rintro _ w4 ⟨rfl,pv4,hm4,hf4⟩;obtain ⟨bx4,hr4⟩ := hf4.loc bx3 np hr3;have hn4 := hn3.fr hf4 E.pb;have gf4 := gf3.trans hf4;have c0 := blk_at bx4 0 rfl;have c1 := blk_at bx4 1 rfl;have d0 := blk_cell bx4 0 rfl;have d1 := blk_cell bx4 1 rfl;clear hm3 bx2 bx3 bx4)
  | (go_at_call 317;refine (addM (k := 12) (a := tp) (wd := tk) (nm := 0) (ns := ns) (ks := [b]) f1 E (hm4.al E _) (hn4.fr (Fr.al hm4 E _) E.pb) (kdr_new hm4 hm4.bs [b] (by simp) rfl rfl rfl)).mono ?_;rintro _ w7 ⟨rfl,pv7,hm7,hf7⟩))
 go_ret
 exact ⟨rfl,pv7,hm7,gf4.trans ((Fr.al hm4 E _).trans hf7)⟩
set_option maxRecDepth 100000 in
theorem seq_wk (E : PE p lb cap base L) (h1 : WkM p lb cap base N L n 319 .cmp) (h2 : WkM p lb cap base N L n 176 .expr) : WkM p lb cap base N L (n + 1) 252 .seq := by
 intro w q pv x q' D hpr hpm
 obtain ⟨hfi,k,hk,hst⟩ := pr_fine hpr
 cases hk
 simp only [pstp] at hst
 obtain ⟨a,q1,e1,f1,hst⟩ := bnd_some hst
 have HPM : Hid (PM w p lb cap base N L q pv D) := hpm
 have H1 : Hid (pr L N n .cmp q = some (a,q1)) := e1
 obtain ⟨kk,hkk⟩ : ∃ kk,q1.kind L = kk := ⟨_,rfl⟩
 rw [hkk] at hst
 have HKK : Hid (q1.kind L = kk) := hkk
 clear hpr hpm hfi e1 hkk
 by_cases hk : kk = 26
 ·subst hk
  rw [if_neg (by simp)] at hst
  obtain ⟨b,q2,e2,f2,hst⟩ := bnd_some hst
  obtain ⟨_,rfl,rfl⟩ := addR_some hst
  obtain ⟨tk,tp,tn,ts,hcv,g1,g2,-,-⟩ := cwV_nat (q1.word L)
  rw [<- g1,<- g2]
  have HCV : Hid (cwV (q1.word L) = .agg #[.int .i64 (tk : Nat),.int .i64 (tp : Nat),.int .i64 tn,.string ts]) := hcv
  have H2 : Hid (pr L N n .expr q1.take = some (b,q2)) := e2
  have F1 : q1.S.next <= 900000 := by have := f1.1;omega
  clear hcv g1 g2 e2 hst f1
  go_enter Tryz.func252,Tryz.ntmps252
  go_wp2_with (first
   | (go_at_call 319;refine (h1.go H1.out HPM.out).mono ?_;rintro _ w1 ⟨rfl,pv1,hm1,hf1⟩;clear HPM)
   | (go_at_call 248;refine (kindM HKK.out E hm1).mono ?_;rintro _ w2 ⟨rfl,hm2,hf2⟩;have gf2 := hf1.trans hf2;clear hm1)
   | (go_at_call 254;refine (takeM HCV.out F1 E hm2).mono ?_;rintro _ w3 ⟨rfl,hm3,hf3⟩;have np := Nat.ne_of_gt (hm3.lt E);have hr3 := hm3.row _ (Nat.le_refl _);have gf3 := gf2.trans hf3;clear hm2)
   | (go_at_call 176;refine (h2.go H2.out (hm3.al E _)).mono ?_;rintro _ w4 ⟨rfl,pv4,hm4,hf4⟩;obtain ⟨bx4,hr4⟩ := hf4.loc (blk_new w3 _) np hr3;have gf4 := gf3.trans ((Fr.al hm3 E _).trans hf4);have c0 := blk_at bx4 0 rfl;have c1 := blk_at bx4 1 rfl;have c2 := blk_at bx4 2 rfl;have c3 := blk_at bx4 3 rfl;clear hm3 bx4)
   | (go_at_call 320;refine (betweenM (k := 18) f2 E hm4).mono ?_;rintro _ w5 ⟨rfl,pv5,hm5,hf5⟩))
  go_ret
  exact ⟨rfl,pv5,hm5,gf4.trans hf5⟩
 ·rw [if_pos (by simpa using hk)] at hst
  obtain ⟨_,rfl,rfl⟩ := out_some hst
  have hb := ne_int hk
  clear hst hk
  go_enter Tryz.func252,Tryz.ntmps252
  go_wp2_with (first
   | (go_at_call 319;refine (h1.go H1.out HPM.out).mono ?_;rintro _ w1 ⟨rfl,pv1,hm1,hf1⟩;clear HPM)
   | (go_at_call 248;refine (kindM HKK.out E hm1).mono ?_;rintro _ w2 ⟨rfl,hm2,hf2⟩;have gf2 := hf1.trans hf2;clear hm1))
  go_ret
  exact ⟨rfl,pv1,hm2,gf2⟩
set_option maxRecDepth 100000 in
theorem cmp_wk (E : PE p lb cap base L) (h1 : WkM p lb cap base N L n 362 .sum) : WkM p lb cap base N L (n + 1) 319 .cmp := by
 intro w q pv x q' D hpr hpm
 obtain ⟨hfi,k,hk,hst⟩ := pr_fine hpr
 cases hk
 simp only [pstp] at hst
 obtain ⟨a,q1,e1,f1,hst⟩ := bnd_some hst
 have HPM : Hid (PM w p lb cap base N L q pv D) := hpm
 have H1 : Hid (pr L N n .sum q = some (a,q1)) := e1
 obtain ⟨kk,hkk⟩ : ∃ kk,cOp (q1.kind L) = kk := ⟨_,rfl⟩
 rw [hkk] at hst
 have HKK : Hid (cOp (q1.kind L) = kk) := hkk
 clear hpr hpm hfi e1 hkk
 by_cases hk : kk = 17
 ·subst hk
  rw [if_neg (by simp)] at hst
  obtain ⟨b,q2,e2,f2,hst⟩ := bnd_some hst
  obtain ⟨_,rfl,rfl⟩ := addR_some hst
  obtain ⟨tk,tp,tn,ts,hcv,g1,g2,-,-⟩ := cwV_nat (q1.word L)
  rw [<- g1,<- g2]
  have HCV : Hid (cwV (q1.word L) = .agg #[.int .i64 (tk : Nat),.int .i64 (tp : Nat),.int .i64 tn,.string ts]) := hcv
  have H2 : Hid (pr L N n .sum q1.take = some (b,q2)) := e2
  have F1 : q1.S.next <= 900000 := by have := f1.1;omega
  clear hcv g1 g2 e2 hst f1
  go_enter Tryz.func319,Tryz.ntmps319
  go_wp2_with (first
   | (go_at_call 362;refine (h1.go H1.out HPM.out).mono ?_;rintro _ w1 ⟨rfl,pv1,hm1,hf1⟩;clear HPM)
   | (go_at_call 363;refine (operatorM HKK.out E hm1).mono ?_;rintro _ w2 ⟨rfl,hm2,hf2⟩;have gf2 := hf1.trans hf2;clear hm1)
   | (go_at_call 254;refine (takeM HCV.out F1 E hm2).mono ?_;rintro _ w3 ⟨rfl,hm3,hf3⟩;have np := Nat.ne_of_gt (hm3.lt E);have hr3 := hm3.row _ (Nat.le_refl _);have gf3 := gf2.trans hf3;clear hm2)
   | (go_at_call 362;refine (h1.go H2.out (hm3.al E _)).mono ?_;rintro _ w4 ⟨rfl,pv4,hm4,hf4⟩;obtain ⟨bx4,hr4⟩ := hf4.loc (blk_new w3 _) np hr3;have gf4 := gf3.trans ((Fr.al hm3 E _).trans hf4);have c0 := blk_at bx4 0 rfl;have c1 := blk_at bx4 1 rfl;have c2 := blk_at bx4 2 rfl;have c3 := blk_at bx4 3 rfl;clear hm3 bx4)
   | (go_at_call 320;refine (betweenM (k := 17) f2 E hm4).mono ?_;rintro _ w5 ⟨rfl,pv5,hm5,hf5⟩))
  go_ret
  exact ⟨rfl,pv5,hm5,gf4.trans hf5⟩
 ·rw [if_pos (by simpa using hk)] at hst
  obtain ⟨_,rfl,rfl⟩ := out_some hst
  have hb := ne_int hk
  clear hst hk
  go_enter Tryz.func319,Tryz.ntmps319
  go_wp2_with (first
   | (go_at_call 362;refine (h1.go H1.out HPM.out).mono ?_;rintro _ w1 ⟨rfl,pv1,hm1,hf1⟩;clear HPM)
   | (go_at_call 363;refine (operatorM HKK.out E hm1).mono ?_;rintro _ w2 ⟨rfl,hm2,hf2⟩;have gf2 := hf1.trans hf2;clear hm1))
  go_ret
  exact ⟨rfl,pv1,hm2,gf2⟩
set_option maxRecDepth 100000 in
theorem un_wk (E : PE p lb cap base L) (h1 : WkM p lb cap base N L n 408 .un) (h2 : WkM p lb cap base N L n 413 .call) : WkM p lb cap base N L (n + 1) 408 .un := by
 intro w q pv x q' D hpr hpm
 obtain ⟨hfi,k,hk,hst⟩ := pr_fine hpr
 cases hk
 simp only [pstp] at hst
 obtain ⟨kk,hkk⟩ : ∃ kk,q.kind L = kk := ⟨_,rfl⟩
 rw [hkk] at hst
 have HKK : Hid (q.kind L = kk) := hkk
 have HPM : Hid (PM w p lb cap base N L q pv D) := hpm
 have F0 : q.S.next <= 900000 := by have := hfi.1;omega
 clear hkk hpr hpm hfi
 by_cases k31 : kk = 31
 ·subst k31
  rw [if_pos rfl] at hst
  obtain ⟨b,q2,e2,f2,hst⟩ := bnd_some hst
  obtain ⟨_,rfl,rfl⟩ := addR_some hst
  obtain ⟨tk,tp,tn,ts,hcv,g1,g2,-,-⟩ := cwV_nat (q.word L)
  rw [<- g1,<- g2]
  have HCV : Hid (cwV (q.word L) = .agg #[.int .i64 (tk : Nat),.int .i64 (tp : Nat),.int .i64 tn,.string ts]) := hcv
  have H2 : Hid (pr L N n .un q.take = some (b,q2)) := e2
  clear hcv g1 g2 e2 hst
  go_enter Tryz.func408,Tryz.ntmps408
  go_wp2_with (first
   | (go_at_call 248;refine (kindM HKK.out E HPM.out).mono ?_;rintro _ w1 ⟨rfl,hm1,hf1⟩;clear HPM)
   | (go_at_call 254;refine (takeM HCV.out F0 E hm1).mono ?_;rintro _ w3 ⟨rfl,hm3,hf3⟩;have np := Nat.ne_of_gt (hm3.lt E);have hr3 := hm3.row _ (Nat.le_refl _);have gf3 := hf1.trans hf3;clear hm1)
   | (go_at_call 408;refine (h1.go H2.out (hm3.al E _)).mono ?_;rintro _ w4 ⟨rfl,pv4,hm4,hf4⟩;obtain ⟨bx4,hr4⟩ := hf4.loc (blk_new w3 _) np hr3;have gf4 := gf3.trans ((Fr.al hm3 E _).trans hf4);have c0 := blk_at bx4 0 rfl;have c1 := blk_at bx4 1 rfl;have d0 := blk_cell bx4 0 rfl;have d1 := blk_cell bx4 1 rfl;clear hm3 bx4)
   | (go_at_call 317;refine (addM (k := 13) (a := tp) (wd := tk) (nm := 0) (ns := []) (ks := [b]) f2 E (hm4.al E _) (nmr_none _ _ _ _) (kdr_new hm4 hm4.bs [b] (by simp) rfl rfl rfl)).mono ?_;rintro _ w7 ⟨rfl,pv7,hm7,hf7⟩))
  go_ret
  exact ⟨rfl,pv7,hm7,gf4.trans ((Fr.al hm4 E _).trans hf7)⟩
 rw [if_neg k31] at hst
 by_cases k10 : kk = 10
 ·subst k10
  rw [if_pos rfl] at hst
  clear k31
  obtain ⟨b,q2,e2,f2,hst⟩ := bnd_some hst
  obtain ⟨_,rfl,rfl⟩ := addR_some hst
  obtain ⟨tk,tp,tn,ts,hcv,g1,g2,-,-⟩ := cwV_nat (q.word L)
  rw [<- g1,<- g2]
  have HCV : Hid (cwV (q.word L) = .agg #[.int .i64 (tk : Nat),.int .i64 (tp : Nat),.int .i64 tn,.string ts]) := hcv
  have H2 : Hid (pr L N n .un q.take = some (b,q2)) := e2
  clear hcv g1 g2 e2 hst
  go_enter Tryz.func408,Tryz.ntmps408
  go_wp2_with (first
   | (go_at_call 248;refine (kindM HKK.out E HPM.out).mono ?_;rintro _ w1 ⟨rfl,hm1,hf1⟩;clear HPM)
   | (go_at_call 254;refine (takeM HCV.out F0 E hm1).mono ?_;rintro _ w3 ⟨rfl,hm3,hf3⟩;have np := Nat.ne_of_gt (hm3.lt E);have hr3 := hm3.row _ (Nat.le_refl _);have gf3 := hf1.trans hf3;clear hm1)
   | (go_at_call 408;refine (h1.go H2.out (hm3.al E _)).mono ?_;rintro _ w4 ⟨rfl,pv4,hm4,hf4⟩;obtain ⟨bx4,hr4⟩ := hf4.loc (blk_new w3 _) np hr3;have gf4 := gf3.trans ((Fr.al hm3 E _).trans hf4);have c0 := blk_at bx4 0 rfl;have c1 := blk_at bx4 1 rfl;have d0 := blk_cell bx4 0 rfl;have d1 := blk_cell bx4 1 rfl;clear hm3 bx4)
   | (go_at_call 317;refine (addM (k := 14) (a := tp) (wd := tk) (nm := 0) (ns := []) (ks := [b]) f2 E (hm4.al E _) (nmr_none _ _ _ _) (kdr_new hm4 hm4.bs [b] (by simp) rfl rfl rfl)).mono ?_;rintro _ w7 ⟨rfl,pv7,hm7,hf7⟩))
  go_ret
  exact ⟨rfl,pv7,hm7,gf4.trans ((Fr.al hm4 E _).trans hf7)⟩
 rw [if_neg k10] at hst
 have HST : Hid (pr L N n .call q = some (x,q')) := hst
 have b1 := ne_int k31
 have b2 := ne_int k10
 clear hst k31 k10
 go_enter Tryz.func408,Tryz.ntmps408
 go_wp2_with (first
  | (go_at_call 248;refine (kindM HKK.out E HPM.out).mono ?_;rintro _ w1 ⟨rfl,hm1,hf1⟩)
  | (go_at_call 413;refine (h2.go HST.out hm1).mono ?_;rintro _ w2 ⟨rfl,pv2,hm2,hf2⟩))
 go_ret
 exact ⟨rfl,pv2,hm2,hf1.trans hf2⟩
end
section
variable {w w' : World} {p lb cap base : Nat} {N : Int} {L : List Tok} {q : Q} {pv : Value} {D : Nat -> Prop}
theorem PM.set (h : PM w p lb cap base N L q pv D) (E : PE p lb cap base L) {B i : Nat} {v : Value} (hB : D B) (hb : base <= B) (hr : pv.ownBlock ≠ some B) : PM (w.setCell ⟨B,i,none⟩ v) p lb cap base N L q pv D := by
 have hh : ∀ b,b ≠ B -> (w.setCell ⟨B,i,none⟩ v).heap[b]? = w.heap[b]? := fun b hb => Below.heap_setCell w ⟨B,i,none⟩ v b hb
 have h1 := E.pb
 have h2 := E.lbp
 obtain ⟨vs,hp,hv⟩ := h.ps
 refine ⟨(hh p (by omega)).trans h.blk,⟨vs,⟨own_block_keep hp.own fun b hb => hh b (fun e => hr (e ▸ hb)),hp.len,fun j h1 h2 => ?_⟩,hv⟩,h.cw.below ((Below.refl base w).setCell (p := ⟨B,i,none⟩) hb v) (by omega),by rw [size_setCell];exact h.bs,fun b hb => by rw [size_setCell];exact h.dl b hb⟩
 have hrr := hp.rows j h1 h2
 have hm : vs[j] ∈ vs := List.getElem_mem h2
 exact ⟨own_block_keep hrr.names fun b hb => hh b (fun e => (hv B hB _ hm).1 (e ▸ hb)),own_block_keep hrr.kids fun b hb => hh b (fun e => (hv B hB _ hm).2 (e ▸ hb)),hrr.n1,hrr.n2⟩
theorem NmR.set {r : Option Nat} {nv : Value} {ns : List ByteArray} (h : NmR w base r D nv ns) {B i : Nat} {v : Value} (hB : D B) : NmR (w.setCell ⟨B,i,none⟩ v) base r D nv ns :=
 ⟨own_block_keep h.1 fun b hb => Below.heap_setCell w ⟨B,i,none⟩ v b (fun e => (h.2 b hb).2 (e ▸ hB)),h.2⟩
theorem KdR.set {r : Option Nat} {nv : Value} {ns : List Int} (h : KdR w base r D nv ns) {B i : Nat} {v : Value} (hB : D B) : KdR (w.setCell ⟨B,i,none⟩ v) base r D nv ns :=
 ⟨own_block_keep h.1 fun b hb => Below.heap_setCell w ⟨B,i,none⟩ v b (fun e => (h.2 b hb).2 (e ▸ hB)),h.2⟩
theorem Fr.setB {r r' : Option Nat} {w0 : World} (h : Fr p r r' w0 w) {B i : Nat} {v : Value} (hB : w0.heap.size <= B) (hp : p <= B) : Fr p r r' w0 (w.setCell ⟨B,i,none⟩ v) :=
 ⟨h.below.setCell (p := ⟨B,i,none⟩) hp v,by rw [size_setCell];exact h.size,fun b h1 h2 h3 => (Below.heap_setCell w ⟨B,i,none⟩ v b (by show b ≠ B;omega)).trans (h.rest b h1 h2 h3),h.row⟩
theorem blk_newB {w : World} {o : Obj} {b : Nat} (h : b = w.heap.size) : (w.alloc o).heap[b]? = some o := by
 rw [h];exact blk_new w o
theorem PM.rowB (h : PM w p lb cap base N L q pv D) {B : Nat} (hB : B = w.heap.size) : pv.ownBlock ≠ some B := h.row _ (by omega)
end
section
variable {p lb cap base n : Nat} {N : Int} {L : List Tok}
set_option maxRecDepth 100000 in
theorem let_wk (E : PE p lb cap base L) (he : WkM p lb cap base N L n 176 .expr) : WkM p lb cap base N L (n + 1) 249 .lett := by
 intro w q pv x q' D hpr hpm
 obtain ⟨hfi,k,hk,hst⟩ := pr_fine hpr
 cases hk
 simp only [pstp,letN] at hst
 obtain ⟨tk,tp,tn,ts,hcv,g1,g2,-,-⟩ := cwV_nat (q.word L)
 have HCV : Hid (cwV (q.word L) = .agg #[.int .i64 (tk : Nat),.int .i64 (tp : Nat),.int .i64 tn,.string ts]) := hcv
 have HPM : Hid (PM w p lb cap base N L q pv D) := hpm
 have F0 : q.S.next <= 900000 := by have := hfi.1;omega
 have FT : q.take.S.next <= 500001 := by have := hfi.1;show q.S.next + 1 <= _;omega
 have FT2 : q.take.take.S.next <= 500002 := by have := hfi.1;show q.S.next + 1 + 1 <= _;omega
 have FO1 : -100000 <= q.take.S.opn := by have := hfi.2.1;show -100000 <= q.S.opn;omega
 have FO2 : q.take.S.opn <= 100000 := by have := hfi.2.2.1;show q.S.opn <= 100000;omega
 obtain ⟨kk,hkk⟩ : ∃ kk,q.take.kind L = kk := ⟨_,rfl⟩
 rw [hkk] at hst
 have HKK : Hid (q.take.kind L = kk) := hkk
 clear hkk hpr hpm hfi hcv
 by_cases k4 : kk = 4
 ·subst k4
  rw [if_pos rfl] at hst
  obtain ⟨qn,ns,hz⟩ : ∃ qn ns,q.take.take.fnm L = (qn,ns) := ⟨_,_,rfl⟩
  rw [hz] at hst
  obtain ⟨a,q1,e1,f1,hst⟩ := bnd_some hst
  obtain ⟨b,q2,e2,f2,hst⟩ := bnd_some hst
  obtain ⟨_,rfl,rfl⟩ := addR_some hst
  rw [<- g1,<- g2]
  have H1 : Hid (pr L N n .expr (qn.want L 27) = some (a,q1)) := e1
  have H2 : Hid (pr L N n .expr (q1.want L 5) = some (b,q2)) := e2
  have FW2 : q1.S.next <= 900000 := by have := f1.1;omega
  have HZ : Hid (q.take.take.fnm L = (qn,ns)) := hz
  have FW1 : qn.S.next <= 900000 := by
   have := fnm_next (L := L) (q := q.take.take) E.len (by omega)
   rw [hz] at this
   simp only at this;omega
  obtain ⟨wk,wp,wn,ws,hcw,-⟩ := cwV_nat (q.take.word L)
  have HCW : Hid (cwV (q.take.word L) = .agg #[.int .i64 (wk : Nat),.int .i64 (wp : Nat),.int .i64 wn,.string ws]) := hcw
  clear g1 g2 e1 e2 hst f1 hz hcw
  go_enter Tryz.func249,Tryz.ntmps249
  go_wp2_with (first
   | (go_at_call 254;refine (takeM HCV.out F0 E HPM.out).mono ?_;rintro _ w1 ⟨rfl,hm1,hf1⟩;have hBw : w.heap.size <= w1.heap.size + 1 := (by have := hf1.size;omega);have hBb : base <= w1.heap.size + 1 := (by have := hm1.bs;omega);have hBp : p <= w1.heap.size + 1 := (by have := hm1.lt E;omega);have np2 : w1.heap.size + 1 ≠ p := (by have := hm1.lt E;omega);clear HPM)
   | (go_at_call 248;refine (kindM HKK.out E ((hm1.al E _).alD E _ (B := w1.heap.size + 1) (n := 0) (c := 0) (by rw [World.size_alloc]))).mono ?_;rintro _ w2 ⟨rfl,hm2,hf2⟩;obtain ⟨bx2,hr2⟩ := hf2.loc (blk_newB (by rw [World.size_alloc])) np2 (hm1.row _ (Nat.le_succ _));have gf2 := (hf1.trans ((Fr.al hm1 E _).trans (Fr.al (hm1.al E _) E _))).trans hf2;clear hm1)
   | (go_at_call 254;refine (takeM HCW.out (by omega) E hm2).mono ?_;rintro _ w3 ⟨rfl,hm3,hf3⟩;obtain ⟨bx3,hr3⟩ := hf3.loc bx2 np2 hr2;have gf3 := gf2.trans hf3;have c0 := blk_at bx3 0 rfl;have f0 := blk_at_f bx3 0;clear hm2 bx2)
   | (go_at_call 315;refine (fnmM HZ.out (by omega) E (hm3.set E (.inr rfl) hBb hr3)).mono ?_;rintro _ w4 ⟨na,nc,rfl,hm4x,hn4x,hf4⟩;obtain ⟨bx4x,hr4x⟩ := hf4.loc (block_setCell bx3 0 (.int .i64 9)) np2 hr3;have gf4x := (gf3.setB hBw hBp).trans hf4;have c4 := blk_at bx4x 4 rfl;have f4 := blk_at_f bx4x 4;clear hm3 bx3)
   | (go_at_call 177;refine (wantM' FW1 E ((hm4x).set E (.inr rfl) hBb hr4x)).mono ?_;rintro _ w20 ⟨⟨u0,u1,u2,u3,rfl⟩,hm20,hf20⟩;obtain ⟨bx20,hr20⟩ := hf20.loc (block_setCell bx4x 4 _) np2 hr4x;have hn20 := ((hn4x).set (.inr rfl)).fr hf20 E.pb;have gf20 := (gf4x.setB hBw hBp).trans hf20;clear hm4x bx4x)
   | (go_at_call 176;refine (he.go H1.out hm20).mono ?_;rintro _ w21 ⟨rfl,pv21,hm21,hf21⟩;obtain ⟨bx21,hr21⟩ := hf21.loc bx20 np2 hr20;have hn21 := hn20.fr hf21 E.pb;have gf21 := gf20.trans hf21;clear hm20 H1)
   | (go_at_call 177;refine (wantM' FW2 E hm21).mono ?_;rintro _ w22 ⟨⟨z0,z1,z2,z3,rfl⟩,hm22,hf22⟩;obtain ⟨bx22,hr22⟩ := hf22.loc bx21 np2 hr21;have hn22 := hn21.fr hf22 E.pb;have gf22 := gf21.trans hf22;clear hm21)
   | (go_at_call 176;refine (he.go H2.out hm22).mono ?_;rintro _ w23 ⟨rfl,pv23,hm23,hf23⟩;obtain ⟨bx23,hr23⟩ := hf23.loc bx22 np2 hr22;have hn23 := hn22.fr hf23 E.pb;have gf23 := gf22.trans hf23;have e5 := blk_cell bx23 5 rfl;have e5f := fun o => blk_at_f (al_old (o := o) bx23) 5;have L0 := fun o v => blk_at (block_setCell (al_old (o := o) bx23) 5 v) 0 rfl;have L1 := fun o v => blk_at (block_setCell (al_old (o := o) bx23) 5 v) 1 rfl;have L2 := fun o v => blk_at (block_setCell (al_old (o := o) bx23) 5 v) 2 rfl;have L3 := fun o v => blk_at (block_setCell (al_old (o := o) bx23) 5 v) 3 rfl;have L4 := fun o v => blk_at (block_setCell (al_old (o := o) bx23) 5 v) 4 rfl;have L5 := fun o v => blk_at (block_setCell (al_old (o := o) bx23) 5 v) 5 rfl;clear hm22 H2 bx20 bx21 bx22)
   | (go_at_call 317;refine (addM (k := 9) (a := tp) (wd := tk) (nm := 0) (ns := ns) (ks := [a,b]) f2 E ((hm23.al E _).set E (.inr rfl) hBb hr23) ((hn23.fr (Fr.al hm23 E _) E.pb).set (.inr rfl)) ((kdr_new hm23 hm23.bs [a,b] (by simp) rfl rfl rfl).set (.inr rfl))).mono ?_;rintro _ w24 ⟨rfl,pv24,hm24,hf24⟩))
  go_ret
  exact ⟨rfl,pv24,hm24.weak (fun b hb => .inl hb),((gf23.trans (Fr.al hm23 E _)).setB hBw hBp).trans hf24⟩
 rw [if_neg k4] at hst
 by_cases k23 : kk = 23
 ·subst k23
  rw [if_pos rfl] at hst
  clear k4
  obtain ⟨qn,ns,hz⟩ : ∃ qn ns,q.take.tpm L N = (qn,ns) := ⟨_,_,rfl⟩
  rw [hz] at hst
  obtain ⟨a,q1,e1,f1,hst⟩ := bnd_some hst
  obtain ⟨b,q2,e2,f2,hst⟩ := bnd_some hst
  obtain ⟨_,rfl,rfl⟩ := addR_some hst
  rw [<- g1,<- g2]
  have H1 : Hid (pr L N n .expr (qn.want L 27) = some (a,q1)) := e1
  have H2 : Hid (pr L N n .expr (q1.want L 5) = some (b,q2)) := e2
  have FW2 : q1.S.next <= 900000 := by have := f1.1;omega
  have HZ : Hid (q.take.tpm L N = (qn,ns)) := hz
  have FW1 : qn.S.next <= 900000 := by
   have := tpm_next (L := L) (N := N) (q := q.take) E.len (by omega)
   rw [hz] at this
   simp only at this;omega
  clear g1 g2 e1 e2 hst f1 hz
  go_enter Tryz.func249,Tryz.ntmps249
  go_wp2_with (first
   | (go_at_call 254;refine (takeM HCV.out F0 E HPM.out).mono ?_;rintro _ w1 ⟨rfl,hm1,hf1⟩;have hBw : w.heap.size <= w1.heap.size + 1 := (by have := hf1.size;omega);have hBb : base <= w1.heap.size + 1 := (by have := hm1.bs;omega);have hBp : p <= w1.heap.size + 1 := (by have := hm1.lt E;omega);have np2 : w1.heap.size + 1 ≠ p := (by have := hm1.lt E;omega);clear HPM)
   | (go_at_call 248;refine (kindM HKK.out E ((hm1.al E _).alD E _ (B := w1.heap.size + 1) (n := 0) (c := 0) (by rw [World.size_alloc]))).mono ?_;rintro _ w2 ⟨rfl,hm2,hf2⟩;obtain ⟨bx2,hr2⟩ := hf2.loc (blk_newB (by rw [World.size_alloc])) np2 (hm1.row _ (Nat.le_succ _));have gf2 := (hf1.trans ((Fr.al hm1 E _).trans (Fr.al (hm1.al E _) E _))).trans hf2;have c0 := blk_at bx2 0 rfl;have f0 := blk_at_f bx2 0;clear hm1)
   | (go_at_call 316;refine (tpmM HZ.out (by omega) FO1 FO2 E (hm2.set E (.inr rfl) hBb hr2)).mono ?_;rintro _ w4 ⟨na,nc,rfl,hm4x,hn4x,hf4⟩;obtain ⟨bx4x,hr4x⟩ := hf4.loc (block_setCell bx2 0 (.int .i64 10)) np2 hr2;have gf4x := (gf2.setB hBw hBp).trans hf4;have c4 := blk_at bx4x 4 rfl;have f4 := blk_at_f bx4x 4;clear hm2 bx2)
   | (go_at_call 177;refine (wantM' FW1 E ((hm4x).set E (.inr rfl) hBb hr4x)).mono ?_;rintro _ w20 ⟨⟨u0,u1,u2,u3,rfl⟩,hm20,hf20⟩;obtain ⟨bx20,hr20⟩ := hf20.loc (block_setCell bx4x 4 _) np2 hr4x;have hn20 := ((hn4x).set (.inr rfl)).fr hf20 E.pb;have gf20 := (gf4x.setB hBw hBp).trans hf20;clear hm4x bx4x)
   | (go_at_call 176;refine (he.go H1.out hm20).mono ?_;rintro _ w21 ⟨rfl,pv21,hm21,hf21⟩;obtain ⟨bx21,hr21⟩ := hf21.loc bx20 np2 hr20;have hn21 := hn20.fr hf21 E.pb;have gf21 := gf20.trans hf21;clear hm20 H1)
   | (go_at_call 177;refine (wantM' FW2 E hm21).mono ?_;rintro _ w22 ⟨⟨z0,z1,z2,z3,rfl⟩,hm22,hf22⟩;obtain ⟨bx22,hr22⟩ := hf22.loc bx21 np2 hr21;have hn22 := hn21.fr hf22 E.pb;have gf22 := gf21.trans hf22;clear hm21)
   | (go_at_call 176;refine (he.go H2.out hm22).mono ?_;rintro _ w23 ⟨rfl,pv23,hm23,hf23⟩;obtain ⟨bx23,hr23⟩ := hf23.loc bx22 np2 hr22;have hn23 := hn22.fr hf23 E.pb;have gf23 := gf22.trans hf23;have e5 := blk_cell bx23 5 rfl;have e5f := fun o => blk_at_f (al_old (o := o) bx23) 5;have L0 := fun o v => blk_at (block_setCell (al_old (o := o) bx23) 5 v) 0 rfl;have L1 := fun o v => blk_at (block_setCell (al_old (o := o) bx23) 5 v) 1 rfl;have L2 := fun o v => blk_at (block_setCell (al_old (o := o) bx23) 5 v) 2 rfl;have L3 := fun o v => blk_at (block_setCell (al_old (o := o) bx23) 5 v) 3 rfl;have L4 := fun o v => blk_at (block_setCell (al_old (o := o) bx23) 5 v) 4 rfl;have L5 := fun o v => blk_at (block_setCell (al_old (o := o) bx23) 5 v) 5 rfl;clear hm22 H2 bx20 bx21 bx22)
   | (go_at_call 317;refine (addM (k := 10) (a := tp) (wd := tk) (nm := 0) (ns := ns) (ks := [a,b]) f2 E ((hm23.al E _).set E (.inr rfl) hBb hr23) ((hn23.fr (Fr.al hm23 E _) E.pb).set (.inr rfl)) ((kdr_new hm23 hm23.bs [a,b] (by simp) rfl rfl rfl).set (.inr rfl))).mono ?_;rintro _ w24 ⟨rfl,pv24,hm24,hf24⟩))
  go_ret
  exact ⟨rfl,pv24,hm24.weak (fun b hb => .inl hb),((gf23.trans (Fr.al hm23 E _)).setB hBw hBp).trans hf24⟩
 rw [if_neg k23] at hst
 have b1 := ne_int k4
 have b2 := ne_int k23
 clear k4 k23
 obtain ⟨qn,hqn⟩ : ∃ qn,q.take.want L 2 = qn := ⟨_,rfl⟩
 obtain ⟨wk,wp,wn,ws,hcw,-,-,-,hws⟩ := cwV_nat (wantW L 2 q.take.S)
 obtain ⟨ns,hns⟩ : ∃ ns,ns = [ws] := ⟨_,rfl⟩
 rw [hqn,<- hws,<- hns] at hst
 have HN : Hid (ns = [ws]) := hns
 have HCW : Hid (cwV (wantW L 2 q.take.S) = .agg #[.int .i64 (wk : Nat),.int .i64 (wp : Nat),.int .i64 wn,.string ws]) := hcw
 have HQN : Hid (q.take.want L 2 = qn) := hqn
 have FW1 : qn.S.next <= 900000 := by
  rw [<- hqn]
  have := want_next' (L := L) (k := 2) (M := 500001) (S := q.take.S) (by have := E.len;omega) FT
  show (q.take.S.want L 2).next <= _
  omega
 ·have _h0 := True.intro
  obtain ⟨a,q1,e1,f1,hst⟩ := bnd_some hst
  obtain ⟨b,q2,e2,f2,hst⟩ := bnd_some hst
  obtain ⟨_,rfl,rfl⟩ := addR_some hst
  rw [<- g1,<- g2]
  have H1 : Hid (pr L N n .expr (qn.want L 27) = some (a,q1)) := e1
  have H2 : Hid (pr L N n .expr (q1.want L 5) = some (b,q2)) := e2
  have FW2 : q1.S.next <= 900000 := by have := f1.1;omega
  clear g1 g2 e1 e2 hst f1 hcw hqn hws hns
  go_enter Tryz.func249,Tryz.ntmps249
  go_wp2_with (first
   | (go_at_call 254;refine (takeM HCV.out F0 E HPM.out).mono ?_;rintro _ w1 ⟨rfl,hm1,hf1⟩;have hBw : w.heap.size <= w1.heap.size + 1 := (by have := hf1.size;omega);have hBb : base <= w1.heap.size + 1 := (by have := hm1.bs;omega);have hBp : p <= w1.heap.size + 1 := (by have := hm1.lt E;omega);have np2 : w1.heap.size + 1 ≠ p := (by have := hm1.lt E;omega);clear HPM)
   | (go_at_call 248;refine (kindM HKK.out E ((hm1.al E _).alD E _ (B := w1.heap.size + 1) (n := 0) (c := 0) (by rw [World.size_alloc]))).mono ?_;rintro _ w2 ⟨rfl,hm2,hf2⟩;obtain ⟨bx2,hr2⟩ := hf2.loc (blk_newB (by rw [World.size_alloc])) np2 (hm1.row _ (Nat.le_succ _));have gf2 := (hf1.trans ((Fr.al hm1 E _).trans (Fr.al (hm1.al E _) E _))).trans hf2;clear hm1)
   | (go_at_call 177;refine (wantM HCW.out (by omega) E hm2).mono ?_;rw [HQN.out];rintro _ w3 ⟨rfl,hm3,hf3⟩;obtain ⟨bx3,hr3⟩ := hf3.loc bx2 np2 hr2;have gf3 := gf2.trans hf3;have hm4x := ((hm3.al E (.cells #[.int .i64 (wk : Nat),.int .i64 (wp : Nat),.int .i64 wn,.string ws] 294)).al E (.cells #[.string ws] 9));have hn4x : NmR _ base pv.ownBlock _ (.slice (some ⟨w3.heap.size + 1,0,none⟩) 1 1) ns := (by rw [HN.out];exact nmr_new (hm3.al E (.cells #[.int .i64 (wk : Nat),.int .i64 (wp : Nat),.int .i64 wn,.string ws] 294)) [ws] (by simp) rfl (by rw [World.size_alloc]) rfl);have bx4x := al_old (o := .cells #[.string ws] 9) (al_old (o := .cells #[.int .i64 (wk : Nat),.int .i64 (wp : Nat),.int .i64 wn,.string ws] 294) bx3);have hr4x := hr3;have gf4x := gf3.trans ((Fr.al hm3 E (.cells #[.int .i64 (wk : Nat),.int .i64 (wp : Nat),.int .i64 wn,.string ws] 294)).trans (Fr.al (hm3.al E _) E (.cells #[.string ws] 9)));have c4 := blk_at bx4x 4 rfl;have f4 := blk_at_f bx4x 4;clear hm3 bx3 hm2 bx2)
   | (go_at_call 177;refine (wantM' FW1 E ((hm4x).set E (.inr rfl) hBb hr4x)).mono ?_;rintro _ w20 ⟨⟨u0,u1,u2,u3,rfl⟩,hm20,hf20⟩;obtain ⟨bx20,hr20⟩ := hf20.loc (block_setCell bx4x 4 _) np2 hr4x;have hn20 := ((hn4x).set (.inr rfl)).fr hf20 E.pb;have gf20 := (gf4x.setB hBw hBp).trans hf20;clear hm4x bx4x)
   | (go_at_call 176;refine (he.go H1.out hm20).mono ?_;rintro _ w21 ⟨rfl,pv21,hm21,hf21⟩;obtain ⟨bx21,hr21⟩ := hf21.loc bx20 np2 hr20;have hn21 := hn20.fr hf21 E.pb;have gf21 := gf20.trans hf21;clear hm20 H1)
   | (go_at_call 177;refine (wantM' FW2 E hm21).mono ?_;rintro _ w22 ⟨⟨z0,z1,z2,z3,rfl⟩,hm22,hf22⟩;obtain ⟨bx22,hr22⟩ := hf22.loc bx21 np2 hr21;have hn22 := hn21.fr hf22 E.pb;have gf22 := gf21.trans hf22;clear hm21)
   | (go_at_call 176;refine (he.go H2.out hm22).mono ?_;rintro _ w23 ⟨rfl,pv23,hm23,hf23⟩;obtain ⟨bx23,hr23⟩ := hf23.loc bx22 np2 hr22;have hn23 := hn22.fr hf23 E.pb;have gf23 := gf22.trans hf23;have e5 := blk_cell bx23 5 rfl;have e5f := fun o => blk_at_f (al_old (o := o) bx23) 5;have L0 := fun o v => blk_at (block_setCell (al_old (o := o) bx23) 5 v) 0 rfl;have L1 := fun o v => blk_at (block_setCell (al_old (o := o) bx23) 5 v) 1 rfl;have L2 := fun o v => blk_at (block_setCell (al_old (o := o) bx23) 5 v) 2 rfl;have L3 := fun o v => blk_at (block_setCell (al_old (o := o) bx23) 5 v) 3 rfl;have L4 := fun o v => blk_at (block_setCell (al_old (o := o) bx23) 5 v) 4 rfl;have L5 := fun o v => blk_at (block_setCell (al_old (o := o) bx23) 5 v) 5 rfl;clear hm22 H2 bx20 bx21 bx22)
   | (go_at_call 317;refine (addM (k := 8) (a := tp) (wd := tk) (nm := 0) (ns := ns) (ks := [a,b]) f2 E ((hm23.al E _).set E (.inr rfl) hBb hr23) ((hn23.fr (Fr.al hm23 E _) E.pb).set (.inr rfl)) ((kdr_new hm23 hm23.bs [a,b] (by simp) rfl rfl rfl).set (.inr rfl))).mono ?_;rintro _ w24 ⟨rfl,pv24,hm24,hf24⟩))
  go_ret
  exact ⟨rfl,pv24,hm24.weak (fun b hb => .inl hb),((gf23.trans (Fr.al hm23 E _)).setB hBw hBp).trans hf24⟩
end
section
variable {p lb cap base n : Nat} {N : Int} {L : List Tok}
set_option maxRecDepth 100000 in
theorem sum_wk (E : PE p lb cap base L) (h1 : WkM p lb cap base N L n 389 .prod) : WkM p lb cap base N L (n + 1) 362 .sum := by
 intro w q pv x q' D hpr hpm
 obtain ⟨hfi,k,hk,hst⟩ := pr_fine hpr
 cases hk
 simp only [pstp] at hst
 obtain ⟨a,q1,e1,f1,hst⟩ := bnd_some hst
 have HPM : Hid (PM w p lb cap base N L q pv D) := hpm
 have H1 : Hid (pr L N n .prod q = some (a,q1)) := e1
 have HS : Hid (pr L N n (.sumL a) q1 = some (x,q')) := hst
 clear hpr hpm hfi e1 hst f1
 go_enter Tryz.func362,Tryz.ntmps362
 go_wp2_with (go_at_call 389;refine (h1.go H1.out HPM.out).mono ?_;rintro _ w1 ⟨rfl,pv1,hm1,hf1⟩)
 have HM1 : Hid (PM w1 p lb cap base N L q1 pv1 D) := hm1
 have HF1 : Hid (Kp p pv pv1 w w1) := hf1
 clear hm1 hf1
 go_loopg [3] n (fun gh v (wr : World) => ∃ (l : Int) (qq : Q) (pvq : Value),v = .int .i64 l /\ gh <= n /\ pr L N gh (.sumL l) qq = some (x,q') /\ PM wr p lb cap base N L qq pvq D /\ Kp p pv pvq w wr)
 case atStart => exact ⟨a,q1,pv1,rfl,Nat.le_refl _,HS.out,HM1.out,HF1.out⟩
 case round =>
  obtain ⟨l,qq,pvq,rfl,hle,hpr,hm,hf⟩ := hrel
  obtain ⟨hfi,k,hk,hst⟩ := pr_fine hpr
  subst hk
  simp only [pstp] at hst
  obtain ⟨kk,hkk⟩ : ∃ kk,cOp (qq.kind L) = kk := ⟨_,rfl⟩
  rw [hkk] at hst
  have HKK : Hid (cOp (qq.kind L) = kk) := hkk
  have HM : Hid (PM wr p lb cap base N L qq pvq D) := hm
  have HF : Hid (Kp p pv pvq w wr) := hf
  have F1 : qq.S.next <= 900000 := by have := hfi.1;omega
  clear hkk hm hf hpr hfi H1 HS HM1 HF1 HPM
  by_cases hk : kk = 16
  ·subst hk
   rw [if_neg (by simp)] at hst
   obtain ⟨b,q2,e2,f2,hst⟩ := bnd_some hst
   obtain ⟨x3,q3,e3,f3,hst⟩ := bnd_some hst
   obtain ⟨_,rfl,rfl⟩ := addR_some e3
   obtain ⟨tk,tp,tn,ts,hcv,g1,g2,-,-⟩ := cwV_nat (qq.word L)
   rw [<- g1,<- g2] at hst
   have HCV : Hid (cwV (qq.word L) = .agg #[.int .i64 (tk : Nat),.int .i64 (tp : Nat),.int .i64 tn,.string ts]) := hcv
   have H2 : Hid (pr L N n .prod qq.take = some (b,q2)) := pr_up (by omega) e2
   have HST : Hid (pr L N k (.sumL q2.ps.length) (q2.add ⟨16,tp,tk,0,[],[l,b]⟩) = some (x,q')) := hst
   clear hcv g1 g2 e2 hst e3 f3
   go_wp2_with (first
    | (go_at_call 363;refine (operatorM HKK.out E HM.out).mono ?_;rintro _ w2 ⟨rfl,hm2,hf2⟩;have gf2 := HF.out.trans hf2;clear HM)
    | (go_at_call 254;refine (takeM HCV.out F1 E hm2).mono ?_;rintro _ w3 ⟨rfl,hm3,hf3⟩;have np := Nat.ne_of_gt (hm3.lt E);have hr3 := hm3.row _ (Nat.le_refl _);have gf3 := gf2.trans hf3;clear hm2)
    | (go_at_call 389;refine (h1.go H2.out (hm3.al E _)).mono ?_;rintro _ w4 ⟨rfl,pv4,hm4,hf4⟩;obtain ⟨bx4,hr4⟩ := hf4.loc (blk_new w3 _) np hr3;have gf4 := gf3.trans ((Fr.al hm3 E _).trans hf4);have c0 := blk_at bx4 0 rfl;have c1 := blk_at bx4 1 rfl;have c2 := blk_at bx4 2 rfl;have c3 := blk_at bx4 3 rfl;clear hm3 bx4)
    | (go_at_call 320;refine (betweenM (k := 16) f2 E hm4).mono ?_;rintro _ w5 ⟨rfl,pv5,hm5,hf5⟩))
   go_roundg k
   case measure => omega
   case rel => exact ⟨_,_,pv5,rfl,by omega,HST.out,hm5,gf4.trans hf5⟩
  ·rw [if_pos (by simpa using hk)] at hst
   obtain ⟨_,rfl,rfl⟩ := out_some hst
   have hb := ne_int hk
   clear hst hk
   go_wp2_with (go_at_call 363;refine (operatorM HKK.out E HM.out).mono ?_;rintro _ w2 ⟨rfl,hm2,hf2⟩;have gf2 := HF.out.trans hf2)
   go_ret
   exact ⟨rfl,pvq,hm2,gf2⟩
set_option maxRecDepth 100000 in
theorem prod_wk (E : PE p lb cap base L) (h1 : WkM p lb cap base N L n 408 .un) : WkM p lb cap base N L (n + 1) 389 .prod := by
 intro w q pv x q' D hpr hpm
 obtain ⟨hfi,k,hk,hst⟩ := pr_fine hpr
 cases hk
 simp only [pstp] at hst
 obtain ⟨a,q1,e1,f1,hst⟩ := bnd_some hst
 have HPM : Hid (PM w p lb cap base N L q pv D) := hpm
 have H1 : Hid (pr L N n .un q = some (a,q1)) := e1
 have HS : Hid (pr L N n (.prodL a) q1 = some (x,q')) := hst
 clear hpr hpm hfi e1 hst f1
 go_enter Tryz.func389,Tryz.ntmps389
 go_wp2_with (go_at_call 408;refine (h1.go H1.out HPM.out).mono ?_;rintro _ w1 ⟨rfl,pv1,hm1,hf1⟩)
 have HM1 : Hid (PM w1 p lb cap base N L q1 pv1 D) := hm1
 have HF1 : Hid (Kp p pv pv1 w w1) := hf1
 clear hm1 hf1
 go_loopg [3] n (fun gh v (wr : World) => ∃ (l : Int) (qq : Q) (pvq : Value),v = .int .i64 l /\ gh <= n /\ pr L N gh (.prodL l) qq = some (x,q') /\ PM wr p lb cap base N L qq pvq D /\ Kp p pv pvq w wr)
 case atStart => exact ⟨a,q1,pv1,rfl,Nat.le_refl _,HS.out,HM1.out,HF1.out⟩
 case round =>
  obtain ⟨l,qq,pvq,rfl,hle,hpr,hm,hf⟩ := hrel
  obtain ⟨hfi,k,hk,hst⟩ := pr_fine hpr
  subst hk
  simp only [pstp] at hst
  obtain ⟨kk,hkk⟩ : ∃ kk,cOp (qq.kind L) = kk := ⟨_,rfl⟩
  rw [hkk] at hst
  have HKK : Hid (cOp (qq.kind L) = kk) := hkk
  have HM : Hid (PM wr p lb cap base N L qq pvq D) := hm
  have HF : Hid (Kp p pv pvq w wr) := hf
  have F1 : qq.S.next <= 900000 := by have := hfi.1;omega
  clear hkk hm hf hpr hfi H1 HS HM1 HF1 HPM
  by_cases hk : kk = 15
  ·subst hk
   rw [if_neg (by simp)] at hst
   obtain ⟨b,q2,e2,f2,hst⟩ := bnd_some hst
   obtain ⟨x3,q3,e3,f3,hst⟩ := bnd_some hst
   obtain ⟨_,rfl,rfl⟩ := addR_some e3
   obtain ⟨tk,tp,tn,ts,hcv,g1,g2,-,-⟩ := cwV_nat (qq.word L)
   rw [<- g1,<- g2] at hst
   have HCV : Hid (cwV (qq.word L) = .agg #[.int .i64 (tk : Nat),.int .i64 (tp : Nat),.int .i64 tn,.string ts]) := hcv
   have H2 : Hid (pr L N n .un qq.take = some (b,q2)) := pr_up (by omega) e2
   have HST : Hid (pr L N k (.prodL q2.ps.length) (q2.add ⟨15,tp,tk,0,[],[l,b]⟩) = some (x,q')) := hst
   clear hcv g1 g2 e2 hst e3 f3
   go_wp2_with (first
    | (go_at_call 363;refine (operatorM HKK.out E HM.out).mono ?_;rintro _ w2 ⟨rfl,hm2,hf2⟩;have gf2 := HF.out.trans hf2;clear HM)
    | (go_at_call 254;refine (takeM HCV.out F1 E hm2).mono ?_;rintro _ w3 ⟨rfl,hm3,hf3⟩;have np := Nat.ne_of_gt (hm3.lt E);have hr3 := hm3.row _ (Nat.le_refl _);have gf3 := gf2.trans hf3;clear hm2)
    | (go_at_call 408;refine (h1.go H2.out (hm3.al E _)).mono ?_;rintro _ w4 ⟨rfl,pv4,hm4,hf4⟩;obtain ⟨bx4,hr4⟩ := hf4.loc (blk_new w3 _) np hr3;have gf4 := gf3.trans ((Fr.al hm3 E _).trans hf4);have c0 := blk_at bx4 0 rfl;have c1 := blk_at bx4 1 rfl;have c2 := blk_at bx4 2 rfl;have c3 := blk_at bx4 3 rfl;clear hm3 bx4)
    | (go_at_call 320;refine (betweenM (k := 15) f2 E hm4).mono ?_;rintro _ w5 ⟨rfl,pv5,hm5,hf5⟩))
   go_roundg k
   case measure => omega
   case rel => exact ⟨_,_,pv5,rfl,by omega,HST.out,hm5,gf4.trans hf5⟩
  ·rw [if_pos (by simpa using hk)] at hst
   obtain ⟨_,rfl,rfl⟩ := out_some hst
   have hb := ne_int hk
   clear hst hk
   go_wp2_with (go_at_call 363;refine (operatorM HKK.out E HM.out).mono ?_;rintro _ w2 ⟨rfl,hm2,hf2⟩;have gf2 := HF.out.trans hf2)
   go_ret
   exact ⟨rfl,pvq,hm2,gf2⟩
set_option maxRecDepth 100000 in
theorem operand_wk (E : PE p lb cap base L) (h1 : WkM p lb cap base N L n 418 .atom) (h2 : WkM p lb cap base N L n 176 .expr) : WkM p lb cap base N L (n + 1) 415 .operand := by
 intro w q pv x q' D hpr hpm
 obtain ⟨hfi,k,hk,hst⟩ := pr_fine hpr
 cases hk
 simp only [pstp] at hst
 obtain ⟨a,q1,e1,f1,hst⟩ := bnd_some hst
 have HPM : Hid (PM w p lb cap base N L q pv D) := hpm
 have H1 : Hid (pr L N n .atom q = some (a,q1)) := e1
 have HS : Hid (pr L N n (.operL a) q1 = some (x,q')) := hst
 clear hpr hpm hfi e1 hst f1
 go_enter Tryz.func415,Tryz.ntmps415
 go_wp2_with (go_at_call 418;refine (h1.go H1.out HPM.out).mono ?_;rintro _ w1 ⟨rfl,pv1,hm1,hf1⟩)
 have HM1 : Hid (PM w1 p lb cap base N L q1 pv1 D) := hm1
 have HF1 : Hid (Kp p pv pv1 w w1) := hf1
 clear hm1 hf1
 go_loopg [3] n (fun gh v (wr : World) => ∃ (l : Int) (qq : Q) (pvq : Value),v = .int .i64 l /\ gh <= n /\ pr L N gh (.operL l) qq = some (x,q') /\ PM wr p lb cap base N L qq pvq D /\ Kp p pv pvq w wr)
 case atStart => exact ⟨a,q1,pv1,rfl,Nat.le_refl _,HS.out,HM1.out,HF1.out⟩
 case round =>
  obtain ⟨l,qq,pvq,rfl,hle,hpr,hm,hf⟩ := hrel
  obtain ⟨hfi,k,hk,hst⟩ := pr_fine hpr
  subst hk
  simp only [pstp] at hst
  obtain ⟨kk,hkk⟩ : ∃ kk,qq.kind L = kk := ⟨_,rfl⟩
  rw [hkk] at hst
  have HKK : Hid (qq.kind L = kk) := hkk
  have HM : Hid (PM wr p lb cap base N L qq pvq D) := hm
  have HF : Hid (Kp p pv pvq w wr) := hf
  have F1 : qq.S.next <= 900000 := by have := hfi.1;omega
  have FI := hfi
  clear hkk hm hf hpr hfi H1 HS HM1 HF1 HPM
  by_cases hk : kk = 18
  ·subst hk
   rw [if_neg (by simp)] at hst
   obtain ⟨b,q2,e2,f2,hst⟩ := bnd_some hst
   obtain ⟨x3,q3,e3,f3,hst⟩ := bnd_some hst
   obtain ⟨FA,rfl,rfl⟩ := addR_some e3
   obtain ⟨tk,tp,tn,ts,hcv,g1,g2,-,-⟩ := cwV_nat (qq.begW L N 18)
   rw [<- g1,<- g2] at hst
   have HCV : Hid (cwV (qq.begW L N 18) = .agg #[.int .i64 (tk : Nat),.int .i64 (tp : Nat),.int .i64 tn,.string ts]) := hcv
   have H2 : Hid (pr L N n .expr (qq.beg L N 18) = some (b,q2)) := pr_up (by omega) e2
   have HST : Hid (pr L N k (.operL q2.ps.length) ((q2.finish L).add ⟨20,tp,tk,0,[],[l,b]⟩) = some (x,q')) := hst
   clear hcv g1 g2 e2 hst e3 f3
   go_wp2_with (first
    | (go_at_call 248;refine (kindM HKK.out E HM.out).mono ?_;rintro _ w2 ⟨rfl,hm2,hf2⟩;have gf2 := HF.out.trans hf2;clear HM)
    | (go_at_call 360;refine (begM HCV.out FI E hm2).mono ?_;rintro _ w3 ⟨rfl,hm3,hf3⟩;have np := Nat.ne_of_gt (hm3.lt E);have hr3 := hm3.row _ (Nat.le_refl _);have gf3 := gf2.trans hf3;clear hm2)
    | (go_at_call 176;refine (h2.go H2.out (hm3.al E _)).mono ?_;rintro _ w4 ⟨rfl,pv4,hm4,hf4⟩;obtain ⟨bx4,hr4⟩ := hf4.loc (blk_new w3 _) np hr3;have gf4 := gf3.trans ((Fr.al hm3 E _).trans hf4);clear hm3)
    | (go_at_call 361;refine (finishM f2 E hm4).mono ?_;rintro _ w5 ⟨⟨u5,rfl⟩,hm5,hf5⟩;obtain ⟨bx5,hr5⟩ := hf5.loc bx4 np hr4;have gf5 := gf4.trans hf5;have c0 := blk_at bx5 0 rfl;have c1 := blk_at bx5 1 rfl;have c2 := blk_at bx5 2 rfl;have c3 := blk_at bx5 3 rfl;clear hm4 bx4 bx5)
    | (go_at_call 320;refine (betweenM (k := 20) FA E hm5).mono ?_;rintro _ w6 ⟨rfl,pv6,hm6,hf6⟩))
   go_roundg k
   case measure => omega
   case rel => exact ⟨_,_,pv6,rfl,by omega,HST.out,hm6,gf5.trans hf6⟩
  ·rw [if_pos (by simpa using hk)] at hst
   obtain ⟨_,rfl,rfl⟩ := out_some hst
   have hb := ne_int hk
   clear hst hk
   go_wp2_with (go_at_call 248;refine (kindM HKK.out E HM.out).mono ?_;rintro _ w2 ⟨rfl,hm2,hf2⟩;have gf2 := HF.out.trans hf2)
   go_ret
   exact ⟨rfl,pvq,hm2,gf2⟩
end
theorem Tryz.infK : (Tryz.prog.info? 3).map (fun i => (i.zero,i.size,i.bytes)) = some (some (.int .i64 0),1,8) := by kernel_rfl
theorem Tryz.undK : Tryz.prog.underlying 26 = some (.slice 3) := by kernel_rfl
section
variable {p lb cap base n : Nat} {N : Int} {L : List Tok}
theorem Fr.app {w0 w w1 : World} {r r' : Option Nat} {kv : Value} (h : Fr p r r' w0 w) (hp : p < w0.heap.size) (hk : ∀ b,kv.ownBlock = some b -> w0.heap.size <= b) (hh : ∀ b,b < w.heap.size -> kv.ownBlock ≠ some b -> w1.heap[b]? = w.heap[b]?) (hs : w.heap.size <= w1.heap.size) (hb : Below w0.heap.size w w1) : Fr p r r' w0 w1 :=
 ⟨h.below.trans (hb.mono (Nat.le_of_lt hp)),Nat.le_trans h.size hs,fun b h1 h2 h3 => (hh b (Nat.lt_of_lt_of_le h1 h.size) (fun h4 => by have := hk b h4;omega)).trans (h.rest b h1 h2 h3),h.row⟩
theorem kd_snoc {w : World} {b0 m : Nat} {row : Option Nat} {D : Nat -> Prop} {v : Value} {ks : List Int} {b : Int} (hm : ks.length = m) (h : w.ownsRow b0 3 1 v (m + 1) (ks.map (Value.int .i64) ++ [.int .i64 b])) (hd : ∀ b,v.ownBlock = some b -> row ≠ some b /\ ¬ D b) : KdR w b0 row D v (ks ++ [b]) := by
 refine ⟨?_,hd⟩
 rw [List.map_append,List.length_append,hm]
 exact h
theorem slice_ln (a : Option Addr) (n c : Nat) : lnOf (.slice a n c) = n := rfl
set_option maxRecDepth 100000 in
theorem pref_wk (E : PE p lb cap base L) (h1 : WkM p lb cap base N L n 415 .operand) (kk c : Nat) (hc : c <= 3) : Wk p lb cap base N L (n + 1) 414 #[.pointer (some ⟨p,0,none⟩),.int .i64 (kk : Nat),.int .i64 (c : Nat)] (.pref kk c) := by
 intro w q pv x q' D hpr hpm
 obtain ⟨hfi,k,hk,hst⟩ := pr_fine hpr
 cases hk
 simp only [pstp] at hst
 obtain ⟨t,ht⟩ : ∃ t,q.word L = t := ⟨_,rfl⟩
 rw [ht] at hst
 obtain ⟨tk,tp,tn,ts,hcv,g1,g2,-,-⟩ := cwV_nat t
 have HCV : Hid (cwV (q.word L) = .agg #[.int .i64 (tk : Nat),.int .i64 (tp : Nat),.int .i64 tn,.string ts]) := by rw [ht];exact hcv
 have HT : Hid (tk = t.k /\ tp = t.p) := ⟨g1,g2⟩
 have HPM : Hid (PM w p lb cap base N L q pv D) := hpm
 have HST : Hid (pr L N n (.prefL kk c t []) q.take = some (x,q')) := hst
 have F0 : q.S.next <= 900000 := by have := hfi.1;omega
 have hpw := hpm.lt E
 have hbw := hpm.bs
 obtain ⟨i0,hi0,hz0,hz1,hz2⟩ := info_parts Tryz.infK
 clear hpr hpm hfi hst hcv g1 g2 ht
 go_enter Tryz.func414,Tryz.ntmps414
 go_wp2_with (go_at_call 254;refine (takeM HCV.out F0 E HPM.out).mono ?_;rintro _ w1 ⟨rfl,hm1,hf1⟩)
 have hs1 := hf1.size
 have HM1 : Hid (PM w1 p lb cap base N L q.take pv D) := hm1
 have HF1 : Hid (Kp p pv pv w w1) := hf1
 clear hm1 hf1 HPM
 go_loopg [8] n (fun gh v (wr : World) => ∃ (ks : List Int) (qq : Q) (pvq : Value),gh <= n /\ pr L N gh (.prefL kk c t ks) qq = some (x,q') /\ ks.length <= c /\ KdR wr w.heap.size pvq.ownBlock D v ks /\ PM wr p lb cap base N L qq pvq (DB D v) /\ Kp p pv pvq w wr /\ wr.heap[w1.heap.size]? = some (.cells #[.int .i64 (tk : Nat),.int .i64 (tp : Nat),.int .i64 tn,.string ts] 294 (0,0)) /\ pvq.ownBlock ≠ some w1.heap.size /\ v.ownBlock ≠ some w1.heap.size)
 case atStart =>
  have hm2 := HM1.out.al E (.cells #[.int .i64 (tk : Nat),.int .i64 (tp : Nat),.int .i64 tn,.string ts] 294)
  refine ⟨[],q.take,pv,Nat.le_refl _,HST.out,by simp,kdr_new hm2 (by rw [World.size_alloc];omega) [] (by simp) rfl (by rw [World.size_alloc]) rfl,hm2.alD E _ (by rw [World.size_alloc]),HF1.out.trans ((Fr.al HM1.out E _).trans (Fr.al hm2 E _)),al_old (blk_new w1 _),HM1.out.row _ (Nat.le_refl _),?_⟩
  intro h
  simp [Value.ownBlock] at h
 case round =>
  obtain ⟨ks,qq,pvq,hle,hpr,hkc,hkd,hm,hf,hbx,hrx,hvx⟩ := hrel
  obtain ⟨hfi,k,hk,hst⟩ := pr_fine hpr
  subst hk
  simp only [pstp] at hst
  obtain ⟨av,cv,rfl⟩ := own_slice hkd.1
  obtain ⟨m,hm'⟩ : ∃ m,ks.length = m := ⟨_,rfl⟩
  have HLN : Hid (ks.length = m) := hm'
  have HKD : Hid (KdR wr w.heap.size pvq.ownBlock D (.slice av m cv) ks) := by rw [hm'] at hkd;exact hkd
  have HM : Hid (PM wr p lb cap base N L qq pvq (DB D (.slice av m cv))) := by rw [hm'] at hm;exact hm
  have HF : Hid (Kp p pv pvq w wr) := hf
  have HBX : Hid (wr.heap[w1.heap.size]? = some (.cells #[.int .i64 (tk : Nat),.int .i64 (tp : Nat),.int .i64 tn,.string ts] 294 (0,0)) /\ pvq.ownBlock ≠ some w1.heap.size /\ (Value.slice av m cv).ownBlock ≠ some w1.heap.size) := ⟨hbx,hrx,by rw [hm'] at hvx;exact hvx⟩
  have hsr := hf.size
  have c0 := blk_at hbx 0 rfl
  have c1 := blk_at hbx 1 rfl
  rw [hm'] at hst hkc
  have hm4 : (ks.map (Value.int .i64)).length = m := by simp [hm']
  rw [hm']
  clear hkd hm hf hbx hrx hvx hpr hm' HST HM1 HF1 HCV
  by_cases hmc : m < c
  ·have hd : decide ((m : Int) < (c : Int)) = true := by simp;omega
   rw [if_pos hmc] at hst
   obtain ⟨b,q2,e2,f2,hst⟩ := bnd_some hst
   have H2 : Hid (pr L N n .operand qq = some (b,q2)) := pr_up (by omega) e2
   have HS2 : Hid (pr L N k (.prefL kk c t (ks ++ [b])) q2 = some (x,q')) := hst
   clear hst e2 c0 c1 hfi
   go_wp2_with (first
    | (go_at_call 415;refine (h1.go H2.out HM.out).mono ?_;rintro _ w2 ⟨rfl,pv2,hm2,hf2⟩;have hk2' := HKD.out.fr hf2 hpw;have hk2 : KdR w2 w.heap.size pv2.ownBlock D (.slice av m cv) ks := hk2';rw [KdR,HLN.out] at hk2;have hs2 := hf2.size)
    | (at_builtin;refine wpList_append_own2 _ rfl (.tmp 19) (.tmp 21) 26 rfl w.heap.size 3 i0 _ 1 8 Tryz.undK hi0 hz0 hz1 hz2 rfl (by decide) _ _ _ rfl (hk2.1.alloc _) _ 1 1 [.int .i64 b] rfl rfl (cells_new _ _ _ _ (by simp)) ?_ ?_ ?_ ?_ ?_;(intro u hu;simp at hu;subst hu;rfl);(unfold maxLen;omega);omega;(simp;omega);intro v' w9 hown9 hg9 hrow9))
   obtain ⟨bx2,hr2⟩ := hf2.loc HBX.out.1 (by omega) HBX.out.2.1
   obtain ⟨hm9,hd9,hh9,hs9,hb9⟩ := hm2.app E hk2' hbw (by omega) hg9 hown9 hrow9
   go_roundg k
   case measure => omega
   case rel =>
    refine ⟨ks ++ [b],q2,pv2,by omega,HS2.out,by rw [List.length_append,HLN.out];simp;omega,kd_snoc HLN.out hown9 hd9,hm9,(HF.out.trans hf2).app hpw (fun b hb => (hk2'.1.lt b hb).1) hh9 hs9 hb9,(hh9 _ (lt_of_block bx2) HBX.out.2.2).trans bx2,hr2,fun h => ?_⟩
    rcases hrow9 with h3 | h3
    ·exact HBX.out.2.2 (h3 ▸ h)
    ·rw [h3,World.size_alloc] at h
     have := lt_of_block bx2
     have h5 := Option.some.inj h
     omega
  ·have hd : decide ((m : Int) < (c : Int)) = false := by simp;omega
   rw [if_neg hmc] at hst
   obtain ⟨fa,rfl,rfl⟩ := addR_some hst
   have HK2 : Hid (KdR wr base pvq.ownBlock D (.slice av m cv) ks) := HKD.out.lower hbw
   have HM2 : Hid (PM wr p lb cap base N L qq pvq D) := HM.out.weak (fun b hb => .inl hb)
   clear hst hfi HM HKD
   go_wp2_with (go_at_call 317;refine (addM (k := kk) (a := tp) (wd := tk) (nm := 0) (ns := []) (ks := ks) fa E HM2.out (nmr_none _ _ _ _) HK2.out).mono ?_;rintro _ w7 ⟨rfl,pv7,hm7,hf7⟩)
   rw [HT.out.1,HT.out.2] at hm7
   go_ret
   exact ⟨rfl,pv7,hm7,HF.out.trans hf7⟩
end
end Go.Proofs.YtmkdoejpgkgpbaaGreatDoor
