import Derived.Test.YtmkdoejpgkgpbaaGreatDoorS36
import Derived.Deep.LoopGhost
import Derived.Test.YtmkdoejpgkgpbaaGreatDoorRows
import Derived.ProofKit
import Derived.LaidMore
import Derived.OpenShut
import Derived.Stop.Joined
import Derived.Lib.LaidTab
import Derived.ChangeMaps5
import Derived.ShutString
import Derived.Lib.AppendIntMem
set_option linter.unusedVariables false
set_option linter.unusedSimpArgs false
set_option maxHeartbeats 20000000
namespace Go.Proofs.YtmkdoejpgkgpbaaGreatDoor
open Go.RowKit Sl
section
variable {p lb cap base n : Nat} {N : Int} {L : List Tok}
theorem st_callG {N : Int} {rec : Md -> Q -> Rt} {ks : List Int} {q : Q} (h : ks.length <= 4 /\ cOpd (q.kind L) = true) : pstp L N rec (.callL ks) q = bnd (rec .operand q) (fun b q1 => rec (.callL (ks ++ [b])) q1) := if_pos h
theorem call_end {N : Int} {rec : Md -> Q -> Rt} {a : Int} {kt : List Int} {q q' : Q} {x : Int} (h : ¬ ((a :: kt).length <= 4 /\ cOpd (q.kind L) = true)) (he : pstp L N rec (.callL (a :: kt)) q = some (x,q')) :
 (kt = [] /\ q.fine /\ x = a /\ q' = q) \/ (kt ≠ [] /\ -1 <= a /\ a <= 100000 /\ q.fine /\ x = q.ps.length /\ q' = q.add ⟨19,plOf q.ps a,0,0,[],a :: kt⟩) := by
 cases kt with
 | nil =>
   have he2 : out a q = some (x,q') := (if_neg h).symm.trans he
   exact .inl ⟨rfl,out_some he2⟩
 | cons b kt =>
   have he2 : (if -1 <= a /\ a <= 100000 then addR q ⟨19,plOf q.ps a,0,0,[],a :: b :: kt⟩ else none) = some (x,q') := (if_neg h).symm.trans he
   split at he2
   ·rename_i h2
    exact .inr ⟨by simp,h2.1,h2.2,addR_some he2⟩
   ·cases he2
theorem st_tupG {N : Int} {rec : Md -> Q -> Rt} {t : Tok} {ks : List Int} {q : Q} (h : ks.length < 6 /\ q.kind L = 25) : pstp L N rec (.tupL t ks) q = bnd (rec .expr q.take) (fun b q1 => rec (.tupL t (ks ++ [b])) q1) := if_pos h
theorem tup_end {N : Int} {rec : Md -> Q -> Rt} {t : Tok} {a : Int} {kt : List Int} {q q' : Q} {x : Int} (h : ¬ ((a :: kt).length < 6 /\ q.kind L = 25)) (he : pstp L N rec (.tupL t (a :: kt)) q = some (x,q')) :
 (kt = [] /\ (q.finish L).fine /\ x = a /\ q' = q.finish L) \/ (kt ≠ [] /\ (q.finish L).fine /\ x = q.ps.length /\ q' = (q.finish L).add ⟨7,t.p,0,0,[],a :: kt⟩) := by
 cases kt with
 | nil =>
   have he2 : out a (q.finish L) = some (x,q') := (if_neg h).symm.trans he
   exact .inl ⟨rfl,out_some he2⟩
 | cons b kt =>
   have he2 : addR (q.finish L) ⟨7,t.p,0,0,[],a :: b :: kt⟩ = some (x,q') := (if_neg h).symm.trans he
   exact .inr ⟨by simp,addR_some he2⟩
set_option maxRecDepth 100000 in
theorem call_wk (E : PE p lb cap base L) (h1 : WkM p lb cap base N L n 415 .operand) (h2 : ∀ (kk c : Nat),c <= 3 -> Wk p lb cap base N L n 414 #[.pointer (some ⟨p,0,none⟩),.int .i64 (kk : Nat),.int .i64 (c : Nat)] (.pref kk c)) : WkM p lb cap base N L (n + 1) 413 .call := by
 intro w q pv x q' D hpr hpm
 obtain ⟨hfi,k,hk,hst⟩ := pr_fine hpr
 cases hk
 simp only [pstp] at hst
 obtain ⟨kk,hkk⟩ : ∃ kk,q.kind L = kk := ⟨_,rfl⟩
 rw [hkk] at hst
 have HKK : Hid (q.kind L = kk) := hkk
 have HPM : Hid (PM w p lb cap base N L q pv D) := hpm
 have hpw := hpm.lt E
 have hbw := hpm.bs
 clear hkk hpr hpm hfi
 by_cases k14 : kk = 14
 ·subst k14
  rw [if_pos rfl] at hst
  have HST : Hid (pr L N n (.pref 21 1) q = some (x,q')) := hst
  clear hst
  go_enter Tryz.func413,Tryz.ntmps413
  go_wp2_with (first
   | (go_at_call 248;refine (kindM HKK.out E HPM.out).mono ?_;rintro _ w1 ⟨rfl,hm1,hf1⟩)
   | (go_at_call 414;refine ((h2 21 1 (by omega)).go HST.out hm1).mono ?_;rintro _ w2 ⟨rfl,pv2,hm2,hf2⟩))
  go_ret
  exact ⟨rfl,pv2,hm2,hf1.trans hf2⟩
 rw [if_neg k14] at hst
 have b14 := ne_int k14
 clear k14
 by_cases k15 : kk = 15
 ·subst k15
  rw [if_pos rfl] at hst
  have HST : Hid (pr L N n (.pref 22 1) q = some (x,q')) := hst
  clear hst
  go_enter Tryz.func413,Tryz.ntmps413
  go_wp2_with (first
   | (go_at_call 248;refine (kindM HKK.out E HPM.out).mono ?_;rintro _ w1 ⟨rfl,hm1,hf1⟩)
   | (go_at_call 414;refine ((h2 22 1 (by omega)).go HST.out hm1).mono ?_;rintro _ w2 ⟨rfl,pv2,hm2,hf2⟩))
  go_ret
  exact ⟨rfl,pv2,hm2,hf1.trans hf2⟩
 rw [if_neg k15] at hst
 have b15 := ne_int k15
 clear k15
 by_cases k16 : kk = 16
 ·subst k16
  rw [if_pos rfl] at hst
  have HST : Hid (pr L N n (.pref 23 2) q = some (x,q')) := hst
  clear hst
  go_enter Tryz.func413,Tryz.ntmps413
  go_wp2_with (first
   | (go_at_call 248;refine (kindM HKK.out E HPM.out).mono ?_;rintro _ w1 ⟨rfl,hm1,hf1⟩)
   | (go_at_call 414;refine ((h2 23 2 (by omega)).go HST.out hm1).mono ?_;rintro _ w2 ⟨rfl,pv2,hm2,hf2⟩))
  go_ret
  exact ⟨rfl,pv2,hm2,hf1.trans hf2⟩
 rw [if_neg k16] at hst
 have b16 := ne_int k16
 clear k16
 by_cases k17 : kk = 17
 ·subst k17
  rw [if_pos rfl] at hst
  have HST : Hid (pr L N n (.pref 24 3) q = some (x,q')) := hst
  clear hst
  go_enter Tryz.func413,Tryz.ntmps413
  go_wp2_with (first
   | (go_at_call 248;refine (kindM HKK.out E HPM.out).mono ?_;rintro _ w1 ⟨rfl,hm1,hf1⟩)
   | (go_at_call 414;refine ((h2 24 3 (by omega)).go HST.out hm1).mono ?_;rintro _ w2 ⟨rfl,pv2,hm2,hf2⟩))
  go_ret
  exact ⟨rfl,pv2,hm2,hf1.trans hf2⟩
 rw [if_neg k17] at hst
 have b17 := ne_int k17
 clear k17
 obtain ⟨a,q1,e1,f1,hst⟩ := bnd_some hst
 have H1 : Hid (pr L N n .operand q = some (a,q1)) := e1
 have HS : Hid (pr L N n (.callL [a]) q1 = some (x,q')) := hst
 obtain ⟨i0,hi0,hz0,hz1,hz2⟩ := info_parts Tryz.infK
 clear hst e1 f1
 go_enter Tryz.func413,Tryz.ntmps413
 go_wp2_with (first
  | (go_at_call 248;refine (kindM HKK.out E HPM.out).mono ?_;rintro _ w0 ⟨rfl,hm0,hf0⟩)
  | (go_at_call 415;refine (h1.go H1.out hm0).mono ?_;rintro _ w1 ⟨rfl,pv1,hm1,hf1⟩))
 have gf1 := hf0.trans hf1
 have hs1 := gf1.size
 have HM1 : Hid (PM w1 p lb cap base N L q1 pv1 D) := hm1
 have HF1 : Hid (Kp p pv pv1 w w1) := gf1
 clear hm1 hf1 HPM hm0 hf0 gf1 HKK
 go_loopg [4] n (fun gh v (wr : World) => ∃ (kt : List Int) (qq : Q) (pvq : Value),gh <= n /\ pr L N gh (.callL (a :: kt)) qq = some (x,q') /\ (a :: kt).length <= 5 /\ KdR wr w.heap.size pvq.ownBlock D v (a :: kt) /\ PM wr p lb cap base N L qq pvq (DB D v) /\ Kp p pv pvq w wr)
 case atStart =>
  exact ⟨[],q1,pv1,Nat.le_refl _,HS.out,by simp,kdr_new HM1.out hs1 [a] (by simp) rfl rfl rfl,HM1.out.alD E _ rfl,HF1.out.trans (Fr.al HM1.out E _)⟩
 case round =>
  obtain ⟨kt,qq,pvq,hle,hpr,hkc,hkd,hm,hf⟩ := hrel
  obtain ⟨hfi,k,hk,hst⟩ := pr_fine hpr
  subst hk
  obtain ⟨av,cv,rfl⟩ := own_slice hkd.1
  obtain ⟨m,hm'⟩ : ∃ m,(a :: kt).length = m := ⟨_,rfl⟩
  have HLN : Hid ((a :: kt).length = m) := hm'
  have HKD : Hid (KdR wr w.heap.size pvq.ownBlock D (.slice av m cv) (a :: kt)) := by rw [hm'] at hkd;exact hkd
  have HM : Hid (PM wr p lb cap base N L qq pvq (DB D (.slice av m cv))) := by rw [hm'] at hm;exact hm
  have HF : Hid (Kp p pv pvq w wr) := hf
  have hsr := hf.size
  have hm4 : ((a :: kt).map (Value.int .i64)).length = m := by rw [List.length_map];exact hm'
  have hm1 : 1 <= m := by rw [<- hm'];simp
  have FI := hfi
  have hkt0 : m = 1 ↔ kt = [] := by rw [<- hm'];cases kt <;> simp
  have HKT : Hid (m = 1 ↔ kt = []) := hkt0
  clear hkt0
  obtain ⟨kk,hkk⟩ : ∃ kk,qq.kind L = kk := ⟨_,rfl⟩
  have HKK : Hid (qq.kind L = kk) := hkk
  rw [hm'] at hkc
  rw [hm']
  clear hkd hm hf hpr hm' HS HM1 HF1 hfi
  by_cases hgo : m <= 4 /\ cOpd kk = true
  ·have hd : decide ((m : Int) <= 4) = true := by simp;omega
   have HOP : Hid (cOpd (qq.kind L) = true) := by show _ = _;rw [hkk];exact hgo.2
   rw [st_callG ⟨by rw [HLN.out];exact hgo.1,HOP.out⟩] at hst
   obtain ⟨b,q2,e2,f2,hst⟩ := bnd_some hst
   have H2 : Hid (pr L N n .operand qq = some (b,q2)) := pr_up (by omega) e2
   have HS2 : Hid (pr L N k (.callL (a :: kt ++ [b])) q2 = some (x,q')) := hst
   clear hst e2 hkk
   go_wp2_with (first
    | (go_at_call 416;refine (atOperandM HOP.out E HM.out).mono ?_;rintro _ w6 ⟨rfl,hm6,hf6⟩;have gf6 := HF.out.trans hf6;have hk6 := HKD.out.fr hf6 hpw;have hs6 := hf6.size;clear HM)
    | (go_at_call 415;refine (h1.go H2.out hm6).mono ?_;rintro _ w2 ⟨rfl,pv2,hm2,hf2⟩;have hk2' := hk6.fr hf2 hpw;have hk2 : KdR w2 w.heap.size pv2.ownBlock D (.slice av m cv) (a :: kt) := hk2';rw [KdR,HLN.out] at hk2;have hs2 := hf2.size;have gfx := gf6.trans hf2)
    | (at_builtin;refine wpList_append_own2 _ rfl (.tmp 38) (.tmp 40) 26 rfl w.heap.size 3 i0 _ 1 8 Tryz.undK hi0 hz0 hz1 hz2 rfl (by decide) _ _ _ rfl (hk2.1.alloc _) _ 1 1 [.int .i64 b] rfl rfl (cells_new _ _ _ _ (by simp)) ?_ ?_ ?_ ?_ ?_;(intro u hu;simp at hu;subst hu;rfl);(unfold maxLen;omega);omega;(simp;omega);intro v' w9 hown9 hg9 hrow9))
   obtain ⟨hm9,hd9,hh9,hs9,hb9⟩ := hm2.app E hk2' hbw (by omega) hg9 hown9 hrow9
   go_roundg k
   case measure => omega
   case rel =>
    refine ⟨kt ++ [b],q2,pv2,by omega,HS2.out,by have := HLN.out;simp at this ⊢;omega,kd_snoc (ks := a :: kt) HLN.out hown9 hd9,hm9,gfx.app hpw (fun b hb => (hk2'.1.lt b hb).1) hh9 hs9 hb9⟩
  ·have hno : ¬ ((a :: kt).length <= 4 /\ cOpd (qq.kind L) = true) := by rw [HLN.out,hkk];exact hgo
   have hend := call_end hno hst
   have HK2 : Hid (KdR wr base pvq.ownBlock D (.slice av m cv) (a :: kt)) := HKD.out.lower hbw
   have HM2 : Hid (PM wr p lb cap base N L qq pvq D) := HM.out.weak (fun b hb => .inl hb)
   have HOPx : Hid (m <= 4 -> cOpd (qq.kind L) = false) := fun h4 => by
    rw [hkk]
    cases hc : cOpd kk with
    | false => rfl
    | true => exact absurd ⟨h4,hc⟩ hgo
   clear hst hno hgo HM hkk
   rcases hend with ⟨hkt,_,rfl,rfl⟩ | ⟨hkt,ha1,ha2,_,rfl,rfl⟩
   ·have hmm : m = 1 := HKT.out.2 hkt
    subst hmm
    clear hkt
    have HOP : Hid (cOpd (q'.kind L) = false) := HOPx.out (by omega)
    go_wp2_with (go_at_call 416;refine (atOperandM HOP.out E HM2.out).mono ?_;rintro _ w6 ⟨rfl,hm6,hf6⟩;have gf6 := HF.out.trans hf6)
    go_ret
    exact ⟨rfl,pvq,hm6,gf6⟩
   ·have hmb : ((m : Int) == (1 : Int)) = false := by
     have : m ≠ 1 := fun h => hkt (HKT.out.1 h)
     simp;omega
    clear hkt
    by_cases h4 : m <= 4
    ·have hd : decide ((m : Int) <= 4) = true := by simp;omega
     have HOP : Hid (cOpd (qq.kind L) = false) := HOPx.out h4
     go_wp2_with (first
      | (go_at_call 416;refine (atOperandM HOP.out E HM2.out).mono ?_;rintro _ w6 ⟨rfl,hm6,hf6⟩;have gf6 := HF.out.trans hf6;have hk6 := HK2.out.fr hf6 E.pb;clear HM2)
      | (go_at_call 417;refine (placeOfM ha1 ha2 FI E hm6).mono ?_;rintro _ w7 ⟨rfl,hm7,hf7⟩;have gf7 := gf6.trans hf7;have hk7 := hk6.fr hf7 E.pb;clear hm6)
      | (go_at_call 317;refine (addM (k := 19) (a := plOf qq.ps a) (wd := 0) (nm := 0) (ns := []) (ks := a :: kt) FI E hm7 (nmr_none _ _ _ _) hk7).mono ?_;rintro _ w8 ⟨rfl,pv8,hm8,hf8⟩))
     go_ret
     exact ⟨rfl,pv8,hm8,gf7.trans hf8⟩
    ·have hd : decide ((m : Int) <= 4) = false := by simp;omega
     go_wp2_with (first
      | (go_at_call 417;refine (placeOfM ha1 ha2 FI E HM2.out).mono ?_;rintro _ w7 ⟨rfl,hm7,hf7⟩;have gf7 := HF.out.trans hf7;have hk7 := HK2.out.fr hf7 E.pb;clear HM2)
      | (go_at_call 317;refine (addM (k := 19) (a := plOf qq.ps a) (wd := 0) (nm := 0) (ns := []) (ks := a :: kt) FI E hm7 (nmr_none _ _ _ _) hk7).mono ?_;rintro _ w8 ⟨rfl,pv8,hm8,hf8⟩))
     go_ret
     exact ⟨rfl,pv8,hm8,gf7.trans hf8⟩
end
section
variable {p lb cap base n : Nat} {N : Int} {L : List Tok}
theorem finishL {w : World} {q : Q} {pv : Value} {D : Nat -> Prop} (hq : q.S.next <= 900000 /\ -900000 <= q.S.opn /\ q.S.opn <= 900000) (E : PE p lb cap base L) (h : PM w p lb cap base N L q pv D) :
 Calls Tryz.prog 361 #[.pointer (some ⟨p,0,none⟩)] w fun e w' => (∃ u,e = .returned u) /\ PM w' p lb cap base N L (q.finish L) pv D /\ Kp p pv pv w w' := by
 obtain ⟨h1,h2,h3⟩ := hq
 refine (finish_any (S := q.S.row pv) (Nat.le_trans E.len (by omega)) (show q.S.next <= _ by omega) (show _ <= q.S.opn by omega) (show q.S.opn <= _ by omega) h.blk E.cap h.cw E.lbp).mono ?_
 rintro _ w1 ⟨hu,hb,ho⟩
 rw [finish_row] at hb
 exact ⟨hu,h.step E hb ho,Fr.only ho ho.below.size⟩
set_option maxRecDepth 100000 in
theorem brk_wk (E : PE p lb cap base L) (h1 : WkM p lb cap base N L n 176 .expr) : WkM p lb cap base N L (n + 1) 419 .brk := by
 intro w q pv x q' D hpr hpm
 obtain ⟨hfi,k,hk,hst⟩ := pr_fine hpr
 cases hk
 simp only [pstp] at hst
 obtain ⟨t,ht⟩ : ∃ t,q.begW L N 23 = t := ⟨_,rfl⟩
 rw [ht] at hst
 obtain ⟨tk,tp,tn,ts,hcv,g1,g2,-,-⟩ := cwV_nat t
 have HCV : Hid (cwV (q.begW L N 23) = .agg #[.int .i64 (tk : Nat),.int .i64 (tp : Nat),.int .i64 tn,.string ts]) := by rw [ht];exact hcv
 have HT : Hid (tp = t.p) := g2
 have HPM : Hid (PM w p lb cap base N L q pv D) := hpm
 have FI0 := hfi
 have HFI : Hid q.fine := hfi
 have hpw := hpm.lt E
 have hbw := hpm.bs
 obtain ⟨kk,hkk⟩ : ∃ kk,(q.beg L N 23).kind L = kk := ⟨_,rfl⟩
 rw [hkk] at hst
 have HKK : Hid ((q.beg L N 23).kind L = kk) := hkk
 obtain ⟨i0,hi0,hz0,hz1,hz2⟩ := info_parts Tryz.infK
 clear hkk hpr hpm hfi hcv g1 g2 ht
 by_cases k24 : kk = 24
 ·subst k24
  rw [if_pos rfl] at hst
  obtain ⟨FF,rfl,rfl⟩ := addR_some hst
  have FB : (q.beg L N 23).S.next <= 900000 /\ -900000 <= (q.beg L N 23).S.opn /\ (q.beg L N 23).S.opn <= 900000 := by
   have h6 : (q.beg L N 23).S.opn = q.S.opn + 1 := begin_opn L N 23 q.S
   have h7 := FI0.2.1
   have h8 := FI0.2.2.1
   have h9 : (q.beg L N 23).S.next <= 500001 := begin_next (L := L) (N := N) (k := 23) (M := 500000) (S := q.S) (by have := E.len;omega) FI0.1
   exact ⟨by omega,by omega,by omega⟩
  clear hst FI0
  have FI0 := True.intro
  go_enter Tryz.func419,Tryz.ntmps419
  go_wp2_with (first
   | (go_at_call 360;refine (begM HCV.out HFI.out E HPM.out).mono ?_;rintro _ w1 ⟨rfl,hm1,hf1⟩;have np := Nat.ne_of_gt (hm1.lt E);have hr1 := hm1.row _ (Nat.le_refl _);clear HPM)
   | (go_at_call 248;refine (kindM HKK.out E (hm1.al E _)).mono ?_;rintro _ w2 ⟨rfl,hm2,hf2⟩;have gf2 := hf1.trans ((Fr.al hm1 E _).trans hf2);obtain ⟨bx2,hr2⟩ := hf2.loc (blk_new w1 _) np hr1;clear hm1)
   | (go_at_call 361;refine (finishL FB E hm2).mono ?_;rintro _ w3 ⟨⟨u3,rfl⟩,hm3,hf3⟩;have gf3 := gf2.trans hf3;obtain ⟨bx3,hr3⟩ := hf3.loc bx2 np hr2;have c1 := blk_at bx3 1 rfl;clear hm2 bx2 bx3)
   | (go_at_call 317;refine (addM (k := 6) (a := tp) (wd := 0) (nm := 0) (ns := []) (ks := []) FF E hm3 (nmr_none _ _ _ _) (kdr_none _ _ _ _)).mono ?_;rintro _ w4 ⟨rfl,pv4,hm4,hf4⟩))
  rw [HT.out] at hm4
  go_ret
  exact ⟨rfl,pv4,hm4,gf3.trans hf4⟩
 rw [if_neg k24] at hst
 have b24 := ne_int k24
 obtain ⟨a,q1,e1,f1,hst⟩ := bnd_some hst
 have H1 : Hid (pr L N n .expr (q.beg L N 23) = some (a,q1)) := e1
 have HS : Hid (pr L N n (.tupL t [a]) q1 = some (x,q')) := hst
 clear hst e1 f1 k24
 go_enter Tryz.func419,Tryz.ntmps419
 go_wp2_with (first
  | (go_at_call 360;refine (begM HCV.out HFI.out E HPM.out).mono ?_;rintro _ w1 ⟨rfl,hm1,hf1⟩;have np := Nat.ne_of_gt (hm1.lt E);have hr1 := hm1.row _ (Nat.le_refl _);clear HPM)
  | (go_at_call 248;refine (kindM HKK.out E (hm1.al E _)).mono ?_;rintro _ w2 ⟨rfl,hm2,hf2⟩;have gf2 := hf1.trans ((Fr.al hm1 E _).trans hf2);obtain ⟨bx2,hr2⟩ := hf2.loc (blk_new w1 _) np hr1;have hs1 := hf1.size;have hlt1 := lt_of_block bx2;clear hm1)
  | (go_at_call 176;refine (h1.go H1.out hm2).mono ?_;rintro _ w3 ⟨rfl,pv3,hm3,hf3⟩;have gf3 := gf2.trans hf3;obtain ⟨bx3,hr3⟩ := hf3.loc bx2 np hr2;clear hm2 bx2))
 have hs3 := gf3.size
 have hlt3 := lt_of_block bx3
 have HM1 : Hid (PM w3 p lb cap base N L q1 pv3 D) := hm3
 have HF1 : Hid (Kp p pv pv3 w w3) := gf3
 have HB1 : Hid (w3.heap[w1.heap.size]? = some (.cells #[.int .i64 (tk : Nat),.int .i64 (tp : Nat),.int .i64 tn,.string ts] 294 (0,0)) /\ pv3.ownBlock ≠ some w1.heap.size) := ⟨bx3,hr3⟩
 clear hm3 gf3 bx3 hr3 gf2 hf3 hf1 hf2 hr1 hr2 HKK
 go_loopg [5] n (fun gh v (wr : World) => ∃ (kt : List Int) (qq : Q) (pvq : Value),gh <= n /\ pr L N gh (.tupL t (a :: kt)) qq = some (x,q') /\ (a :: kt).length <= 6 /\ KdR wr w.heap.size pvq.ownBlock D v (a :: kt) /\ PM wr p lb cap base N L qq pvq (DB D v) /\ Kp p pv pvq w wr /\ wr.heap[w1.heap.size]? = some (.cells #[.int .i64 (tk : Nat),.int .i64 (tp : Nat),.int .i64 tn,.string ts] 294 (0,0)) /\ pvq.ownBlock ≠ some w1.heap.size /\ v.ownBlock ≠ some w1.heap.size)
 case atStart =>
  refine ⟨[],q1,pv3,Nat.le_refl _,HS.out,by simp,kdr_new HM1.out hs3 [a] (by simp) rfl rfl rfl,HM1.out.alD E _ rfl,HF1.out.trans (Fr.al HM1.out E _),al_old HB1.out.1,HB1.out.2,fun h => ?_⟩
  have h5 : w3.heap.size = w1.heap.size := by simpa [Value.ownBlock] using h
  omega
 case round =>
  obtain ⟨kt,qq,pvq,hle,hpr,hkc,hkd,hm,hf,hbx,hrx,hvx⟩ := hrel
  obtain ⟨hfi,k,hk,hst⟩ := pr_fine hpr
  subst hk
  obtain ⟨av,cv,rfl⟩ := own_slice hkd.1
  obtain ⟨m,hm'⟩ : ∃ m,(a :: kt).length = m := ⟨_,rfl⟩
  have HLN : Hid ((a :: kt).length = m) := hm'
  have HKD : Hid (KdR wr w.heap.size pvq.ownBlock D (.slice av m cv) (a :: kt)) := by rw [hm'] at hkd;exact hkd
  have HM : Hid (PM wr p lb cap base N L qq pvq (DB D (.slice av m cv))) := by rw [hm'] at hm;exact hm
  have HF : Hid (Kp p pv pvq w wr) := hf
  have hsr := hf.size
  have hm4 : ((a :: kt).map (Value.int .i64)).length = m := by rw [List.length_map];exact hm'
  have hm1 : 1 <= m := by rw [<- hm'];simp
  have FI := hfi
  have hkt0 : m = 1 ↔ kt = [] := by rw [<- hm'];cases kt <;> simp
  have HKT : Hid (m = 1 ↔ kt = []) := hkt0
  clear hkt0
  obtain ⟨kk,hkk⟩ : ∃ kk,qq.kind L = kk := ⟨_,rfl⟩
  have HKK : Hid (qq.kind L = kk) := hkk
  rw [hm'] at hkc
  rw [hm']
  have HBX : Hid (wr.heap[w1.heap.size]? = some (.cells #[.int .i64 (tk : Nat),.int .i64 (tp : Nat),.int .i64 tn,.string ts] 294 (0,0)) /\ pvq.ownBlock ≠ some w1.heap.size /\ (Value.slice av m cv).ownBlock ≠ some w1.heap.size) := ⟨hbx,hrx,by rw [hm'] at hvx;exact hvx⟩
  clear hkd hm hf hpr hm' HS HM1 HF1 hfi hbx hrx hvx HB1
  by_cases hgo : m < 6 /\ kk = 25
  ·obtain ⟨hm6,rfl⟩ := hgo
   have hd : decide ((m : Int) < 6) = true := by simp;omega
   rw [st_tupG ⟨by rw [HLN.out];exact hm6,HKK.out⟩] at hst
   obtain ⟨b,q2,e2,f2,hst⟩ := bnd_some hst
   obtain ⟨wk,wp,wn,ws,hcw,-⟩ := cwV_nat (qq.word L)
   have HCW : Hid (cwV (qq.word L) = .agg #[.int .i64 (wk : Nat),.int .i64 (wp : Nat),.int .i64 wn,.string ws]) := hcw
   have H2 : Hid (pr L N n .expr qq.take = some (b,q2)) := pr_up (by omega) e2
   have HS2 : Hid (pr L N k (.tupL t (a :: kt ++ [b])) q2 = some (x,q')) := hst
   have FQ : qq.S.next <= 900000 := by have := FI.1;omega
   clear hst e2 hkk hcw
   go_wp2_with (first
    | (go_at_call 248;refine (kindM HKK.out E HM.out).mono ?_;rintro _ w5 ⟨rfl,hm5,hf5⟩;have gf5 := HF.out.trans hf5;have hk5 := HKD.out.fr hf5 hpw;have hs5 := hf5.size;obtain ⟨bx5,hr5⟩ := hf5.loc HBX.out.1 (by omega) HBX.out.2.1;clear HM)
    | (go_at_call 254;refine (takeM HCW.out FQ E hm5).mono ?_;rintro _ w6 ⟨rfl,hm6',hf6⟩;have gf6 := gf5.trans hf6;have hk6 := hk5.fr hf6 hpw;have hs6 := hf6.size;obtain ⟨bx6,hr6⟩ := hf6.loc bx5 (by omega) hr5;clear hm5)
    | (go_at_call 176;refine (h1.go H2.out hm6').mono ?_;rintro _ w2' ⟨rfl,pv2,hm2,hf2⟩;have hk2' := hk6.fr hf2 hpw;have hk2 : KdR w2' w.heap.size pv2.ownBlock D (.slice av m cv) (a :: kt) := hk2';rw [KdR,HLN.out] at hk2;have hs2 := hf2.size;have gfx := gf6.trans hf2;obtain ⟨bx2,hr2⟩ := hf2.loc bx6 (by omega) hr6;clear bx5 bx6)
    | (at_builtin;refine wpList_append_own2 _ rfl (.tmp 35) (.tmp 37) 26 rfl w.heap.size 3 i0 _ 1 8 Tryz.undK hi0 hz0 hz1 hz2 rfl (by decide) _ _ _ rfl (hk2.1.alloc _) _ 1 1 [.int .i64 b] rfl rfl (cells_new _ _ _ _ (by simp)) ?_ ?_ ?_ ?_ ?_;(intro u hu;simp at hu;subst hu;rfl);(unfold maxLen;omega);omega;(simp;omega);intro v' w9 hown9 hg9 hrow9))
   obtain ⟨hm9,hd9,hh9,hs9,hb9⟩ := hm2.app E hk2' hbw (by omega) hg9 hown9 hrow9
   go_roundg k
   case measure => omega
   case rel =>
    refine ⟨kt ++ [b],q2,pv2,by omega,HS2.out,by have := HLN.out;simp at this ⊢;omega,kd_snoc (ks := a :: kt) HLN.out hown9 hd9,hm9,gfx.app hpw (fun b hb => (hk2'.1.lt b hb).1) hh9 hs9 hb9,(hh9 _ (lt_of_block bx2) HBX.out.2.2).trans bx2,hr2,fun h => ?_⟩
    rcases hrow9 with h3 | h3
    ·exact HBX.out.2.2 (h3 ▸ h)
    ·rw [h3,World.size_alloc] at h
     have := lt_of_block bx2
     have h5 := Option.some.inj h
     omega
  ·have hno : ¬ ((a :: kt).length < 6 /\ qq.kind L = 25) := by rw [HLN.out,hkk];exact hgo
   have hend := tup_end hno hst
   have HK2 : Hid (KdR wr base pvq.ownBlock D (.slice av m cv) (a :: kt)) := HKD.out.lower hbw
   have HM2 : Hid (PM wr p lb cap base N L qq pvq D) := HM.out.weak (fun b hb => .inl hb)
   clear hst hno HM hkk
   rcases hend with ⟨hkt,FF,rfl,rfl⟩ | ⟨hkt,FF,rfl,rfl⟩
   ·have hmm : m = 1 := HKT.out.2 hkt
    subst hmm
    have hkb : ((kk : Int) == (25 : Int)) = false := by simp;omega
    clear hkt hgo
    go_wp2_with (first
     | (go_at_call 248;refine (kindM HKK.out E HM2.out).mono ?_;rintro _ w6 ⟨rfl,hm6,hf6⟩;obtain ⟨bx6,hr6⟩ := hf6.loc HBX.out.1 (by omega) HBX.out.2.1;have gf6 := HF.out.trans hf6;have hk6 := HK2.out.fr hf6 E.pb;clear HM2)
     | (go_at_call 361;refine (finishM FI E hm6).mono ?_;rintro _ w7 ⟨⟨u7,rfl⟩,hm7,hf7⟩;obtain ⟨bx7,hr7⟩ := hf7.loc bx6 (by omega) hr6;have gf7 := gf6.trans hf7;have hk7 := hk6.fr hf7 E.pb;have c1 := blk_at bx7 1 rfl;clear bx7;clear hm6))
    go_ret
    exact ⟨rfl,pvq,hm7,gf7⟩
   ·have hmb : ((m : Int) == (1 : Int)) = false := by
     have : m ≠ 1 := fun h => hkt (HKT.out.1 h)
     simp;omega
    clear hkt
    by_cases h6 : m < 6
    ·have hd : decide ((m : Int) < 6) = true := by simp;omega
     have hkb : ((kk : Int) == (25 : Int)) = false := by simp;omega
     clear hgo
     go_wp2_with (first
      | (go_at_call 248;refine (kindM HKK.out E HM2.out).mono ?_;rintro _ w6 ⟨rfl,hm6,hf6⟩;obtain ⟨bx6,hr6⟩ := hf6.loc HBX.out.1 (by omega) HBX.out.2.1;have gf6 := HF.out.trans hf6;have hk6 := HK2.out.fr hf6 E.pb;clear HM2)
      | (go_at_call 361;refine (finishM FI E hm6).mono ?_;rintro _ w7 ⟨⟨u7,rfl⟩,hm7,hf7⟩;obtain ⟨bx7,hr7⟩ := hf7.loc bx6 (by omega) hr6;have gf7 := gf6.trans hf7;have hk7 := hk6.fr hf7 E.pb;have c1 := blk_at bx7 1 rfl;clear bx7;clear hm6)
      | (go_at_call 317;refine (addM (k := 7) (a := tp) (wd := 0) (nm := 0) (ns := []) (ks := a :: kt) FF E hm7 (nmr_none _ _ _ _) hk7).mono ?_;rintro _ w8 ⟨rfl,pv8,hm8,hf8⟩))
     rw [HT.out] at hm8
     go_ret
     exact ⟨rfl,pv8,hm8,gf7.trans hf8⟩
    ·have hd : decide ((m : Int) < 6) = false := by simp;omega
     clear hgo
     go_wp2_with (first
      | (go_at_call 361;refine (finishM FI E HM2.out).mono ?_;rintro _ w7 ⟨⟨u7,rfl⟩,hm7,hf7⟩;obtain ⟨bx7,hr7⟩ := hf7.loc HBX.out.1 (by omega) HBX.out.2.1;have gf7 := HF.out.trans hf7;have hk7 := HK2.out.fr hf7 E.pb;have c1 := blk_at bx7 1 rfl;clear bx7;clear HM2)
      | (go_at_call 317;refine (addM (k := 7) (a := tp) (wd := 0) (nm := 0) (ns := []) (ks := a :: kt) FF E hm7 (nmr_none _ _ _ _) hk7).mono ?_;rintro _ w8 ⟨rfl,pv8,hm8,hf8⟩))
     rw [HT.out] at hm8
     go_ret
     exact ⟨rfl,pv8,hm8,gf7.trans hf8⟩
set_option maxRecDepth 100000 in
theorem atom_wk (E : PE p lb cap base L) (h1 : WkM p lb cap base N L n 419 .brk) (h2 : ∀ (kk c : Nat),c <= 3 -> Wk p lb cap base N L n 414 #[.pointer (some ⟨p,0,none⟩),.int .i64 (kk : Nat),.int .i64 (c : Nat)] (.pref kk c)) : WkM p lb cap base N L (n + 1) 418 .atom := by
 intro w q pv x q' D hpr hpm
 obtain ⟨hfi,k,hk,hst⟩ := pr_fine hpr
 cases hk
 simp only [pstp] at hst
 obtain ⟨kk,hkk⟩ : ∃ kk,q.kind L = kk := ⟨_,rfl⟩
 rw [hkk] at hst
 have HKK : Hid (q.kind L = kk) := hkk
 have HPM : Hid (PM w p lb cap base N L q pv D) := hpm
 have F0 : q.S.next <= 900000 := by have := hfi.1;omega
 clear hkk hpr hpm hfi
 by_cases k1 : kk = 1
 ·subst k1
  rw [if_pos rfl] at hst
  obtain ⟨tk,tp,tn,ts,hcv,g1,g2,g3,g4⟩ := cwV_nat (q.word L)
  obtain ⟨FF,rfl,rfl⟩ := addR_some hst
  rw [<- g2,<- g3]
  have HCV : Hid (cwV (q.word L) = .agg #[.int .i64 (tk : Nat),.int .i64 (tp : Nat),.int .i64 tn,.string ts]) := hcv
  clear hst hcv g1 g2 g3 g4
  go_enter Tryz.func418,Tryz.ntmps418
  go_wp2_with (first
   | (go_at_call 248;refine (kindM HKK.out E HPM.out).mono ?_;rintro _ w1 ⟨rfl,hm1,hf1⟩;clear HPM)
   | (go_at_call 254;refine (takeM HCV.out F0 E hm1).mono ?_;rintro _ w3 ⟨rfl,hm3,hf3⟩;have gf3 := hf1.trans hf3;clear hm1)
   | (go_at_call 317;refine (addM (k := 1) (a := tp) (wd := 0) (nm := tn) (ns := []) (ks := []) FF E (hm3.al E _) (nmr_none _ _ _ _) (kdr_none _ _ _ _)).mono ?_;rintro _ w7 ⟨rfl,pv7,hm7,hf7⟩))
  go_ret
  exact ⟨rfl,pv7,hm7,gf3.trans ((Fr.al hm3 E _).trans hf7)⟩
 rw [if_neg k1] at hst
 have b1 := ne_int k1
 clear k1
 by_cases k2 : kk = 2
 ·subst k2
  rw [if_pos rfl] at hst
  obtain ⟨tk,tp,tn,ts,hcv,g1,g2,g3,g4⟩ := cwV_nat (q.word L)
  obtain ⟨FF,rfl,rfl⟩ := addR_some hst
  rw [<- g2,<- g4]
  have HCV : Hid (cwV (q.word L) = .agg #[.int .i64 (tk : Nat),.int .i64 (tp : Nat),.int .i64 tn,.string ts]) := hcv
  clear hst hcv g1 g2 g3 g4
  go_enter Tryz.func418,Tryz.ntmps418
  go_wp2_with (first
   | (go_at_call 248;refine (kindM HKK.out E HPM.out).mono ?_;rintro _ w1 ⟨rfl,hm1,hf1⟩;clear HPM)
   | (go_at_call 254;refine (takeM HCV.out F0 E hm1).mono ?_;rintro _ w3 ⟨rfl,hm3,hf3⟩;have gf3 := hf1.trans hf3;clear hm1)
   | (go_at_call 317;refine (addM (k := 5) (a := tp) (wd := 0) (nm := 0) (ns := [ts]) (ks := []) FF E ((hm3.al E _).al E _) (nmr_new (hm3.al E _) [ts] (by simp) rfl (by rw [World.size_alloc]) rfl) (kdr_none _ _ _ _)).mono ?_;rintro _ w7 ⟨rfl,pv7,hm7,hf7⟩))
  go_ret
  exact ⟨rfl,pv7,hm7,gf3.trans ((Fr.al hm3 E _).trans ((Fr.al (hm3.al E _) E _).trans hf7))⟩
 rw [if_neg k2] at hst
 have b2 := ne_int k2
 clear k2
 by_cases k11 : kk = 11
 ·subst k11
  rw [if_pos rfl] at hst
  have HST : Hid (pr L N n (.pref 2 0) q = some (x,q')) := hst
  clear hst
  go_enter Tryz.func418,Tryz.ntmps418
  go_wp2_with (first
   | (go_at_call 248;refine (kindM HKK.out E HPM.out).mono ?_;rintro _ w1 ⟨rfl,hm1,hf1⟩)
   | (go_at_call 414;refine ((h2 2 0 (by omega)).go HST.out hm1).mono ?_;rintro _ w2 ⟨rfl,pv2,hm2,hf2⟩))
  go_ret
  exact ⟨rfl,pv2,hm2,hf1.trans hf2⟩
 rw [if_neg k11] at hst
 have b11 := ne_int k11
 clear k11
 by_cases k12 : kk = 12
 ·subst k12
  rw [if_pos rfl] at hst
  have HST : Hid (pr L N n (.pref 3 0) q = some (x,q')) := hst
  clear hst
  go_enter Tryz.func418,Tryz.ntmps418
  go_wp2_with (first
   | (go_at_call 248;refine (kindM HKK.out E HPM.out).mono ?_;rintro _ w1 ⟨rfl,hm1,hf1⟩)
   | (go_at_call 414;refine ((h2 3 0 (by omega)).go HST.out hm1).mono ?_;rintro _ w2 ⟨rfl,pv2,hm2,hf2⟩))
  go_ret
  exact ⟨rfl,pv2,hm2,hf1.trans hf2⟩
 rw [if_neg k12] at hst
 have b12 := ne_int k12
 clear k12
 by_cases k13 : kk = 13
 ·subst k13
  rw [if_pos rfl] at hst
  have HST : Hid (pr L N n (.pref 4 0) q = some (x,q')) := hst
  clear hst
  go_enter Tryz.func418,Tryz.ntmps418
  go_wp2_with (first
   | (go_at_call 248;refine (kindM HKK.out E HPM.out).mono ?_;rintro _ w1 ⟨rfl,hm1,hf1⟩)
   | (go_at_call 414;refine ((h2 4 0 (by omega)).go HST.out hm1).mono ?_;rintro _ w2 ⟨rfl,pv2,hm2,hf2⟩))
  go_ret
  exact ⟨rfl,pv2,hm2,hf1.trans hf2⟩
 rw [if_neg k13] at hst
 have b13 := ne_int k13
 clear k13
 by_cases k23 : kk = 23
 ·subst k23
  rw [if_pos rfl] at hst
  have HST : Hid (pr L N n .brk q = some (x,q')) := hst
  clear hst
  go_enter Tryz.func418,Tryz.ntmps418
  go_wp2_with (first
   | (go_at_call 248;refine (kindM HKK.out E HPM.out).mono ?_;rintro _ w1 ⟨rfl,hm1,hf1⟩)
   | (go_at_call 419;refine (h1.go HST.out hm1).mono ?_;rintro _ w2 ⟨rfl,pv2,hm2,hf2⟩))
  go_ret
  exact ⟨rfl,pv2,hm2,hf1.trans hf2⟩
 rw [if_neg k23] at hst
 have b23 := ne_int k23
 clear k23
 obtain ⟨FF,rfl,rfl⟩ := out_some hst
 clear hst
 go_enter Tryz.func418,Tryz.ntmps418
 go_wp2_with (first
  | (go_at_call 248;refine (kindM HKK.out E HPM.out).mono ?_;rintro _ w1 ⟨rfl,hm1,hf1⟩)
  | (go_at_call 253;refine (failM (e := 4) E hm1).mono ?_;rintro _ w2 ⟨⟨u2,rfl⟩,hm2,hf2⟩))
 go_ret
 exact ⟨rfl,pv,hm2,hf1.trans hf2⟩
end
structure Aw (p lb cap base : Nat) (N : Int) (L : List Tok) (n : Nat) : Prop where
 expr : WkM p lb cap base N L n 176 .expr
 lett : WkM p lb cap base N L n 249 .lett
 choice : WkM p lb cap base N L n 250 .choice
 func : WkM p lb cap base N L n 251 .func
 seq : WkM p lb cap base N L n 252 .seq
 cmp : WkM p lb cap base N L n 319 .cmp
 sum : WkM p lb cap base N L n 362 .sum
 prod : WkM p lb cap base N L n 389 .prod
 un : WkM p lb cap base N L n 408 .un
 call : WkM p lb cap base N L n 413 .call
 operand : WkM p lb cap base N L n 415 .operand
 atom : WkM p lb cap base N L n 418 .atom
 brk : WkM p lb cap base N L n 419 .brk
 pref : ∀ (kk c : Nat),c <= 3 -> Wk p lb cap base N L n 414 #[.pointer (some ⟨p,0,none⟩),.int .i64 (kk : Nat),.int .i64 (c : Nat)] (.pref kk c)
theorem aw_all {p lb cap base : Nat} {N : Int} {L : List Tok} (E : PE p lb cap base L) : ∀ n,Aw p lb cap base N L n := by
 intro n
 induction n with
 | zero =>
   have h : ∀ F args m,Wk p lb cap base N L 0 F args m := fun F args m w q pv x q' D hpr => by cases hpr
   exact ⟨h _ _ _,h _ _ _,h _ _ _,h _ _ _,h _ _ _,h _ _ _,h _ _ _,h _ _ _,h _ _ _,h _ _ _,h _ _ _,h _ _ _,h _ _ _,fun _ _ _ => h _ _ _⟩
 | succ n A => exact ⟨expr_wk E A.lett A.choice A.func A.seq,let_wk E A.expr,choice_wk E A.expr,func_wk E A.expr,seq_wk E A.cmp A.expr,cmp_wk E A.sum,sum_wk E A.prod,prod_wk E A.un,un_wk E A.un A.call,call_wk E A.operand A.pref,operand_wk E A.atom A.expr,atom_wk E A.brk A.pref,brk_wk E A.expr,fun kk c hc => pref_wk E A.operand kk c hc⟩
def Lst (x : Int) (q : Q) : Prop := q.S.err = 0 -> x = (q.ps.length : Int) - 1
def Pm : Md -> Q -> Prop
 | .sumL l,q => Lst l q
 | .prodL l,q => Lst l q
 | .operL l,q => Lst l q
 | .callL [a],q => Lst a q
 | .tupL _ [a],q => Lst a q
 | _,_ => True
theorem lst_add {q : Q} {c : CP} {x : Int} {q' : Q} (h : addR q c = some (x,q')) : Lst x q' := by
 obtain ⟨_,rfl,rfl⟩ := addR_some h
 intro _
 show (q.ps.length : Int) = ((q.ps ++ [c]).length : Int) - 1
 simp
theorem fin_err {L : List Tok} {q : Q} (h : (q.finish L).S.err = 0) : q.S.err = 0 := by
 have h2 : (q.S.want L 24).err = 0 := h
 unfold PF.want at h2
 split at h2
 ·exact h2
 ·have h3 : (if q.S.err = 0 then (4 : Int) else q.S.err) = 0 := h2
  split at h3
  ·assumption
  ·exact h3
theorem fail_err {L : List Tok} {q : Q} : (q.fail L 4).S.err ≠ 0 := by
 intro h
 have h3 : (if q.S.err = 0 then (4 : Int) else q.S.err) = 0 := h
 split at h3
 ·cases h3
 ·rename_i h4;exact h4 h3
theorem call_two {L : List Tok} {N : Int} {rec : Md -> Q -> Rt} {a b : Int} {kt : List Int} {q : Q} {y : Int × Q} (h : pstp L N rec (.callL (a :: b :: kt)) q = some y) (hr : ∀ ks q1 y,2 <= ks.length -> rec (.callL ks) q1 = some y -> Lst y.1 y.2) : Lst y.1 y.2 := by
 by_cases hc : (a :: b :: kt).length <= 4 /\ cOpd (q.kind L) = true
 ·rw [st_callY hc] at h
  obtain ⟨x1,q1,h1,h2,h3⟩ := bnd_some h
  exact hr _ _ _ (by simp) h3
 ·have h2 : (if -1 <= a /\ a <= 100000 then addR q ⟨19,plOf q.ps a,0,0,[],a :: b :: kt⟩ else none) = some y := (if_neg hc).symm.trans h
  split at h2
  ·exact lst_add h2
  ·cases h2
theorem tup_two {L : List Tok} {N : Int} {rec : Md -> Q -> Rt} {t : Tok} {a b : Int} {kt : List Int} {q : Q} {y : Int × Q} (h : pstp L N rec (.tupL t (a :: b :: kt)) q = some y) (hr : ∀ ks q1 y,2 <= ks.length -> rec (.tupL t ks) q1 = some y -> Lst y.1 y.2) : Lst y.1 y.2 := by
 by_cases hc : (a :: b :: kt).length < 6 /\ q.kind L = 25
 ·rw [st_tupY hc] at h
  obtain ⟨x1,q1,h1,h2,h3⟩ := bnd_some h
  exact hr _ _ _ (by simp) h3
 ·have h2 : addR (q.finish L) ⟨7,t.p,0,0,[],a :: b :: kt⟩ = some y := (if_neg hc).symm.trans h
  exact lst_add h2
theorem pm_call {ks : List Int} {q : Q} (h : 2 <= ks.length) : Pm (.callL ks) q := by
 match ks,h with
 | a :: b :: kt,_ => trivial
theorem pm_tup {t : Tok} {ks : List Int} {q : Q} (h : 2 <= ks.length) : Pm (.tupL t ks) q := by
 match ks,h with
 | a :: b :: kt,_ => trivial
theorem pr_last (L : List Tok) (N : Int) : ∀ (n : Nat) (m : Md) (q : Q) (y : Int × Q),pr L N n m q = some y -> Pm m q -> Lst y.1 y.2 := by
 intro n
 induction n with
 | zero => intro m q y h;cases h
 | succ n ih =>
   intro m q y h hp
   obtain ⟨hf,k,hk,hs⟩ := pr_fine h
   cases hk
   obtain ⟨x,q'⟩ := y
   cases m with
   | expr =>
     simp only [pstp] at hs
     split at hs
     ·exact ih _ _ _ hs trivial
     ·split at hs
      ·exact ih _ _ _ hs trivial
      ·split at hs
       ·exact ih _ _ _ hs trivial
       ·exact ih _ _ _ hs trivial
   | lett =>
     simp only [pstp] at hs
     obtain ⟨a,q1,_,_,hs⟩ := bnd_some hs
     obtain ⟨b,q2,_,_,hs⟩ := bnd_some hs
     exact lst_add hs
   | choice =>
     simp only [pstp] at hs
     obtain ⟨a,q1,_,_,hs⟩ := bnd_some hs
     obtain ⟨b,q2,_,_,hs⟩ := bnd_some hs
     obtain ⟨c,q3,_,_,hs⟩ := bnd_some hs
     exact lst_add hs
   | func =>
     simp only [pstp] at hs
     obtain ⟨a,q1,_,_,hs⟩ := bnd_some hs
     exact lst_add hs
   | seq =>
     simp only [pstp] at hs
     obtain ⟨a,q1,h1,_,hs⟩ := bnd_some hs
     split at hs
     ·obtain ⟨_,rfl,rfl⟩ := out_some hs
      exact ih _ _ _ h1 trivial
     ·obtain ⟨b,q2,_,_,hs⟩ := bnd_some hs
      exact lst_add hs
   | cmp =>
     simp only [pstp] at hs
     obtain ⟨a,q1,h1,_,hs⟩ := bnd_some hs
     split at hs
     ·obtain ⟨_,rfl,rfl⟩ := out_some hs
      exact ih _ _ _ h1 trivial
     ·obtain ⟨b,q2,_,_,hs⟩ := bnd_some hs
      exact lst_add hs
   | sum =>
     simp only [pstp] at hs
     obtain ⟨a,q1,h1,_,hs⟩ := bnd_some hs
     exact ih _ _ _ hs (ih _ _ _ h1 trivial)
   | prod =>
     simp only [pstp] at hs
     obtain ⟨a,q1,h1,_,hs⟩ := bnd_some hs
     exact ih _ _ _ hs (ih _ _ _ h1 trivial)
   | operand =>
     simp only [pstp] at hs
     obtain ⟨a,q1,h1,_,hs⟩ := bnd_some hs
     exact ih _ _ _ hs (ih _ _ _ h1 trivial)
   | sumL l =>
     simp only [pstp] at hs
     split at hs
     ·obtain ⟨_,rfl,rfl⟩ := out_some hs
      exact hp
     ·obtain ⟨b,q2,_,_,hs⟩ := bnd_some hs
      obtain ⟨x3,q3,h3,_,hs⟩ := bnd_some hs
      exact ih _ _ _ hs (lst_add h3)
   | prodL l =>
     simp only [pstp] at hs
     split at hs
     ·obtain ⟨_,rfl,rfl⟩ := out_some hs
      exact hp
     ·obtain ⟨b,q2,_,_,hs⟩ := bnd_some hs
      obtain ⟨x3,q3,h3,_,hs⟩ := bnd_some hs
      exact ih _ _ _ hs (lst_add h3)
   | operL l =>
     simp only [pstp] at hs
     split at hs
     ·obtain ⟨_,rfl,rfl⟩ := out_some hs
      exact hp
     ·obtain ⟨b,q2,_,_,hs⟩ := bnd_some hs
      obtain ⟨x3,q3,h3,_,hs⟩ := bnd_some hs
      exact ih _ _ _ hs (lst_add h3)
   | un =>
     simp only [pstp] at hs
     split at hs
     ·obtain ⟨b,q2,_,_,hs⟩ := bnd_some hs
      exact lst_add hs
     ·split at hs
      ·obtain ⟨b,q2,_,_,hs⟩ := bnd_some hs
       exact lst_add hs
      ·exact ih _ _ _ hs trivial
   | call =>
     simp only [pstp] at hs
     split at hs
     ·exact ih _ _ _ hs trivial
     ·split at hs
      ·exact ih _ _ _ hs trivial
      ·split at hs
       ·exact ih _ _ _ hs trivial
       ·split at hs
        ·exact ih _ _ _ hs trivial
        ·obtain ⟨a,q1,h1,_,hs⟩ := bnd_some hs
         exact ih _ _ _ hs (ih _ _ _ h1 trivial)
   | callL ks =>
     match ks,hs,hp with
     | [],hs,hp =>
       by_cases hc : ([] : List Int).length <= 4 /\ cOpd (q.kind L) = true
       ·rw [st_callY hc] at hs
        obtain ⟨x1,q1,h1,h2,h3⟩ := bnd_some hs
        exact ih _ _ _ h3 (ih _ _ _ h1 trivial)
       ·have h2 : (none : Rt) = some (x,q') := (if_neg hc).symm.trans hs
        cases h2
     | [a],hs,hp =>
       by_cases hc : [a].length <= 4 /\ cOpd (q.kind L) = true
       ·rw [st_callY hc] at hs
        obtain ⟨x1,q1,h1,h2,h3⟩ := bnd_some hs
        exact ih _ _ _ h3 (pm_call (by simp))
       ·rw [st_call1 hc] at hs
        obtain ⟨_,rfl,rfl⟩ := out_some hs
        exact hp
     | a :: b :: kt,hs,hp => exact call_two hs (fun ks q1 y hl hy => ih _ _ _ hy (pm_call hl))
   | pref k c =>
     simp only [pstp] at hs
     exact ih _ _ _ hs trivial
   | prefL k c t ks =>
     simp only [pstp] at hs
     split at hs
     ·obtain ⟨b,q2,_,_,hs⟩ := bnd_some hs
      exact ih _ _ _ hs trivial
     ·exact lst_add hs
   | atom =>
     simp only [pstp] at hs
     repeat' split at hs
     ·exact lst_add hs
     ·exact lst_add hs
     ·exact ih _ _ _ hs trivial
     ·exact ih _ _ _ hs trivial
     ·exact ih _ _ _ hs trivial
     ·exact ih _ _ _ hs trivial
     ·obtain ⟨_,rfl,rfl⟩ := out_some hs
      exact fun h => absurd h fail_err
   | brk =>
     simp only [pstp] at hs
     split at hs
     ·exact lst_add hs
     ·obtain ⟨a,q1,h1,_,hs⟩ := bnd_some hs
      exact ih _ _ _ hs (ih _ _ _ h1 trivial)
   | tupL t ks =>
     match ks,hs,hp with
     | [],hs,hp =>
       by_cases hc : ([] : List Int).length < 6 /\ q.kind L = 25
       ·rw [st_tupY hc] at hs
        obtain ⟨x1,q1,h1,h2,h3⟩ := bnd_some hs
        exact ih _ _ _ h3 (ih _ _ _ h1 trivial)
       ·have h2 : addR (q.finish L) ⟨7,t.p,0,0,[],[]⟩ = some (x,q') := (if_neg hc).symm.trans hs
        exact lst_add h2
     | [a],hs,hp =>
       by_cases hc : [a].length < 6 /\ q.kind L = 25
       ·rw [st_tupY hc] at hs
        obtain ⟨x1,q1,h1,h2,h3⟩ := bnd_some hs
        exact ih _ _ _ h3 (pm_tup (by simp))
       ·rw [st_tup1 hc] at hs
        obtain ⟨_,rfl,rfl⟩ := out_some hs
        exact fun h => hp (fin_err h)
     | a :: b :: kt,hs,hp => exact tup_two hs (fun ks q1 y hl hy => ih _ _ _ hy (pm_tup hl))
def q0 : Q := ⟨⟨0,0,.slice none 0 0,0,0⟩,[]⟩
theorem want0_take {L : List Tok} {q : Q} (h : q.kind L = 0) : q.want L 0 = q.take := by
 unfold Q.kind at h
 unfold Q.want Q.take PF.want
 rw [if_pos h]
theorem par_res {L : List Tok} {res : Sl.Res V} (hL : L.length <= 402) (hE : Sl.Ends L) (hJ : Jb 12 .expr L 0 res) : ∃ n x q',pr L 12 n .expr q0 = some (x,q') /\ q'.fine /\
 (∀ e p,res = .bad e p -> e ≠ 0 /\ (q'.want L 0).S.err = (e : Int) /\ (q'.want L 0).S.at' = (p : Int)) /\
 (∀ v t r o',res = .ok v (t :: r) o' -> Sl.Ends (t :: r) -> t.k ≠ 0 -> (q'.want L 0).S.err = 4 /\ (q'.want L 0).S.at' = (t.p : Int)) /\
 (∀ v t r o',res = .ok v (t :: r) o' -> Sl.Ends (t :: r) -> t.k = 0 -> (q'.want L 0).S.err = 0 /\ 0 < q'.ps.length /\ ∃ c,v = .tr c /\ Rep q'.ps ((q'.ps.length : Int) - 1) c /\ c.k ≠ 25) := by
 have hS : Sim L q0 0 (.ok L 0) := ⟨rfl,by omega,by omega,rfl,rfl,rfl,hE,by omega⟩
 have hP : q0.ps.length + (Sg.ok L 0).pot + 5000 * (Sg.ok L 0).g <= 85000 := by
  show 0 + 100 * L.length + 5000 * 1 <= _
  omega
 have key : ∀ s' v,Jx .expr (.ok L 0) s' v -> Does L q0 .expr (.ok L 0) s' v 0 0 20 40 0 := fun s' v hx => (al_all (by omega) (100 * L.length + 100)).tr .expr rfl hx hS hP (by show 100 * L.length + 20 < _;omega)
 have fin : ∀ {q' : Q} {s' : Sg} {v : V} {x : Int},Got L q0 q' x 0 (.ok L 0) s' v 20 40 0 -> q'.fine := fun {q' s' v x} g => by
  have hb := g.bnd
  have h1 : (Sg.ok L 0).pot = 100 * L.length := rfl
  have h2 : (Sg.ok L 0).g = 1 := rfl
  have h3 : q0.ps.length = 0 := rfl
  exact g.sim.fine (by omega) (by omega)
 cases res with
 | bad e p =>
   obtain ⟨n,x,q',hp,g⟩ := key (.bad e p) (.nm []) (.inr ⟨e,p,hJ,rfl⟩)
   have hk := g.sim.kind0
   refine ⟨n,x,q',hp,fin g,fun e' p' h => ?_,fun _ _ _ _ h => (by cases h),fun _ _ _ _ h => (by cases h)⟩
   cases h
   rw [want0_take hk]
   exact ⟨g.sim.st.2.1,g.sim.st.1,g.sim.st.2.2.1⟩
 | ok v l' o' =>
   obtain ⟨n,x,q',hp,g⟩ := key (.ok l' o') v (.inl ⟨l',o',hJ,rfl⟩)
   refine ⟨n,x,q',hp,fin g,fun e' p' h => (by cases h),fun v2 t r o2 h hE2 hk => ?_,fun v2 t r o2 h hE2 hk => ?_⟩
   ·cases h
    have hw := g.sim.word
    unfold Q.word at hw
    have he : q'.want L 0 = ⟨(q'.S.fail L 4).take,q'.ps⟩ := by
     unfold Q.want PF.want
     rw [hw,if_neg hk]
    rw [he]
    have h5 := (g.sim.failT 4 (by omega)).failN
    exact ⟨h5.st.1,h5.st.2.2.1⟩
   ·cases h
    have hk2 := g.sim.kind
    rw [hk] at hk2
    rw [want0_take hk2]
    obtain ⟨c,hv,hr,hc⟩ := g.rep rfl
    have hl := pr_last L 12 n .expr q0 _ hp trivial g.sim.st.2.1
    have hl : x = (q'.ps.length : Int) - 1 := hl
    have hlt := hr.lt hc
    rw [hl] at hr hlt
    exact ⟨g.sim.st.2.1,by omega,c,hv,hr,hc⟩
theorem flat4_at : ∀ (l : List Tok) (i j : Nat) (h : i < l.length),j < 4 -> (l.flatMap Tok.cells)[i * 4 + j]? = (Tok.cells l[i])[j]?
 | t :: r,0,j,h,hj => by
   rw [List.flatMap_cons,List.getElem?_append_left (by simp [Tok.cells];omega)]
   simp
 | t :: r,i + 1,j,h,hj => by
   rw [List.flatMap_cons,List.getElem?_append_right (by simp [Tok.cells];omega)]
   have := flat4_at r i j (by simpa using h) hj
   rw [show (i + 1) * 4 + j - (Tok.cells t).length = i * 4 + j by simp [Tok.cells];omega,this]
   simp
theorem cw_of {w : World} {b B cap : Nat} {L : List Tok} (h : w.ownsRow B 294 4 (.slice (some ⟨b,0,none⟩) L.length cap) L.length (L.flatMap Tok.cells)) : CW w b L := fun i hi => by
 have g : ∀ j,j < 4 -> w.cell? ⟨b,i * 4 + j,none⟩ = (Tok.cells L[i])[j]? := fun j hj => by
  rw [h.cellAt (i * 4 + j) (by omega)]
  exact flat4_at L i j hi hj
 exact ⟨g 0 (by omega),g 1 (by omega),g 2 (by omega),g 3 (by omega)⟩
theorem parse_ret {W : World} {tmps : Array Value} {r : Nat} {x0 e a : Value} {Q : Ending -> World -> Prop} (ht : tmps.getD 4 undef = .pointer (some ⟨r,0,none⟩)) (h5 : tmps.getD 5 undef = e) (h6 : tmps.getD 6 undef = a) (hb : W.heap[r]? = some (.cells #[x0] 105 (0,0))) (hq : Q (.returned (.tuple #[.agg #[x0],e,a])) W) :
 bodyPost Tryz.prog Tryz.f104 Q Exit.ret { tmps := tmps,defers := [] } W := by
 have c0 := blk_at hb 0 rfl
 simp only [List.getElem_toArray,List.getElem_cons_zero,List.getElem_cons_succ] at c0
 have ht' : tmps[4]?.getD undef = .pointer (some ⟨r,0,none⟩) := by simpa using ht
 have h5' : tmps[5]?.getD undef = e := by simpa using h5
 have h6' : tmps[6]?.getD undef = a := by simpa using h6
 exact bodyPost_ret (v := .tuple #[.agg #[x0],e,a]) (by simp [results,Tryz.results104,go_sem,ht',h5',h6',c0]) rfl hq
def PPost (w : World) (E A : Int) (q' : Q) (e : Ending) (w' : World) : Prop := ∃ pv,(E ≠ 0 -> e = .returned (.tuple #[.agg #[.slice none 0 0],.int .i64 E,.int .i64 A])) /\ (E = 0 -> e = .returned (.tuple #[.agg #[pv],.int .i64 0,.int .i64 0]) /\ ∃ vs,PsAt w' (w.heap.size + 2) pv q'.ps vs) /\ Below w.heap.size w w'
set_option maxRecDepth 100000 in
theorem parse_w {w : World} {lb cap n : Nat} {L : List Tok} {x : Int} {q' : Q} (hL : L.length <= 402) (hcap : L.length <= cap) (hlb : lb < w.heap.size) (hcw : CW w lb L) (hp : pr L 12 n .expr q0 = some (x,q')) (hq : q'.fine) {E A : Int} (hE : (q'.want L 0).S.err = E) (hA : (q'.want L 0).S.at' = A) :
 Calls Tryz.prog 104 #[.slice (some ⟨lb,0,none⟩) L.length cap,.int .i64 12] w fun e w' => PPost w E A q' e w' := by
 have PEE : PE (w.heap.size + 1) lb cap (w.heap.size + 2) L := ⟨by omega,by omega,hcap,by omega⟩
 have HPE : Hid (PE (w.heap.size + 1) lb cap (w.heap.size + 2) L) := PEE
 have hB : ∀ o1 o2 : Obj,Below w.heap.size w ((w.alloc o1).alloc o2) := fun o1 o2 => ((Below.refl _ _).alloc (Nat.le_refl _) _).alloc (by rw [World.size_alloc];omega) _
 have HPM : Hid (∀ o1,PM ((w.alloc o1).alloc (pfB lb L.length cap 12 (q0.S.row (.slice none 0 0)))) (w.heap.size + 1) lb cap (w.heap.size + 2) 12 L q0 (.slice none 0 0) (fun _ => False)) := fun o1 => by
  refine ⟨?_,⟨[],⟨World.ownsRow_nil _ _ _ _,rfl,fun i h => absurd h (by simp [q0])⟩,fun _ h => h.elim⟩,hcw.below (hB _ _) hlb,by rw [World.size_alloc,World.size_alloc];omega,fun _ h => h.elim⟩
  exact blk_newB (by rw [World.size_alloc])
 have HW : Hid (WkM (w.heap.size + 1) lb cap (w.heap.size + 2) 12 L n 176 .expr) := (aw_all PEE n).expr
 have HPR : Hid (pr L 12 n .expr q0 = some (x,q')) := hp
 have HE : Hid ((q'.want L 0).S.err = E) := hE
 have HA : Hid ((q'.want L 0).S.at' = A) := hA
 have FQ : q'.S.next <= 900000 := by have := hq.1;omega
 have HBB : Hid (∀ o1 o2 : Obj,Below w.heap.size w ((w.alloc o1).alloc o2)) := hB
 clear hp hE hA hcw PEE hB
 go_enter Tryz.func104,Tryz.ntmps104
 go_upto_region 4 with (first
  | (go_at_call 176;refine (HW.out.go HPR.out (HPM.out _)).mono ?_;rintro _ w2 ⟨rfl,pv2,hm2,hf2⟩;obtain ⟨bx2,hr2⟩ := hf2.loc (al_old (blk_new w _)) (by omega) (fun h => by cases h))
  | (go_at_call 177;refine (wantM' (k := 0) FQ HPE.out hm2).mono ?_;rintro _ w3 ⟨⟨y0,y1,y2,y3,rfl⟩,hm3,hf3⟩;obtain ⟨bx3,hr3⟩ := hf3.loc bx2 (by omega) hr2))
 have hbl : Below w.heap.size w w3 := (HBB.out _ _).trans ((hf2.below.trans hf3.below).mono (show w.heap.size <= w.heap.size + 1 by omega))
 have c5 : w3.cell? ⟨w.heap.size + 1,5,none⟩ = some (.int .i64 E) := by rw [<- HE.out];exact blk_at hm3.blk 5 rfl
 have c6 : w3.cell? ⟨w.heap.size + 1,6,none⟩ = some (.int .i64 A) := by rw [<- HA.out];exact blk_at hm3.blk 6 rfl
 have c4 : w3.cell? ⟨w.heap.size + 1,4,none⟩ = some pv2 := blk_at hm3.blk 4 rfl
 have d0 := blk_at bx3 0 rfl
 have d0f := blk_at_f bx3 0
 have hs3 := hbl.size
 obtain ⟨vs,hps,_⟩ := hm3.ps
 have HPS : Hid (PsAt w3 (w.heap.size + 2) pv2 q'.ps vs) := hps
 obtain ⟨av,cv,hav⟩ := own_slice hps.own
 have HBL : Hid (Below w.heap.size w w3) := hbl
 have HBX : Hid (w3.heap[w.heap.size]? = some (.cells #[.slice none 0 0] 105 (0,0))) := bx3
 clear hm2 hm3 hf2 hf3 bx2 bx3 hr2 hr3 hbl hps HPM HW HPR HE HA
 by_cases h0 : E = 0
 ·subst h0
  rw [hav] at c4 HPS
  go_wp2_with fail
  refine parse_ret rfl rfl rfl (block_setCell HBX.out 0 (.slice av q'.ps.length cv)) ⟨.slice av q'.ps.length cv,fun h => absurd rfl h,fun _ => ⟨rfl,vs,?_⟩,?_⟩
  ·have hh : ∀ b,b ≠ w.heap.size -> (w3.setCell ⟨w.heap.size,0,none⟩ (.slice av q'.ps.length cv)).heap[b]? = w3.heap[b]? := fun b hb => Below.heap_setCell _ _ _ _ hb
   refine ⟨own_block_keep HPS.out.own fun b hb => hh b (by have := (HPS.out.own.lt b hb).1;omega),HPS.out.len,fun i h1 h2 => ?_⟩
   have hr := HPS.out.rows i h1 h2
   exact ⟨own_block_keep hr.names fun b hb => hh b (by have := (hr.names.lt b hb).1;omega),own_block_keep hr.kids fun b hb => hh b (by have := (hr.kids.lt b hb).1;omega),hr.n1,hr.n2⟩
  ·exact HBL.out.setCell (p := ⟨w.heap.size,0,none⟩) (Nat.le_refl _) _
 ·have hEb : (E == 0) = false := by simpa using h0
  have hEn : (E != 0) = true := by simpa using h0
  go_upto_region 5 with fail
  go_region
  go_wp2_with fail
  refine parse_ret rfl rfl rfl (block_setCell HBX.out 0 (.slice none 0 0)) ⟨.slice none 0 0,fun _ => rfl,fun h => absurd h h0,?_⟩
  exact (HBL.out.setCell (p := ⟨w.heap.size,0,none⟩) (Nat.le_refl _) _).drew
theorem lw_hd {x : ByteArray} (h : LW x) : hdL x = true /\ lsL x = true := by
 rw [hd_cons h.pos,ls_last h.pos]
 exact ⟨h.let 0 h.pos,h.let _ _⟩
theorem sg_hd {x : ByteArray} {k : Nat} (h : SG x k) : hdL x = false /\ lsL x = false := by
 have hp := h.ch.2
 rw [hd_cons hp,ls_last hp]
 exact ⟨(h.get 0 hp).1,(h.get _ _).1⟩
theorem tw_hd {t : Tk} (h : TW t) : hdL (wt t) = decide (t.k < 18) /\ lsL (wt t) = decide (t.k < 18) /\ 0 < (wt t).size := by
 by_cases h18 : t.k < 18
 ·have := lw_hd (h.lw h18)
  simp [h18,this,(h.lw h18).pos]
 ·have := sg_hd (h.sg (by omega))
  simp [h18,this,(h.sg (by omega : 18 <= t.k)).ch.2]
theorem ls_app {x y : ByteArray} (h : 0 < y.size) : lsL (x ++ y) = lsL y := by
 unfold lsL
 rw [D_app,List.getLast?_append]
 have : ∃ c,(D y).getLast? = some c := by
  cases hy : D y with
  | nil => have := D_nil.1 hy;omega
  | cons a r => exact ⟨_,List.getLast?_cons⟩
 obtain ⟨c,hc⟩ := this
 rw [hc];rfl
theorem WrL_kj : ∀ (l : List Tk) (p : Nat) (o : ByteArray),(∀ t ∈ l,TW t) -> lsL o = decide (p < 18) -> WrL o l = kj p o l
 | [],p,o,_,_ => rfl
 | t :: r,p,o,ht,hp => by
   obtain ⟨h1,h2,h3⟩ := tw_hd (ht t (by simp))
   have hne : ¬ D (wt t) = [] := fun h => by have := D_nil.1 h;omega
   have hw : wr1 o (wt t) = (if p < 18 /\ t.k < 18 then o ++ ⟨#[32]⟩ else o) ++ wt t := by
    unfold wr1
    rw [if_neg hne,hp,h1]
    congr 1
    by_cases ha : p < 18 <;> by_cases hb : t.k < 18 <;> simp [ha,hb,blank]
   rw [WrL_cons,kj,hw]
   exact WrL_kj r t.k _ (fun u hu => ht u (by simp [hu])) (by rw [ls_app h3,h2])
theorem WrL_tot : ∀ (l : List Tk) (o : ByteArray),(WrL o l).size <= o.size + tot' l + l.length
 | [],o => by simp [WrL,tot']
 | t :: r,o => by
   have := WrL_tot r (wr1 o (wt t))
   have h2 := (wr1_size o (wt t)).2
   rw [WrL_cons,tot',List.length_cons]
   omega
theorem fl_ne' {c : T} (h : fine c) : fl c ≠ [] := fun h0 => by
 have := lv_pos _ c (Nat.le_refl _) h
 unfold lv at this
 rw [h0] at this
 simp [lf] at this
set_option maxRecDepth 100000 in
theorem shText_w {w : World} {base : Nat} {pv : Value} {ps : List CP} {vs : List (Value × Value)} {c : T} {R : ByteArray} (hps : PsAt w base pv ps vs) (hlen : ps.length <= 90000) (hpos : 0 < ps.length) (hR : Rep ps ((ps.length : Int) - 1) c) (hf : fine c) (hp : pats c) (h25 : c.k ≠ 25) (hok : ∀ t ∈ fl (mi 0 c),okW t) (hRR : WrL ⟨#[]⟩ (fl (mi 0 c)) = R) (hR0 : 0 < R.size) (hRs : R.size <= 100000000)
 (hT : TX w) (hg : 2 < w.heap.size) (htab : ∀ w',Below w.heap.size w w' -> Lib.TabIs Tryz.prog w' "internal/strconv.uint64pow10" .u64 Lib.pow10Tab) :
 Calls Tryz.prog 66 #[.agg #[pv]] w fun e w' => e = .returned (.string R) /\ Below w.heap.size w w' := by
 have hal : ∀ o,Below w.heap.size w (w.alloc o) := fun o => (Below.refl _ _).alloc (Nat.le_refl _) _
 have HE : Hid (∀ o,WE (w.alloc o) (w.heap.size + 1) base pv ps vs) := fun o => ⟨hps.below (hal o),by rw [World.size_alloc];omega,hT.below (hal o) hg,by rw [World.size_alloc];omega,fun w' hb => htab w' ((hal o).trans (hb.mono (by rw [World.size_alloc];omega))),hlen⟩
 have HP : Hid (∀ o,PaW (w.alloc o) (w.heap.size + 1) pv (ps.length - 1) 0 ⟨#[]⟩ R) := fun o => by
  have := write_tree (HE.out o) _ c (Nat.le_refl _) hf hp h25 (ps.length - 1) (by rw [show ((ps.length - 1 : Nat) : Int) = (ps.length : Int) - 1 by omega];exact hR) 0 (by omega) ⟨#[]⟩ hok (by rw [hRR];exact hRs)
  rw [hRR] at this
  exact this
 obtain ⟨av,cv,hav⟩ := own_slice hps.own
 have HM : Hid (∀ o,WM (w.alloc o) ((w.alloc o).alloc (.cells #[pv,.slice none 0 0] 189)) (w.heap.size + 1) pv (.slice none 0 0) ⟨#[]⟩) := fun o => by
  refine ⟨blk_newB (by rw [World.size_alloc]),World.ownsRow_nil _ _ _ _,?_⟩
  have := (Below.refl (w.alloc o).heap.size (w.alloc o)).alloc (Nat.le_refl _) (.cells #[pv,.slice none 0 0] 189)
  rw [World.size_alloc] at this
  exact this
 have HAL : Hid (∀ o,Below w.heap.size w (w.alloc o)) := hal
 obtain ⟨n,hn⟩ : ∃ n,ps.length = n := ⟨_,rfl⟩
 rw [hn] at hav HP hpos hlen
 subst hav
 clear hps hR hf hp h25 hok hRR hT hg htab hal HE hn
 go_enter Tryz.func66,Tryz.ntmps66
 go_wp2_with (first
  | (go_at_call 106;refine (root_any hpos (by omega) _).mono ?_;rintro _ w1 ⟨rfl,hb1⟩;have hm1 := (HM.out _).below hb1)
  | (go_at_call 105;refine ((HP.out _).go hm1).mono ?_;rintro _ w2 ⟨⟨u2,rfl⟩,ov2,hm2,hf2⟩;obtain ⟨g2,k2,e2,-⟩ := own_shapeP hm2.own hR0;subst e2;have c1 := blk_at hm2.blk 1 rfl;have HCE : Hid (∀ j (hj : j < (D R).length),w2.cell? ((⟨g2,0,none⟩ : Addr).add j) = some (.int .u8 ((D R)[j].toNat : Int))) := fun j hj => hm2.own.cells (g := g2) rfl j _ (by unfold Lib.strCells;rw [List.getElem?_map,List.getElem?_eq_getElem hj];rfl))
  | (refine wpList_string_of _ rfl (.tmp 14) 182 9 5 rfl (D R) _ _ _ rfl (D_len R) Tryz.undB Tryz.underlying5 Tryz.underlying9 HCE.out ?_))
 go_ret
 refine ⟨rfl,?_⟩
 exact (HAL.out _).trans (hm2.bel.mono (by omega))
theorem treeOf_ret {W : World} {tmps : Array Value} {r : Nat} {x0 e a : Value} {Q : Ending -> World -> Prop} (ht : tmps.getD 2 undef = .pointer (some ⟨r,0,none⟩)) (h5 : tmps.getD 3 undef = e) (h6 : tmps.getD 4 undef = a) (hb : W.heap[r]? = some (.cells #[x0] 105 (0,0))) (hq : Q (.returned (.tuple #[.agg #[x0],e,a])) W) :
 bodyPost Tryz.prog Tryz.f65 Q Exit.ret { tmps := tmps,defers := [] } W := by
 have c0 := blk_at hb 0 rfl
 simp only [List.getElem_toArray,List.getElem_cons_zero,List.getElem_cons_succ] at c0
 have ht' : tmps[2]?.getD undef = .pointer (some ⟨r,0,none⟩) := by simpa using ht
 have h5' : tmps[3]?.getD undef = e := by simpa using h5
 have h6' : tmps[4]?.getD undef = a := by simpa using h6
 exact bodyPost_ret (v := .tuple #[.agg #[x0],e,a]) (by simp [results,Tryz.results65,go_sem,ht',h5',h6',c0]) rfl hq
def EPost (w : World) (E A : Int) (e : Ending) (w' : World) : Prop := e = .returned (.tuple #[.agg #[.slice none 0 0],.int .i64 E,.int .i64 A]) /\ Below w.heap.size w w'
def TPost (w : World) (ps : List CP) (e : Ending) (w' : World) : Prop := ∃ a c,e = .returned (.tuple #[.agg #[.slice a ps.length c],.int .i64 0,.int .i64 0]) /\ (∃ base vs,PsAt w' base (.slice a ps.length c) ps vs) /\ Below w.heap.size w w'
set_option maxRecDepth 100000 in
theorem treeOf_lex {s : ByteArray} {w : World} {E A : Int} (hE : E ≠ 0) (hC : ∀ W,Below w.heap.size w W -> Calls Tryz.prog 103 #[.string s] W fun e w' => e = .returned (.tuple #[.slice none 0 0,.int .i64 E,.int .i64 A]) /\ Below W.heap.size W w') :
 Calls Tryz.prog 65 #[.string s] w fun e w' => EPost w E A e w' := by
 have hEb : (E == 0) = false := by simpa using hE
 have hEn : (E != 0) = true := by simpa using hE
 have HC : Hid (∀ W,Below w.heap.size w W -> Calls Tryz.prog 103 #[.string s] W fun e w' => e = .returned (.tuple #[.slice none 0 0,.int .i64 E,.int .i64 A]) /\ Below W.heap.size W w') := hC
 have HAL : Hid (∀ o,Below w.heap.size w (w.alloc o)) := fun o => (Below.refl _ _).alloc (Nat.le_refl _) _
 clear hC hE
 go_enter Tryz.func65,Tryz.ntmps65
 go_wp2_with (go_at_call 103;refine (HC.out _ (HAL.out _)).mono ?_;rintro _ w1 ⟨rfl,hb1⟩;have bx := blk_below (blk_new w _) hb1 (by rw [World.size_alloc];omega);have d0 := blk_at bx 0 rfl;have d0f := blk_at_f bx 0)
 refine treeOf_ret rfl rfl rfl (block_setCell bx 0 (.slice none 0 0)) ⟨rfl,?_⟩
 exact ((HAL.out _).trans (hb1.mono (by rw [World.size_alloc];omega))).setCell (p := ⟨w.heap.size,0,none⟩) (Nat.le_refl _) _
def SpC (s : ByteArray) (L : List Tok) (w : World) : Prop := ∀ W,Below w.heap.size w W -> Calls Tryz.prog 103 #[.string s] W fun e w' => ∃ lb cap,e = .returned (.tuple #[.slice (some ⟨lb,0,none⟩) L.length cap,.int .i64 0,.int .i64 0]) /\ L.length <= cap /\ lb < w'.heap.size /\ CW w' lb L /\ Below W.heap.size W w'
set_option maxRecDepth 100000 in
theorem treeOf_bad {s : ByteArray} {w : World} {L : List Tok} {n : Nat} {x : Int} {q' : Q} {E A : Int} (hL : L.length <= 402) (hC : SpC s L w) (hp : pr L 12 n .expr q0 = some (x,q')) (hq : q'.fine) (hE : (q'.want L 0).S.err = E) (hA : (q'.want L 0).S.at' = A) (h0 : E ≠ 0) :
 Calls Tryz.prog 65 #[.string s] w fun e w' => EPost w E A e w' := by
 have HC : Hid (SpC s L w) := hC
 have HAL : Hid (∀ o,Below w.heap.size w (w.alloc o)) := fun o => (Below.refl _ _).alloc (Nat.le_refl _) _
 have HPA : Hid (∀ (W : World) (lb cap : Nat),L.length <= cap -> lb < W.heap.size -> CW W lb L -> Calls Tryz.prog 104 #[.slice (some ⟨lb,0,none⟩) L.length cap,.int .i64 12] W fun e w' => e = .returned (.tuple #[.agg #[.slice none 0 0],.int .i64 E,.int .i64 A]) /\ Below W.heap.size W w') := fun W lb cap h1 h2 h3 => by
  refine (parse_w hL h1 h2 h3 hp hq hE hA).mono ?_
  rintro e w' ⟨pv,h4,_,h5⟩
  exact ⟨h4 h0,h5⟩
 clear hC hp hE hA hq h0
 go_enter Tryz.func65,Tryz.ntmps65
 go_wp2_with (first
  | (go_at_call 103;refine (HC.out _ (HAL.out _)).mono ?_;rintro _ w1 ⟨lb,cap,rfl,hcap,hlb,hcw,hb1⟩;have bx := blk_below (blk_new w _) hb1 (by rw [World.size_alloc];omega))
  | (go_at_call 104;refine (HPA.out w1 lb cap hcap hlb hcw).mono ?_;rintro _ w2 ⟨rfl,hb2⟩;have bx2 := blk_below bx hb2 (lt_of_block bx);have d0 := blk_at bx2 0 rfl;have d0f := blk_at_f bx2 0;clear bx))
 have hs1 := hb1.size
 rw [World.size_alloc] at hs1
 refine treeOf_ret rfl rfl rfl (block_setCell bx2 0 (.slice none 0 0)) ⟨rfl,?_⟩
 exact (((HAL.out _).trans (hb1.mono (by rw [World.size_alloc];omega))).trans (hb2.mono (by omega))).setCell (p := ⟨w.heap.size,0,none⟩) (Nat.le_refl _) _
set_option maxRecDepth 100000 in
theorem treeOf_ok {s : ByteArray} {w : World} {L : List Tok} {n : Nat} {x : Int} {q' : Q} (hL : L.length <= 402) (hC : SpC s L w) (hp : pr L 12 n .expr q0 = some (x,q')) (hq : q'.fine) (hE : (q'.want L 0).S.err = 0) :
 Calls Tryz.prog 65 #[.string s] w fun e w' => TPost w q'.ps e w' := by
 have HC : Hid (SpC s L w) := hC
 have HAL : Hid (∀ o,Below w.heap.size w (w.alloc o)) := fun o => (Below.refl _ _).alloc (Nat.le_refl _) _
 have HPA : Hid (∀ (W : World) (lb cap : Nat),L.length <= cap -> lb < W.heap.size -> CW W lb L -> Calls Tryz.prog 104 #[.slice (some ⟨lb,0,none⟩) L.length cap,.int .i64 12] W fun e w' => ∃ a c,e = .returned (.tuple #[.agg #[.slice a q'.ps.length c],.int .i64 0,.int .i64 0]) /\ (∃ vs,PsAt w' (W.heap.size + 2) (.slice a q'.ps.length c) q'.ps vs) /\ Below W.heap.size W w') := fun W lb cap h1 h2 h3 => by
  refine (parse_w hL h1 h2 h3 hp hq hE rfl).mono ?_
  rintro e w' ⟨pv,_,h4,h5⟩
  obtain ⟨h6,vs,h7⟩ := h4 rfl
  obtain ⟨a,c,rfl⟩ := own_slice h7.own
  exact ⟨a,c,h6,⟨vs,h7⟩,h5⟩
 obtain ⟨m,hm⟩ : ∃ m,q'.ps.length = m := ⟨_,rfl⟩
 have HM : Hid (q'.ps.length = m) := hm
 rw [hm] at HPA
 clear hC hp hE hq hm
 go_enter Tryz.func65,Tryz.ntmps65
 go_wp2_with (first
  | (go_at_call 103;refine (HC.out _ (HAL.out _)).mono ?_;rintro _ w1 ⟨lb,cap,rfl,hcap,hlb,hcw,hb1⟩;have bx := blk_below (blk_new w _) hb1 (by rw [World.size_alloc];omega))
  | (go_at_call 104;refine (HPA.out w1 lb cap hcap hlb hcw).mono ?_;rintro _ w2 ⟨a,c,rfl,⟨vs,hps⟩,hb2⟩;have bx2 := blk_below bx hb2 (lt_of_block bx);have d0 := blk_at bx2 0 rfl;have d0f := blk_at_f bx2 0))
 have hs1 := hb1.size
 rw [World.size_alloc] at hs1
 refine treeOf_ret rfl rfl rfl (block_setCell bx2 0 (.slice a m c)) ⟨a,c,by rw [HM.out];rfl,⟨w1.heap.size + 2,vs,?_⟩,?_⟩
 ·rw [HM.out]
  have hh : ∀ b,b ≠ w.heap.size -> (w2.setCell ⟨w.heap.size,0,none⟩ (.slice a m c)).heap[b]? = w2.heap[b]? := fun b hb => Below.heap_setCell _ _ _ _ hb
  refine ⟨own_block_keep hps.own fun b hb => hh b (by have := (hps.own.lt b hb).1;omega),hps.len,fun i h1 h2 => ?_⟩
  have hr := hps.rows i h1 h2
  exact ⟨own_block_keep hr.names fun b hb => hh b (by have := (hr.names.lt b hb).1;omega),own_block_keep hr.kids fun b hb => hh b (by have := (hr.kids.lt b hb).1;omega),hr.n1,hr.n2⟩
 ·exact (((HAL.out _).trans (hb1.mono (by rw [World.size_alloc];omega))).trans (hb2.mono (by omega))).setCell (p := ⟨w.heap.size,0,none⟩) (Nat.le_refl _) _
def SPost (w : World) (R : ByteArray) (E A : Int) (e : Ending) (w' : World) : Prop := e = .returned (.tuple #[.string R,.int .i64 E,.int .i64 A]) /\ Below w.heap.size w w'
set_option maxRecDepth 100000 in
theorem show_bad {s : ByteArray} {w : World} {E A : Int} {v : Value} (h0 : E ≠ 0) (hT : ∀ W,Below w.heap.size w W -> Calls Tryz.prog 65 #[.string s] W fun e w' => EPost W E A e w') :
 Calls Tryz.prog 28 #[v,.string s] w fun e w' => SPost w ⟨#[]⟩ E A e w' := by
 have hEb : (E == 0) = false := by simpa using h0
 have hEn : (E != 0) = true := by simpa using h0
 have HT : Hid (∀ W,Below w.heap.size w W -> Calls Tryz.prog 65 #[.string s] W fun e w' => EPost W E A e w') := hT
 clear hT h0
 go_enter Tryz.func28,Tryz.ntmps28
 go_wp2_with (go_at_call 65;refine (HT.out w (Below.refl _ _)).mono ?_;rintro _ w1 ⟨rfl,hb1⟩)
 go_ret3
 exact ⟨rfl,hb1.alloc hb1.size _⟩
set_option maxRecDepth 100000 in
theorem show_ok {s R : ByteArray} {w : World} {ps : List CP} {v : Value} (hT : Calls Tryz.prog 65 #[.string s] w fun e w' => TPost w ps e w') (hX : ∀ (W : World) (pv : Value),Below w.heap.size w W -> (∃ base vs,PsAt W base pv ps vs) -> Calls Tryz.prog 66 #[.agg #[pv]] W fun e w' => e = .returned (.string R) /\ Below W.heap.size W w') :
 Calls Tryz.prog 28 #[v,.string s] w fun e w' => SPost w R 0 0 e w' := by
 have HT : Hid (Calls Tryz.prog 65 #[.string s] w fun e w' => TPost w ps e w') := hT
 have HX : Hid (∀ (W : World) (pv : Value),Below w.heap.size w W -> (∃ base vs,PsAt W base pv ps vs) -> Calls Tryz.prog 66 #[.agg #[pv]] W fun e w' => e = .returned (.string R) /\ Below W.heap.size W w') := hX
 clear hT hX
 go_enter Tryz.func28,Tryz.ntmps28
 go_wp2_with (first
  | (go_at_call 65;refine HT.out.mono ?_;rintro _ w1 ⟨a,c,rfl,⟨base,vs,hps⟩,hb1⟩;have hb2 := fun o => hb1.alloc hb1.size o)
  | (go_at_call 66;refine (HX.out _ _ (hb2 _) ⟨base,vs,hps.below ((Below.refl _ _).alloc (Nat.le_refl _) _)⟩).mono ?_;rintro _ w2 ⟨rfl,hb3⟩))
 go_ret3
 exact ⟨rfl,(hb2 _).trans (hb3.mono (by have := hb1.size;rw [World.size_alloc];omega))⟩
def LaidS (w : World) : Prop := TX w /\ 2 < w.heap.size /\ ∀ w',Below w.heap.size w w' -> Lib.TabIs Tryz.prog w' "internal/strconv.uint64pow10" .u64 Lib.pow10Tab
theorem LaidS.below {w w' : World} (h : LaidS w) (hb : Below w.heap.size w w') : LaidS w' := ⟨h.1.below hb h.2.1,Nat.lt_of_lt_of_le h.2.1 hb.size,fun w2 hb2 => h.2.2 w2 (hb.trans (hb2.mono hb.size))⟩
def DBad (s : ByteArray) (E A : Int) : Prop := ∀ W,Calls Tryz.prog 29 #[.string s] W fun e w' => e = .returned (.tuple #[.pointer none,.int .i64 E,.int .i64 A]) /\ Below W.heap.size W w'
def DGood (s R : ByteArray) : Prop := ∀ W,Calls Tryz.prog 29 #[.string s] W fun e w' => ∃ q,e = .returned (.tuple #[.pointer (some ⟨q,0,none⟩),.int .i64 0,.int .i64 0]) /\ (Calls Tryz.prog 30 #[.pointer (some ⟨q,0,none⟩)] w' fun e w2 => e = .returned (.string R) /\ Below w'.heap.size w' w2) /\ Below W.heap.size W w'
def CShow (s R : ByteArray) (E A : Int) (w : World) : Prop := ∀ v,Calls Tryz.prog 28 #[v,.string s] w fun e w' => SPost w R E A e w'
theorem okW_gw {t : Tk} (h : gw t) : okW t := ⟨h.le,fun hk => by
 have hg := h.num hk
 exact decF_le _ 0 t.n (by omega) hg⟩
theorem spc_of {s : ByteArray} {l : List Tok} {w : World} (hs : s.size <= 400) (hl : lex s (skp s 0) = .good l) (hL : LaidS w) : SpC s (l ++ [endTok s]) w := fun W hW => by
 have hLW := hL.below hW
 refine (split_short s hs W hLW.1 hLW.2.1).mono ?_
 rw [hl]
 rintro e w' ⟨v,rfl,hv,hb⟩
 have hv : w'.ownsRow W.heap.size 294 4 v (l ++ [endTok s]).length ((l ++ [endTok s]).flatMap Tok.cells) := hv
 rcases hv.2 with ⟨_,h2⟩ | ⟨g,cap,cur,h1,h2,h3,h4,_⟩
 ·simp at h2
 ·subst h1
  exact ⟨g,cap,rfl,h4,lt_of_block h3,cw_of hv,hb⟩
theorem code_of {s : ByteArray} {l : List Tok} {w : World} {c : T} {q' : Q} {n : Nat} {x : Int} (hs : s.size <= 400) (hl : lex s (skp s 0) = .good l) (hL : LaidS w) (hw : wf c) (h25 : c.k ≠ 25) (hfl : fl c = tks l) (hp : pr (l ++ [endTok s]) 12 n .expr q0 = some (x,q')) (hq : q'.fine) (hE : (q'.want (l ++ [endTok s]) 0).S.err = 0) (hpos : 0 < q'.ps.length) (hR : Rep q'.ps ((q'.ps.length : Int) - 1) c) : CShow s (kj 99 ⟨#[]⟩ (fl (mi 0 c))) 0 0 w := by
 have hll := lex_len hl
 have hlen : (l ++ [endTok s]).length <= 402 := by simp;omega
 have h0 := skp_le s s.size 0 (by omega) (by omega)
 obtain ⟨h1,h2⟩ := lexF_lw s hs _ _ l h0.2 hl
 have hlo := lexF_ok s hs _ _ l hl
 have htw : ∀ t ∈ fl (mi 0 c),TW t /\ gw t := fun t ht => by
  rcases mem_mi c 0 t ht with h | rfl | rfl
  ·rw [hfl] at h
   unfold tks at h
   rw [List.mem_map] at h
   obtain ⟨y,hy,rfl⟩ := h
   exact ⟨(h1 y hy).tw,(hlo y hy).gw⟩
  ·exact ⟨tw_of (by omega) (by omega),(gw_of (by omega) (by omega)).1⟩
  ·exact ⟨tw_of (by omega) (by omega),(gw_of (by omega) (by omega)).1⟩
 have hkj : WrL ⟨#[]⟩ (fl (mi 0 c)) = kj 99 ⟨#[]⟩ (fl (mi 0 c)) := WrL_kj _ 99 _ (fun t ht => (htw t ht).1) rfl
 have hwm : wf (mi 0 c) := mi_wf c (wf_fine c hw) (wf_pats c hw) 0
 have hne := fl_ne' (wf_fine _ hwm)
 have hsz : (WrL ⟨#[]⟩ (fl (mi 0 c))).size <= 100000000 := by
  have h3 := WrL_tot (fl (mi 0 c)) ⟨#[]⟩
  have h4 := mi_tot c 0 hw (Nat.zero_le _)
  rw [hfl] at h4
  have h5 : (fl (mi 0 c)).length <= tot' (fl (mi 0 c)) := by
   clear h3 h4 hne
   generalize fl (mi 0 c) = z at htw
   induction z with
   | nil => exact Nat.le_refl _
   | cons t r ih =>
     have := ih (fun u hu => htw u (by simp [hu]))
     have hp := (htw t (by simp)).2.pos
     rw [tot',List.length_cons];omega
  have h6 : (⟨#[]⟩ : ByteArray).size = 0 := rfl
  omega
 have hpos2 : 0 < (WrL ⟨#[]⟩ (fl (mi 0 c))).size := by
  cases hz : fl (mi 0 c) with
  | nil => exact absurd hz hne
  | cons t r =>
    rw [WrL_cons]
    have h3 := WrL_size r (wr1 ⟨#[]⟩ (wt t))
    have hp := (htw t (by rw [hz];simp)).2.pos
    have h4 : (wt t).size <= (wr1 ⟨#[]⟩ (wt t)).size := by
     unfold wr1
     rw [if_neg (fun h => by have := D_nil.1 h;omega),ByteArray.size_append]
     omega
    omega
 intro v
 rw [<- hkj]
 refine show_ok (treeOf_ok hlen (spc_of hs hl hL) hp hq hE) (fun W pv hW ⟨base,vs,hps⟩ => ?_)
 have hLW := hL.below hW
 exact shText_w hps hq.2.2.2 hpos hR (wf_fine c hw) (wf_pats c hw) h25 (fun t ht => okW_gw (htw t ht).2) rfl hpos2 hsz hLW.1 hLW.2.1 hLW.2.2
theorem doc_of {s : ByteArray} {l : List Tok} {c : T} {n0 : Nat} (hs : s.size <= 400) (hl : lex s (skp s 0) = .good l) (hw : wf c) (hcan : can c) (h25 : c.k ≠ 25) (hfl : fl c = tks l) (hM : MR 12 n0 [.nt .Expr,.tm 0] (l ++ [endTok s]) 0 none) : DGood s (kj 99 ⟨#[]⟩ (fl (mi 0 c))) := fun W => by
 have hlo := lexF_ok s hs _ _ l hl
 have hll := lex_len hl
 obtain ⟨g,he,hC⟩ := parse_ok s hs hl hM hw h25 hfl W
 obtain ⟨hgc,hnu,hfu⟩ := tree_good hw hfl hlo
 refine hC.mono ?_
 rintro e w' ⟨q,rfl,hT,hb⟩
 refine ⟨q,rfl,?_,hb⟩
 rw [<- short_kj hs hl hw hfl]
 exact short_any hT (Nat.le_refl _) (smG_er g (by rw [he];exact smG_gt _ c (Nat.le_refl _) (wf_fine c hw))) ⟨wf_fine c hw,hcan,wf_pats c hw,h25⟩ he hnu (by omega) (greedy_all c (wf_fine c hw) (wf_pats c hw) h25) hgc
theorem both (s : ByteArray) (hm : s.size <= maxLen) (w : World) (hL : LaidS w) : (∃ E A : Int,E ≠ 0 /\ CShow s ⟨#[]⟩ E A w /\ DBad s E A) \/ (∃ R,CShow s R 0 0 w /\ DGood s R) := by
 by_cases h4 : 400 < s.size
 ·refine .inl ⟨1,0,by omega,fun v => show_bad (by omega) (fun W hW => treeOf_lex (by omega) (fun W2 hW2 => ?_)),fun W => ?_⟩
  ·refine (split_long s h4 hm W2).mono ?_
   rintro e w' ⟨rfl,rfl⟩
   exact ⟨rfl,Below.refl _ _⟩
  ·refine (parse_long s h4 hm W).mono ?_
   rintro e w' ⟨rfl,rfl⟩
   exact ⟨rfl,Below.refl _ _⟩
 have hs : s.size <= 400 := by omega
 cases hl : lex s (skp s 0) with
 | bad e p =>
   have h23 := lexF_bad _ _ _ _ _ hl
   have he : ((e : Nat) : Int) ≠ 0 := by omega
   refine .inl ⟨e,p,he,fun v => show_bad he (fun W hW => treeOf_lex he (fun W2 hW2 => ?_)),fun W => parse_lex s hs hl W⟩
   have hLW := (hL.below hW).below hW2
   refine (split_short s hs W2 hLW.1 hLW.2.1).mono ?_
   rw [hl]
   rintro e w' ⟨v,rfl,hv,hb⟩
   have hv : v = .slice none 0 0 := hv
   subst hv
   exact ⟨rfl,hb⟩
 | good l =>
   have hlo := lexF_ok s hs _ _ l hl
   have hll := lex_len hl
   have hlen : (l ++ [endTok s]).length <= 402 := by simp;omega
   have hEnds : Sl.Ends (l ++ [endTok s]) := ⟨l,endTok s,rfl,rfl⟩
   obtain ⟨res,hj,hok⟩ := tot 12 _ .expr (l ++ [endTok s]) 0 hEnds (Nat.lt_succ_self _)
   obtain ⟨n,x,q',hp,hq,hb1,hb2,hb3⟩ := par_res hlen hEnds hj
   cases res with
   | bad e p =>
     obtain ⟨he,hE,hA⟩ := hb1 e p rfl
     obtain ⟨n0,hM⟩ := (jb_mr hj trivial).2 e p rfl [.tm 0]
     have he' : ((e : Nat) : Int) ≠ 0 := by omega
     exact .inl ⟨e,p,he',fun v => show_bad he' (fun W hW => treeOf_bad hlen (spc_of hs hl (hL.below hW)) hp hq hE hA he'),fun W => parse_bad s hs hl hM W⟩
   | ok v l' o' =>
     obtain ⟨he,_,_⟩ := hok v l' o' rfl
     obtain ⟨t,r,rfl⟩ := he.ne
     obtain ⟨u,hu,c,hv,hw,_,h25,hfl⟩ := jb_sound hj trivial v (t :: r) o' rfl
     by_cases hk : t.k = 0
     ·have hr : r = [] := by
       cases r with
       | nil => rfl
       | cons y r =>
         exfalso
         have hlenu := congrArg List.length hu
         simp at hlenu
         have h5 : (l ++ [endTok s])[u.length]? = some t := by rw [hu];simp
         rw [List.getElem?_append_left (by omega)] at h5
         exact (hlo t (List.mem_of_getElem? h5)).ne hk
      subst hr
      have hux : u = l /\ t = endTok s := by
       have h5 := List.append_inj' hu rfl
       exact ⟨h5.1.symm,by simpa using h5.2.symm⟩
      obtain ⟨rfl,rfl⟩ := hux
      obtain ⟨n0,hM⟩ := (jb_mr hj trivial).1 v [endTok s] o' rfl 1 [.tm 0] none (MR.tm hk (by decide) (by decide) (by decide) (MR.nil [] o'))
      have hcan := jb_can hj trivial v _ _ rfl
      obtain ⟨hE,hpos,c2,hv2,hR,_⟩ := hb3 v (endTok s) [] o' rfl he hk
      rw [hv] at hv2
      cases hv2
      subst hv
      exact .inr ⟨_,code_of hs hl hL hw h25 hfl hp hq hE hpos hR,doc_of hs hl hw hcan h25 hfl hM⟩
     ·obtain ⟨hE,hA⟩ := hb2 v t r o' rfl he hk
      obtain ⟨n0,hM⟩ := (jb_mr hj trivial).1 v _ o' rfl 1 [.tm 0] _ (MR.tmBad (k := 0) hk)
      exact .inl ⟨4,t.p,by omega,fun v => show_bad (by omega) (fun W hW => treeOf_bad hlen (spc_of hs hl (hL.below hW)) hp hq hE hA (by omega)),fun W => parse_bad s hs hl hM W⟩
def LPost (w : World) (e : Ending) (w' : World) : Prop := e = .returned (.bool true) /\ Below w.heap.size w w'
set_option maxRecDepth 100000 in
theorem shown_bad {s : ByteArray} {w : World} {E A : Int} {v : Value} (h0 : E ≠ 0) (hC : CShow s ⟨#[]⟩ E A w) (hD : DBad s E A) :
 Calls Tryz.prog 14 #[v,.string s] w fun e w' => LPost w e w' := by
 have hEb : (E == 0) = false := by simpa using h0
 have HC : Hid (CShow s ⟨#[]⟩ E A w) := hC
 have HD : Hid (DBad s E A) := hD
 clear hC hD h0
 go_enter Tryz.func14,Tryz.ntmps14
 go_wp2_with (first
  | (go_at_call 28;refine (HC.out v).mono ?_;rintro _ w1 ⟨rfl,hb1⟩)
  | (go_at_call 29;refine (HD.out w1).mono ?_;rintro _ w2 ⟨rfl,hb2⟩))
 go_ret
 exact ⟨rfl,hb1.trans (hb2.mono hb1.size)⟩
set_option maxRecDepth 100000 in
theorem shown_good {s R : ByteArray} {w : World} {v : Value} (hC : CShow s R 0 0 w) (hD : DGood s R) :
 Calls Tryz.prog 14 #[v,.string s] w fun e w' => LPost w e w' := by
 have HC : Hid (CShow s R 0 0 w) := hC
 have HD : Hid (DGood s R) := hD
 clear hC hD
 go_enter Tryz.func14,Tryz.ntmps14
 go_wp2_with (first
  | (go_at_call 28;refine (HC.out v).mono ?_;rintro _ w1 ⟨rfl,hb1⟩)
  | (go_at_call 29;refine (HD.out w1).mono ?_;rintro _ w2 ⟨q,rfl,hsh,hb2⟩;have HSH := Lib.hid hsh;clear hsh)
  | (go_at_call 30;refine HSH.out.mono ?_;rintro _ w3 ⟨rfl,hb3⟩))
 go_ret
 exact ⟨rfl,(hb1.trans (hb2.mono hb1.size)).trans (hb3.mono (Nat.le_trans hb1.size hb2.size))⟩
theorem shown_any {s : ByteArray} {w : World} {v : Value} (hm : s.size <= maxLen) (hL : LaidS w) : Calls Tryz.prog 14 #[v,.string s] w fun e w' => LPost w e w' := by
 rcases both s hm w hL with ⟨E,A,h0,hC,hD⟩ | ⟨R,hC,hD⟩
 ·exact shown_bad h0 hC hD
 ·exact shown_good hC hD
set_option maxRecDepth 100000 in
theorem new_any (w : World) : Calls Tryz.prog 13 #[] w fun e w' => ∃ v,e = .returned v /\ Below w.heap.size w w' := by
 go_enter Tryz.func13,Tryz.ntmps13
 go_wp2
 go_ret
 exact ⟨_,rfl,(Below.refl _ _).alloc (Nat.le_refl _) _⟩
set_option maxRecDepth 100000 in
theorem law_any {s : ByteArray} {w : World} (hm : s.size <= maxLen) (hL : LaidS w) : Calls Tryz.prog 3 #[.string s] w fun e w' => LPost w e w' := by
 have HM : Hid (s.size <= maxLen) := hm
 have HL : Hid (LaidS w) := hL
 have hm2 : s.size <= 9223372036854775807 := by unfold maxLen at hm;omega
 clear hm hL
 by_cases hbig : 1073741824 < s.size
 ·have hd : decide ((s.size : Int) > 1073741824) = true := by simp;omega
  go_enter Tryz.func3,Tryz.ntmps3
  go_wp2_with fail
  go_ret
  exact ⟨rfl,Below.refl _ _⟩
 ·have hd : decide ((s.size : Int) > 1073741824) = false := by simp;omega
  go_enter Tryz.func3,Tryz.ntmps3
  go_wp2_with (first
   | (go_at_call 13;refine (new_any w).mono ?_;rintro _ w1 ⟨v,rfl,hb1⟩)
   | (go_at_call 14;refine (shown_any (v := v) HM.out (HL.out.below hb1)).mono ?_;rintro _ w2 ⟨rfl,hb2⟩))
  go_ret
  exact ⟨rfl,hb1.trans (hb2.mono hb1.size)⟩
end Go.Proofs.YtmkdoejpgkgpbaaGreatDoor
namespace Go.Proofs.YtmkdoejpgkgpbaaGreatDoor
open Go.ChangeShapes Go.WideShapes Go.ChangeAt Go.WideMaps Go.WideElems Go.ChangeMaps Go.RowKit Sl
theorem own : ownKnob Tryz.prog.godebug = none := by kernel_rfl
theorem gN : Tryz.prog.globalNamed "slim/words.texts" = some 2 := by kernel_rfl
theorem tN : (Tryz.prog.globals[2]?).map (·.type) = some 408 := by kernel_rfl
theorem uN : Tryz.prog.underlying 408 = some (.array 35 9) := by kernel_rfl
theorem cS : Tryz.prog.cellsOf 9 = 1 := by kernel_rfl
theorem uP : Tryz.prog.underlying 452 = some (.array 20 323) := by kernel_rfl
theorem uU : Tryz.prog.underlying 323 = some (.int .u64) := by kernel_rfl
theorem cU : Tryz.prog.cellsOf 323 = 1 := by kernel_rfl
theorem cP : Tryz.prog.cellsOf 452 = 20 := by kernel_rfl
theorem txtL_at : ∀ i : Fin 35,txtL[i.val]? = some (txtL.getD i.val []) := by decide
theorem laid_texts : (Rows.laid_slim_words_texts : DataW Unit) = .agg (txtL.map fun l => .lit (.string l)) := rfl
theorem laid_pow : (Rows.laid_internal_strconv_uint64pow10 : DataW Unit) = Lib.tabData .u64 Lib.pow10Tab := rfl
theorem cells_of_strs {H : Type} {enc : TypeId × Value -> H} {P : Program} {w : World} {base : Nat} {sp : Nat -> Bool} {held : Bool} {fuel : Nat} {t e : TypeId} {n : Nat} {cs : List Value} {ls : List (List UInt8)} {p : List MemPlace}
 (ht : P.underlying t = some (.array n e)) (he : P.underlying e = some .string) (hce : P.cellsOf e = 1) (h : DataW.trod enc P w base sp held fuel t cs = some (.agg (ls.map fun l => .lit (.string l)),p)) :
 ∀ i l,i < n -> ls[i]? = some l -> cs[i]? = some (.string ⟨l.toArray⟩) := by
 intro i l hi hl
 obtain ⟨xs,m,_,hx,_,hxl,hel⟩ := DataW.trod_array ht h
 have hx1 : ls.map (fun l => (DataW.lit (.string l) : DataW H)) = xs.map (·.1) := by
  have := congrArg Prod.fst hx
  simpa using this
 have h1 := hel i hi
 rw [hce,Nat.mul_one,List.getElem?_eq_getElem (by omega)] at h1
 obtain ⟨s,hs1,hs2,_⟩ := DataW.trod_string he h1
 have h2 : cs[i]? = some (.string s) := by
  have := congrArg (·[0]?) hs1
  simpa [List.getElem?_take,List.getElem?_drop] using this
 have h3 : (ls.map (fun l => (DataW.lit (.string l) : DataW H)))[i]? = some (.lit (.string l)) := by simp [hl]
 rw [hx1,List.getElem?_map,List.getElem?_eq_getElem (by omega),hs2] at h3
 simp only [Option.map_some,Option.some.injEq,DataW.lit.injEq,Lit.string.injEq] at h3
 rw [h2,<- h3]
theorem of_laid {W : World} (h : laidMetH Tryz.prog Rows.shownRow.laid W) : LaidS W := by
 rw [MakeChecks.laidMetH_plain _ _ _ (by kernel_rfl)] at h
 obtain ⟨ps,⟨g0,t0,cs0,f0,p0,q0,hg0,ht0,hv0,hd0,⟨g1,t1,cs1,f1,p1,q1,hg1,ht1,hv1,hd1,⟨g2,t2,cs2,f2,p2,q2,hg2,ht2,hv2,hd2,⟨g3,t3,cs3,f3,p3,q3,hg3,ht3,hv3,hd3,_,_⟩,_⟩,_⟩,_⟩,_,_⟩ := h
 obtain rfl := Option.some.inj (gN.symm.trans hg3)
 obtain rfl := Option.some.inj (tN.symm.trans ht3)
 have htab : Lib.TabIs Tryz.prog W "internal/strconv.uint64pow10" .u64 Lib.pow10Tab := by
  have e : t2 = 452 := by
   have h1 : ((Tryz.prog.globalNamed "internal/strconv.uint64pow10").bind fun g => (Tryz.prog.globals[g]?).map (·.type)) = some 452 := by kernel_rfl
   rw [hg2] at h1
   exact Option.some.inj (ht2.symm.trans h1)
  subst e
  unfold Lib.TabIs
  rw [laid_pow] at hd2
  rw [hv2,<- Lib.cells_of_tab uP uU cU cP hd2]
 rw [laid_texts] at hd3
 have hc : ∀ i,i < 35 -> W.cell? ⟨2,i,none⟩ = some (.string (txt i)) := fun i hi => by
  have h1 := World.var?_cell hg3 hv3 i
  have h2 := cells_of_strs uN Tryz.underlying9 cS hd3 i (txtL.getD i []) hi (txtL_at ⟨i,hi⟩)
  have h3 : cs3.toList[i]? = some (.string (txt i)) := h2
  rw [h1]
  simpa using h3
 have h0 : 2 < W.heap.size := by
  have := hc 0 (by omega)
  unfold World.cell? at this
  rcases Nat.lt_or_ge 2 W.heap.size with hz | hz
  ·exact hz
  ·rw [Array.getElem?_eq_none (by show W.heap.size <= 2;omega)] at this;cases this
 exact ⟨hc,h0,fun w' hb => Lib.tabBelow_of_tabIs htab w' hb⟩
theorem door_met (os : Os) (args : Array Value) : laidMetH Tryz.prog Rows.shownRow.laid ((World.doorLaid Tryz.prog 39 os).forCall (fun _ _ => 0) ⟨#[],args,[]⟩).memory :=
 laidMetH_of_parts3 (fuel := 8) (laidMet_of_run' 8 (by kernel_rfl) (by kernel_rfl)) (by kernel_rfl) (by kernel_rfl)
set_option maxRecDepth 100000 in
theorem lifted (os : Os) (started : os.Started) (H : Type) (enc : TypeId × Value -> H) :
 ReturnsInHanded {} Tryz.checked os 3 .any (fun w args => (Rows.shownSpec.pre enc Tryz.prog Tryz.f3 [] false w args /\ laidMetH Tryz.prog Rows.shownRow.laid w) /\ sizedMet enc Tryz.prog Tryz.f3 (OpenSpec.ofChange Rows.shownSpec) false w args)
  (Rows.shownSpec.post enc Tryz.prog Tryz.f3 false true false false) := by
 refine returnsInHanded_of_change_and (C := Tryz.checked) (X := fun w _ => laidMetH Tryz.prog Rows.shownRow.laid w) (fun _ _ _ hh h => h.of_heap hh) own started (by kernel_rfl) Tryz.func3
  (ChangeSpec.witness_shaped (enc := enc) (C := Tryz.checked) (os := os) (X := fun w _ => laidMetH Tryz.prog Rows.shownRow.laid w) false (World.doorLaid Tryz.prog 39 os) #[.string ⟨#[]⟩] 8 rfl (World.shaped_of_RefB (by kernel_rfl) (by kernel_rfl)) (by kernel_rfl) (by kernel_rfl) (by kernel_rfl) (door_met os _)) ?_
 intro W base args ds gs before hval0 hW _ _ hL _
 have hval : ∀ (j : Nat) t v,Tryz.f3.params[j]? = some t -> args[j]? = some v -> Value.okWide Tryz.prog W .any base t v := hval0
 have hW' := hW
 obtain ⟨p,q,hA0,hV,rfl,hfz,hnd⟩ := hW
 have hA : DataW.TrodAll enc Tryz.prog W 0 (fun _ => true) true Tryz.f3.params.toList args.toList ds p := hA0
 rw [Tryz.params3] at hA hval
 obtain ⟨v0,d0,rfl,rfl,h0⟩ := trodAll_one hA
 obtain ⟨rfl,rfl⟩ := trodVars_none hV
 obtain ⟨s,rfl,rfl,rfl,ws⟩ := open_string Tryz.underlying9 (hval 0 9 v0 rfl rfl) h0
 have hl := of_laid hL
 clear hA0 hval0
 simp only [List.append_nil] at hW'
 refine (law_any ws hl).mono fun e W' ⟨he,hb⟩ => ?_
 subst he
 have e1 : Rows.shownSpec.fn H ([.lit (.string s.data.toList)] ++ []) = { results := [.lit (.bool true)],args := [.lit (.string s.data.toList)] } := by simp [Rows.shownSpec]
 refine ⟨_,rfl,_,_,_,[],[],[],hW',?_,?_,?_,hb.frame _,fun h => by cases h⟩
 ·rw [e1];exact trodAll_mk1 (shut_bool Tryz.underlying4 true)
 ·rw [e1];exact trodAll_mk1 (shut_string Tryz.underlying9 ws)
 ·rw [e1];rfl
end Go.Proofs.YtmkdoejpgkgpbaaGreatDoor
