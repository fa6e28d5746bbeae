import Derived.Test.YtmkdoejpgkgpbaaGreatDoorS09
import Derived.WalkSmall
import Derived.BigQuiet
import Derived.Deep.QuietTactic
set_option linter.unusedVariables false
set_option linter.unusedSimpArgs false
set_option maxHeartbeats 20000000
namespace Go.Proofs.YtmkdoejpgkgpbaaGreatDoor
open Go.RowKit Sl
def RW (w : World) (b off : Nat) (l : List Tok) : Prop := ∀ i (h : i < l.length),w.cell? ⟨b,off + i * 3,none⟩ = some (.string (kName l[i].k l[i].t)) /\ w.cell? ⟨b,off + i * 3 + 1,none⟩ = some (.string l[i].t) /\ w.cell? ⟨b,off + i * 3 + 2,none⟩ = some (.int .i64 l[i].p)
theorem RW.below {w w' : World} {B b off : Nat} {l : List Tok} (h : RW w b off l) (hb : Below B w w') (hB : b < B) : RW w' b off l := fun i hi => by
 have := h i hi
 exact ⟨(hb.cell (p := ⟨b,_,none⟩) hB).trans this.1,(hb.cell (p := ⟨b,_,none⟩) hB).trans this.2.1,(hb.cell (p := ⟨b,_,none⟩) hB).trans this.2.2⟩
def okTok (t : Tok) : Prop := kName t.k t.t = nameK t.k /\ t.k < 35
def strs (S : List Sy) : List Value := (S.map symStr).map Value.string
theorem strs_app (a b : List Sy) : strs (a ++ b) = strs a ++ strs b := by simp [strs]
theorem strs_len (a : List Sy) : (strs a).length = a.length := by simp [strs]
theorem Tryz.info9 : (Tryz.prog.info? 9).map (fun i => (i.zero,i.size,i.bytes)) = some (some (.string ⟨#[]⟩),1,16) := by kernel_rfl
def AR (L : List Tok) (N B : Nat) (w : World) (R : Option (Nat × Nat)) (n : Nat) (t o j : Value) (wr : World) : Prop :=
 ∃ S i ob,MR N n S (L.drop i) ob R /\ (∀ s ∈ S,okSy s = true) /\ Bd 200000000 S (L.drop i) /\ i <= L.length /\ ob <= N /\ ndS S <= ob /\ o = .int .i64 (ob : Nat) /\ j = .int .i64 (i : Nat) /\ wr.ownsRow B 9 1 t S.length (strs S.reverse) /\ Below B w wr
theorem top_cell {wr : World} {B g cap : Nat} {s : Sy} {S : List Sy} (h : wr.ownsRow B 9 1 (.slice (some ⟨g,0,none⟩) (S.length + 1) cap) (S.length + 1) (strs (s :: S).reverse)) : wr.cell? ⟨g,S.length,none⟩ = some (.string (symStr s)) := by
 rw [h.cellAt S.length (by omega)]
 simp [strs]
theorem pop_own {wr : World} {B g cap : Nat} {s : Sy} {S : List Sy} (h : wr.ownsRow B 9 1 (.slice (some ⟨g,0,none⟩) (S.length + 1) cap) (S.length + 1) (strs (s :: S).reverse)) : wr.ownsRow B 9 1 (.slice (some ⟨g,0,none⟩) S.length cap) S.length (strs S.reverse) := by
 rw [List.reverse_cons,strs_app] at h
 exact ownsRow_pop (by rw [strs_len];simp) h
theorem own_shape {wr : World} {B n : Nat} {e : TypeId} {v : Value} {xs : List Value} (h : wr.ownsRow B e 1 v (n + 1) xs) : ∃ g cap,v = .slice (some ⟨g,0,none⟩) (n + 1) cap /\ B <= g /\ g < wr.heap.size /\ n + 1 <= cap /\ cap <= maxLen := by
 rcases h.2 with ⟨_,h0⟩ | ⟨g,cap,cur,h1,h2,h3,h4,h5,_⟩
 ·omega
 ·refine ⟨g,cap,h1,h2,?_,h4,h5⟩
  rcases Nat.lt_or_ge g wr.heap.size with h | h
  ·exact h
  ·rw [Array.getElem?_eq_none h] at h3;simp at h3
theorem own_zero {wr : World} {B : Nat} {e : TypeId} {v : Value} {xs : List Value} (h : wr.ownsRow B e 1 v 0 xs) : ∃ a cap,v = .slice a 0 cap := by
 rcases h.2 with ⟨h0,_⟩ | ⟨g,cap,cur,h1,_⟩
 ·exact ⟨_,_,h0⟩
 ·exact ⟨_,_,h1⟩
set_option maxRecDepth 100000 in
theorem accepts_any (L : List Tok) (b off cap N n0 : Nat) (R : Option (Nat × Nat)) (w : World) (hL : L.length <= 100000) (hN : N <= 1000000) (hc : L.length <= cap) (hr : RW w b off L) (hb : b < w.heap.size) (hok : ∀ t ∈ L,okTok t)
 (hM : MR N n0 [.nt .Expr,.tm 0] L 0 R) :
 Calls Tryz.prog 68 #[.slice (some ⟨b,off,none⟩) L.length cap,.int .i64 N] w fun e w' => e = .returned (.tuple #[.int .i64 ((R.map (·.1)).getD 0 : Nat),.int .i64 ((R.map (·.2)).getD 0 : Nat)]) /\ Below w.heap.size w w' := by
 obtain ⟨mu,hmu⟩ := least_ex
 obtain ⟨i0,hi0,hz0,hz1,hz2⟩ := info_parts Tryz.info9
 have HM : Hid (MR N n0 [.nt .Expr,.tm 0] L 0 R) := hM
 have HK : Hid (∀ t ∈ L,okTok t) := hok
 have HW : Hid (RW w b off L) := hr
 have HU : Hid (∀ (p : Nat -> Prop) n,p n -> p (mu p) /\ mu p <= n) := hmu
 clear hM hok hr hmu
 go_enter Tryz.func68,Tryz.ntmps68
 go_wp2_with fail
 go_loopw [6,7,8] (fun t o j wr => ∃ n,AR L N w.heap.size w R n t o j wr) (fun t o j wr => mu (fun n => AR L N w.heap.size w R n t o j wr))
 case atStart =>
  refine ⟨n0,[.nt .Expr,.tm 0],0,0,by simpa using HM.out,by simp [okSy,okX],.inl (by simp [wtS,wtX];omega),Nat.zero_le _,Nat.zero_le _,Nat.zero_le _,rfl,rfl,?_,(Below.refl _ _).alloc (Nat.le_refl _) _⟩
  exact own_strs w _ _ _ [⟨#[101,110,100]⟩,⟨#[69,120,112,114]⟩] rfl (Nat.le_refl _) (by simp)
 case round =>
  obtain ⟨n1,hn1⟩ := hrel
  have h1 := HU.out (fun n => AR L N w.heap.size w R n u6 u7 u8 wr) n1 hn1
  obtain ⟨n,hn⟩ : ∃ n,mu (fun n => AR L N w.heap.size w R n u6 u7 u8 wr) = n := ⟨_,rfl⟩
  rw [hn] at h1
  have hA := h1.1
  clear h1 hn1 n1
  obtain ⟨S,i,ob,hm,hS,hB,hi,hob,hnd,rfl,rfl,hown,hbw⟩ := hA
  have HND : Hid (ndS S <= ob) := hnd
  clear hnd
  have HN : Hid (mu (fun n => AR L N w.heap.size w R n u6 (.int .i64 ob) (.int .i64 i) wr) = n) := hn
  clear hn
  have hsz := hbw.size
  obtain ⟨l,hl⟩ : ∃ l,L.drop i = l := ⟨_,rfl⟩
  rw [hl] at hm hB
  have HD : Hid (L.drop i = l) := hl
  clear hl
  cases S with
  | nil =>
    cases hm
    rcases hown.2 with ⟨rfl,_⟩ | ⟨g,cap',cur,rfl,_⟩
    all_goals
     clear hown
     go_wp2_with fail
     go_ret2
     exact ⟨rfl,hbw⟩
  | cons s S =>
    have hlen := hB.len
    have hown' := hown
    rw [List.length_cons] at hown'
    obtain ⟨g,cp,rfl,hg1,hg2,hg3,hg4⟩ := own_shape hown'
    have htop := top_cell hown'
    have hpop := pop_own hown'
    have hsS := hS s (by simp)
    obtain ⟨hsz0,hszb,hcapb⟩ := sym_cap s hsS
    have HCAP : Hid (capB (symStr s) = isNt s) := hcapb
    clear hown hown' hcapb
    obtain ⟨t0,l0,rfl⟩ : ∃ t0 l0,l = t0 :: l0 := by cases hm <;> exact ⟨_,_,rfl⟩
    have hiL : i < L.length := by
     rcases Nat.lt_or_ge i L.length with h | h
     ·exact h
     ·have := HD.out;rw [List.drop_eq_nil_of_le h] at this;cases this
    have hget : L[i] = t0 := by
     have := HD.out
     rw [List.drop_eq_getElem_cons hiL] at this
     injection this
    have hdrop : Hid (L.drop (i + 1) = l0) := by
     have := HD.out
     rw [List.drop_eq_getElem_cons hiL] at this
     injection this
    obtain ⟨hkn,hk35⟩ := HK.out t0 (by rw [<- hget];simp)
    obtain ⟨c1,c2,c3⟩ := (HW.out.below hbw hb) i hiL
    rw [hget] at c1 c2 c3
    rw [hkn] at c1
    clear hget hkn
    simp only [maxLen] at hg4
    unfold Bd at hB
    have HBd : Hid (Bd 200000000 (s :: S) (t0 :: l0)) := hB
    clear hB
    cases s with
    | nt x =>
      simp only [isNt] at HCAP
      have hxo : okX x = true := hsS
      cases hrx : ruleX x t0.k with
      | none =>
        have HR : Hid (R = some (4,t0.p)) := by
         cases hm with
         | nt hx _ => rw [hrx] at hx;cases hx
         | ntBad _ => rfl
        have HX : Hid (ruleX x t0.k = none) := hrx
        clear hm hrx
        go_wp2_with (first | (go_at_call 113;refine (partB_any _ hsz0 _).mono ?_;rw [HCAP.out];rintro e w' ⟨rfl,hw'⟩;subst hw') | (go_at_call 114;refine (rule_all x hxo hk35 _).mono ?_;rw [HX.out];rintro e w2 ⟨⟨v,rfl,_⟩,hb2⟩;obtain ⟨hc2,hf2⟩ := bcell hb2;have hs2 := hb2.size;simp only [Option.isSome]))
        go_region
        all_goals (try go_wp2)
        all_goals go_ret2
        all_goals exact ⟨by rw [HR.out];rfl,((hbw.alloc hsz _).trans (hb2.mono (by simp;omega))).drew⟩
      | some xs =>
        have hm' : ∃ n',n = n' + 1 /\ MR N n' (xs ++ S) (t0 :: l0) ob R := by
         cases hm with
         | nt hx h => rw [hrx] at hx;injection hx with hx;subst hx;exact ⟨_,rfl,h⟩
         | ntBad hx => rw [hrx] at hx;cases hx
        obtain ⟨n',rfl,hm'⟩ := hm'
        have HMR : Hid (MR N n' (xs ++ S) (t0 :: l0) ob R) := hm'
        have HX : Hid (ruleX x t0.k = some xs) := hrx
        have HB2 : Hid (Bd 200000000 (xs ++ S) (t0 :: l0)) := HBd.out.nt hrx
        have HOK : Hid (∀ s ∈ xs,okSy s = true) := rule_ok hxo hk35 hrx
        have hxl := rule_len hrx
        have hbl := HB2.out.len
        rw [List.length_append] at hbl
        clear hm hm' hrx
        cases xs with
        | nil =>
          go_wp2_with (first | (go_at_call 113;refine (partB_any _ hsz0 _).mono ?_;rw [HCAP.out];rintro e w' ⟨rfl,hw'⟩;subst hw') | (go_at_call 114;refine (rule_all x hxo hk35 _).mono ?_;rw [HX.out];rintro e w2 ⟨⟨v,rfl,hv⟩,hb2⟩;have hv := hv [] rfl;obtain ⟨va,vcap,rfl⟩ := own_zero hv;have hs2 := hb2.size;simp only [Option.isSome]))
          have hs3 : wr.heap.size + 1 <= w2.heap.size := by simpa using hs2
          have hbw2 := (hbw.alloc hsz (.cells #[.string (nameK t0.k),.string t0.t,.int .i64 t0.p] 200)).trans (hb2.mono (by simp;omega))
          have hown2 := own_below (hpop.alloc (.cells #[.string (nameK t0.k),.string t0.t,.int .i64 t0.p] 200)) hb2
          refine wp_loop_rounds 1 ?_;rw [rounds_succ]
          go_wp2_with fail
          have hnew : AR L N w.heap.size w R n' (.slice (some ⟨g,0,none⟩) S.length cp) (.int .i64 ob) (.int .i64 i) w2 :=
           ⟨S,i,ob,by rw [HD.out];exact HMR.out,fun s hs => hS s (by simp [hs]),by rw [HD.out];exact HB2.out,hi,hob,Nat.le_trans (nd_rule HX.out) HND.out,rfl,rfl,hown2,hbw2⟩
          go_roundw
          case rel => exact ⟨n',hnew⟩
          case measure =>
           rw [HN.out]
           have := (HU.out (fun n => AR L N w.heap.size w R n (.slice (some ⟨g,0,none⟩) S.length cp) (.int .i64 ob) (.int .i64 i) w2) n' hnew).2
           exact Nat.lt_succ_of_le this
        | cons y ys =>
          obtain ⟨X,hX⟩ : ∃ X,X = y :: ys := ⟨_,rfl⟩
          have hXl : X.length = ys.length + 1 := by rw [hX];rfl
          rw [<- hX] at HX HMR HB2 HOK hxl hbl
          have HXE : Hid (X.length = ys.length + 1) := hXl
          clear hX
          go_wp2_with (first | (go_at_call 113;refine (partB_any _ hsz0 _).mono ?_;rw [HCAP.out];rintro e w' ⟨rfl,hw'⟩;subst hw') | (go_at_call 114;refine (rule_all x hxo hk35 _).mono ?_;rw [HX.out];rintro e w2 ⟨⟨v,rfl,hv⟩,hb2⟩;have hv := hv X rfl;rw [HXE.out] at hv;obtain ⟨gx,vcap,rfl,hx1,hx2,hx3,hx4⟩ := own_shape hv;have hs2 := hb2.size;simp only [Option.isSome]))
          have hs3 : wr.heap.size + 1 <= w2.heap.size := by simpa using hs2
          have hgx : wr.heap.size + 1 <= gx := by simpa using hx1
          have hbw2 := (hbw.alloc hsz (.cells #[.string (nameK t0.k),.string t0.t,.int .i64 t0.p] 200)).trans (hb2.mono (by simp;omega))
          have hown2 := own_below (hpop.alloc (.cells #[.string (nameK t0.k),.string t0.t,.int .i64 t0.p] 200)) hb2
          have HXC : Hid (∀ q (h : q < X.length),w2.cell? ⟨gx,q,none⟩ = some (.string (symStr X[q]))) := by
           intro q h
           rw [hv.cellAt q (by omega)]
           simp [h]
          clear hv hpop c1 c2 c3 htop
          go_loopw [6,14] (fun t k wr2 => ∃ q,q <= X.length /\ k = .int .i64 ((q : Int) - 1) /\ wr2.ownsRow w.heap.size 9 1 t (S.length + (X.length - q)) (strs (S.reverse ++ (X.drop q).reverse)) /\ Below w.heap.size w wr2 /\ w2.heap.size <= wr2.heap.size /\ (∀ q' (h : q' < X.length),wr2.cell? ⟨gx,q',none⟩ = some (.string (symStr X[q']))) /\ t.ownBlock ≠ some gx) (fun _ k _ => (intOf k + 1).toNat)
          case atStart =>
           refine ⟨X.length,Nat.le_refl _,by rw [HXE.out];go_num,?_,hbw2,Nat.le_refl _,HXC.out,?_⟩
           ·simpa using hown2
           ·simp [Value.ownBlock];omega
          case round =>
           have hwr : Hid True := trivial
           obtain ⟨q,hq,rfl,hown3,hbw3,hs4,hxc,hne⟩ := hrel
           cases q with
           | zero =>
             have hown4 : wr.ownsRow w.heap.size 9 1 u6 (X ++ S).length (strs (X ++ S).reverse) := by
              have h := hown3
              rw [List.drop_zero,<- List.reverse_append,Nat.sub_zero] at h
              rw [List.length_append,Nat.add_comm];exact h
             have hnew : AR L N w.heap.size w R n' u6 (.int .i64 ob) (.int .i64 i) wr :=
              ⟨X ++ S,i,ob,by rw [HD.out];exact HMR.out,fun s hs => by rcases List.mem_append.1 hs with h | h;exact HOK.out s h;exact hS s (by simp [h]),by rw [HD.out];exact HB2.out,hi,hob,Nat.le_trans (nd_rule HX.out) HND.out,rfl,rfl,hown4,hbw3⟩
             have HNEW : Hid _ := hnew
             clear hnew hown4 hown3 hxc
             go_wp2_with fail
             refine ⟨⟨n',HNEW.out⟩,?_⟩
             rw [HN.out]
             exact Nat.lt_succ_of_le ((HU.out (fun n => AR L N w.heap.size w R n u6 (.int .i64 ob) (.int .i64 i) wr) n' HNEW.out).2)
           | succ q =>
             have hcq := hxc q (by omega)
             have HXC2 : Hid (∀ q' (h : q' < X.length),wr.cell? ⟨gx,q',none⟩ = some (.string (symStr X[q']))) := hxc
             have HNE : Hid (u6.ownBlock ≠ some gx) := hne
             have hrev : Hid (strs (S.reverse ++ (X.drop q).reverse) = strs (S.reverse ++ (X.drop (q + 1)).reverse) ++ [.string (symStr X[q])]) := by
              show _ = _
              rw [List.drop_eq_getElem_cons (show q < X.length by omega),List.reverse_cons,<- List.append_assoc,strs_app _ [X[q]]];rfl
             clear hxc hne
             rw [show ((q + 1 : Nat) : Int) - 1 = (q : Int) by omega]
             go_wp2_with (at_builtin;refine wpList_append_own2 _ rfl (.tmp 55) (.tmp 60) 114 rfl w.heap.size 9 i0 _ 1 16 Tryz.underlying114 hi0 hz0 hz1 hz2 rfl (by decide) _ _ _ rfl (hown3.alloc _) _ 1 1 [.string (symStr X[q])] rfl rfl (cells_new _ _ _ _ rfl) ?_ ?_ ?_ ?_ ?_;(intro u hu;simp at hu;subst hu;rfl);(unfold maxLen;omega);omega;(have := hbw3.size;simp;omega);intro v' w3 hown4 hgr hblk;have hbw4 := below_app hbw3 hbw3.size _ hgr (own_ge hown3))
             have hs5 : wr.heap.size + 1 <= w3.heap.size := by have := hgr.size;simpa using this
             go_roundw
             case rel =>
              refine ⟨q,by omega,rfl,?_,hbw4,by omega,?_,?_⟩
              ·rw [hrev.out,show S.length + (X.length - q) = S.length + (X.length - (q + 1)) + 1 by omega]
               exact hown4
              ·intro q' h
               refine World.grownBy.cell hgr ?_ (fun e => HNE.out e.symm)
               rw [World.cell?_alloc_past _ _ _ (by omega)]
               exact HXC2.out q' h
              ·rcases hblk with h | h
               ·rw [h];exact HNE.out
               ·rw [h];simp;omega
             case measure => simp [intOf] <;> omega
    | tm k =>
      simp only [isNt] at HCAP
      have hk0 : k < 35 := by simpa [okSy] using hsS
      have hq := nameK_eq t0.k hk35 k hk0
      have q23 := nk23 hk0
      have q18 := nk18 hk0
      have q24 := nk24 hk0
      by_cases hkk : t0.k = k
      ·subst hkk
       have hq' : ((nameK t0.k).toList == (nameK t0.k).toList) = true := by simp
       have hss : symStr (.tm t0.k) = nameK t0.k := rfl
       rw [hss] at htop hsz0 HCAP
       have hbw2 := hbw.alloc hsz (.cells #[.string (nameK t0.k),.string t0.t,.int .i64 t0.p] 200)
       have hown2 := hpop.alloc (.cells #[.string (nameK t0.k),.string t0.t,.int .i64 t0.p] 200)
       have HB2 : Hid (Bd 200000000 S l0) := HBd.out.tm
       clear hq
       by_cases hop : t0.k = 23 \/ t0.k = 18
       ·have hor : ((nameK t0.k).toList == [40]) = true \/ (((nameK t0.k).toList == [40]) = false /\ ((nameK t0.k).toList == [46,40]) = true) := by
         rw [q23,q18];simp;omega
        have h24 : ((nameK t0.k).toList == [41]) = false := by rw [q24];simp;omega
        clear q23 q18 q24
        by_cases hno : ob < N
        ·have hm' := mr_op hm rfl hop hno
         obtain ⟨n',rfl,hm'⟩ := hm'
         have HMR : Hid (MR N n' S l0 (ob + 1) R) := hm'
         have HNDS : ndS S <= ob + 1 := by have h := HND.out;simp only [ndS] at h;rw [if_neg (by omega),if_pos hop] at h;omega
         clear hm hm'
         have hnew : AR L N w.heap.size w R n' (.slice (some ⟨g,0,none⟩) S.length cp) (.int .i64 ((ob + 1 : Nat) : Int)) (.int .i64 ((i + 1 : Nat) : Int)) (wr.alloc (.cells #[.string (nameK t0.k),.string t0.t,.int .i64 t0.p] 200)) :=
          ⟨S,i + 1,ob + 1,by rw [hdrop.out];exact HMR.out,fun s hs => hS s (by simp [hs]),by rw [hdrop.out];exact HB2.out,by omega,by omega,HNDS,rfl,rfl,hown2,hbw2⟩
         have HNEW : Hid _ := hnew
         clear hnew
         rcases hor with h40 | ⟨h40,h46⟩
         all_goals
          go_wp2_with (first | (go_at_call 113;refine (partB_any _ hsz0 _).mono ?_;rw [HCAP.out];rintro e w' ⟨rfl,hw'⟩;subst hw'))
          go_roundw
          case rel => exact ⟨n',HNEW.out⟩
          case measure =>
           rw [HN.out]
           have := (HU.out (fun n => AR L N w.heap.size w R n (.slice (some ⟨g,0,none⟩) S.length cp) (.int .i64 ((ob + 1 : Nat) : Int)) (.int .i64 ((i + 1 : Nat) : Int)) (wr.alloc (.cells #[.string (nameK t0.k),.string t0.t,.int .i64 t0.p] 200))) n' HNEW.out).2
           exact Nat.lt_succ_of_le this
        ·have HR : Hid (R = some (5,t0.p)) := mr_nest hm rfl hop hno
         have hob' : (ob : Int) = N := by omega
         have HOB : Hid ((ob : Int) = N) := hob'
         have hobe : ((ob : Int) == (N : Int)) = true := by simp;omega
         clear hm hob'
         rcases hor with h40 | ⟨h40,h46⟩
         all_goals
          go_wp2_with (first | (go_at_call 113;refine (partB_any _ hsz0 _).mono ?_;rw [HCAP.out];rintro e w' ⟨rfl,hw'⟩;subst hw'))
          go_region
          all_goals (try go_wp2)
          all_goals go_ret2
          all_goals exact ⟨by rw [HR.out];rfl,(hbw.alloc hsz _).drew⟩
       ·have h40 : ((nameK t0.k).toList == [40]) = false := by rw [q23];simp;omega
        have h46 : ((nameK t0.k).toList == [46,40]) = false := by rw [q18];simp;omega
        by_cases h24k : t0.k = 24
        ·obtain ⟨n',rfl,hm'⟩ := mr_cl hm rfl h24k
         have HMR : Hid (MR N n' S l0 (ob - 1) R) := hm'
         have h41 : ((nameK t0.k).toList == [41]) = true := by rw [q24];simp;omega
         have hnd1 := HND.out
         simp only [ndS] at hnd1
         rw [if_pos h24k] at hnd1
         have hob1 : 1 <= ob := by omega
         have HNDS : ndS S <= ob - 1 := by omega
         clear hnd1
         clear hm hm' q23 q18 q24 h24k hop
         have hnew : AR L N w.heap.size w R n' (.slice (some ⟨g,0,none⟩) S.length cp) (.int .i64 ((ob : Int) - 1)) (.int .i64 ((i + 1 : Nat) : Int)) (wr.alloc (.cells #[.string (nameK t0.k),.string t0.t,.int .i64 t0.p] 200)) :=
          ⟨S,i + 1,ob - 1,by rw [hdrop.out];exact HMR.out,fun s hs => hS s (by simp [hs]),by rw [hdrop.out];exact HB2.out,by omega,by omega,HNDS,by rw [show ((ob - 1 : Nat) : Int) = (ob : Int) - 1 by omega],rfl,hown2,hbw2⟩
         have HNEW : Hid _ := hnew
         clear hnew
         go_wp2_with (first | (go_at_call 113;refine (partB_any _ hsz0 _).mono ?_;rw [HCAP.out];rintro e w' ⟨rfl,hw'⟩;subst hw'))
         go_roundw
         case rel => exact ⟨n',HNEW.out⟩
         case measure =>
          rw [HN.out]
          have := (HU.out (fun n => AR L N w.heap.size w R n (.slice (some ⟨g,0,none⟩) S.length cp) (.int .i64 ((ob : Int) - 1)) (.int .i64 ((i + 1 : Nat) : Int)) (wr.alloc (.cells #[.string (nameK t0.k),.string t0.t,.int .i64 t0.p] 200))) n' HNEW.out).2
          exact Nat.lt_succ_of_le this
        ·obtain ⟨n',rfl,hm'⟩ := mr_tm hm rfl hop h24k
         have HMR : Hid (MR N n' S l0 (ob) R) := hm'
         have h41 : ((nameK t0.k).toList == [41]) = false := by rw [q24];simp;omega
         have HNDS : ndS S <= ob := by have h := HND.out;simp only [ndS] at h;rw [if_neg h24k,if_neg hop] at h;exact h
         clear hm hm' q23 q18 q24 h24k hop
         have hnew : AR L N w.heap.size w R n' (.slice (some ⟨g,0,none⟩) S.length cp) (.int .i64 ((ob : Nat) : Int)) (.int .i64 ((i + 1 : Nat) : Int)) (wr.alloc (.cells #[.string (nameK t0.k),.string t0.t,.int .i64 t0.p] 200)) :=
          ⟨S,i + 1,ob,by rw [hdrop.out];exact HMR.out,fun s hs => hS s (by simp [hs]),by rw [hdrop.out];exact HB2.out,by omega,by omega,HNDS,rfl,rfl,hown2,hbw2⟩
         have HNEW : Hid _ := hnew
         clear hnew
         go_wp2_with (first | (go_at_call 113;refine (partB_any _ hsz0 _).mono ?_;rw [HCAP.out];rintro e w' ⟨rfl,hw'⟩;subst hw'))
         go_roundw
         case rel => exact ⟨n',HNEW.out⟩
         case measure =>
          rw [HN.out]
          have := (HU.out (fun n => AR L N w.heap.size w R n (.slice (some ⟨g,0,none⟩) S.length cp) (.int .i64 ((ob : Nat) : Int)) (.int .i64 ((i + 1 : Nat) : Int)) (wr.alloc (.cells #[.string (nameK t0.k),.string t0.t,.int .i64 t0.p] 200))) n' HNEW.out).2
          exact Nat.lt_succ_of_le this
      ·have HR : Hid (R = some (4,t0.p)) := by
        cases hm with
        | tm h _ _ _ _ => exact absurd h hkk
        | tmBad _ => rfl
        | op h _ _ _ => exact absurd h hkk
        | opNest h _ _ => exact absurd h hkk
        | cl h _ => exact absurd h hkk
       have hq' : ((nameK k).toList == (nameK t0.k).toList) = false := by rw [hq];simp;omega
       clear hm hq q23 q18 q24
       have hss : symStr (.tm k) = nameK k := rfl
       rw [hss] at htop hsz0 HCAP
       go_wp2_with (first | (go_at_call 113;refine (partB_any _ hsz0 _).mono ?_;rw [HCAP.out];rintro e w' ⟨rfl,hw'⟩;subst hw'))
       go_region
       all_goals (try go_wp2)
       all_goals go_ret2
       all_goals exact ⟨by rw [HR.out];rfl,(hbw.alloc hsz _).drew⟩
end Go.Proofs.YtmkdoejpgkgpbaaGreatDoor
