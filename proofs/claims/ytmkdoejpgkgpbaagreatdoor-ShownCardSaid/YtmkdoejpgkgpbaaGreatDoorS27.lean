import Derived.Test.YtmkdoejpgkgpbaaGreatDoorS26
import Derived.Deep.RegionWith
import Derived.Deep.Cut
import Derived.Deep.CutRange
import Derived.Deep.DeepCutAuto
import Derived.Deep.LoopGhost
set_option linter.unusedVariables false
set_option linter.unusedSimpArgs false
set_option maxHeartbeats 20000000
namespace Go.Proofs.YtmkdoejpgkgpbaaGreatDoor
open Go.RowKit Sl
def jb : Option ByteArray -> ByteArray -> List ByteArray -> ByteArray
 | _,acc,[] => acc
 | none,acc,x :: r => jb (some x) (acc ++ x) r
 | some p,acc,x :: r => jb (some x) ((if apB p x then acc ++ ⟨#[32]⟩ else acc) ++ x) r
def prevT (tz : List ByteArray) (k : Nat) : Option ByteArray := if k = 0 then none else tz[k - 1]?
theorem says_nil {t : T} : ¬ Says [] t := by
 rintro ⟨c,hw,_,hf,_⟩
 exact (fl_bal c (wf_fine c hw)).ne hf
theorem ne_oB {x : Tk} (h : x ≠ oB) (hc : cn x) : x.k ≠ 23 := by
 intro hk
 apply h
 obtain ⟨h1,h2⟩ := hc
 cases x with
 | mk k n y =>
   simp only at hk h1 h2
   subst hk
   have := h1 (by decide)
   have := h2 (by decide)
   subst_vars
   rfl
theorem own_any {w : World} {B n : Nat} {v : Value} {xs : List ByteArray} (h : w.ownsRow B 9 1 v n (xs.map Value.string)) : ∃ ad cap,v = .slice ad n cap /\ n <= cap := by
 rcases h.2 with ⟨h1,h2⟩ | ⟨g,cap,cur,h1,h2,h3,h4,_⟩
 ·subst h2;exact ⟨_,_,h1,Nat.le_refl _⟩
 ·exact ⟨_,_,h1,h4⟩
theorem less_at {P M R : List Tk} {a b : Tk} : lesF P.length (P.length + 1 + M.length) 0 ((P ++ a :: (M ++ b :: R)).map wt) = (P ++ (M ++ R)).map wt := by
 have h := lesF_at (P := P.map wt) (M := M.map wt) (R := R.map wt) (a := wt a) (b := wt b)
 rw [List.length_map,List.length_map] at h
 simpa using h
def GC (l : List Tk) : Prop := ∀ t ∈ l,gw t /\ cn t
theorem GC.sub {l l' : List Tk} (h : GC l) (hs : ∀ t ∈ l',t ∈ l) : GC l' := fun t ht => h t (hs t ht)
theorem run_cons {t x : _} {P S z : List Tk} (h : Run t P (x :: S) z) : (x ≠ oB /\ Run t (P ++ [x]) S z) \/ (∃ M R,x = oB /\ S = M ++ cB :: R /\ dep 0 M = some 0 /\ ¬ Says (P ++ (M ++ R)) t /\ Run t (P ++ [oB]) (M ++ cB :: R) z) \/ (∃ M R,x = oB /\ S = M ++ cB :: R /\ dep 0 M = some 0 /\ Says (P ++ (M ++ R)) t /\ Run t P (M ++ R) z) := by
 cases h with
 | skip h1 h2 => exact .inl ⟨h1,h2⟩
 | keep h1 h2 h3 => exact .inr (.inl ⟨_,_,rfl,rfl,h1,h2,h3⟩)
 | drop h1 h2 h3 => exact .inr (.inr ⟨_,_,rfl,rfl,h1,h2,h3⟩)
theorem run_nil {t : T} {P z : List Tk} (h : Run t P [] z) : P = z := by cases h;rfl
def SL (c : T) (z : List Tk) (B : Nat) (w : World) (gh : Nat) (s3 s4 : Value) (wx : World) : Prop :=
 ∃ P S : List Tk,gh = S.length /\ Run (sh c) P S z /\ GC (P ++ S) /\ (P ++ S).length <= 90000 /\ s4 = .int .i64 (P.length : Nat) /\ wx.ownsRow B 9 1 s3 (P ++ S).length (((P ++ S).map wt).map Value.string) /\ Below B w wx
theorem jb_none (acc : ByteArray) (x : ByteArray) (r : List ByteArray) : jb none acc (x :: r) = jb (some x) (acc ++ x) r := rfl
theorem jb_some (p acc x : ByteArray) (r : List ByteArray) : jb (some p) acc (x :: r) = jb (some x) ((if apB p x then acc ++ ⟨#[32]⟩ else acc) ++ x) r := rfl
set_option maxRecDepth 100000 in
theorem short_any {w : World} {B n : Nat} {v : Value} {g : G} {c : T} {z : List Tk} (ht : HT w B n v g) (hnw : n <= w.heap.size) (hsm : smG g) (hnc : Nice c) (he : er g = gt c) (hnu : nums c) (hlen : (fl (fu c)).length <= 90000) (hrun : Run (sh c) [] (fl (fu c)) z) (hgc : GC (fl (fu c))) :
 Calls Tryz.prog 30 #[v] w fun e w' => e = .returned (.string (jb none ⟨#[]⟩ (z.map wt))) /\ Below w.heap.size w w' := by
 obtain ⟨p,rfl,hp1,hp2⟩ := ht.ptr
 have HF := full_any _ c (Nat.le_refl _) hnc.fine hnc.pats hnc.n25 hnu (by unfold wd;rw [List.length_map];omega) w B n _ g ht he hnw
 have HFN : Hid (FullNow w (.pointer (some ⟨p,0,none⟩)) (wd c)) := HF
 have HH : Hid (HT w B n (.pointer (some ⟨p,0,none⟩)) g) := ht
 have HSM : Hid (smG g) := hsm
 have HNC : Hid (Nice c) := hnc
 have HE : Hid (er g = gt c) := he
 have HRUN : Hid (Run (sh c) [] (fl (fu c)) z) := hrun
 have HGC : Hid (GC (fl (fu c))) := hgc
 obtain ⟨zs,hzs⟩ : ∃ zs,jb none ⟨#[]⟩ (z.map wt) = zs := ⟨_,rfl⟩
 have HZS : Hid (jb none ⟨#[]⟩ (z.map wt) = zs) := hzs
 rw [hzs]
 clear HF ht hsm hnc he hnu hrun hgc hzs
 go_enter Tryz.func30,Tryz.ntmps30
 go_wp2_with (go_at_call 70;refine HFN.out.mono ?_;rintro _ w1 ⟨v1,rfl,ho1,hb1⟩)
 have HO1 : Hid (w1.ownsRow w.heap.size 9 1 v1 (wd c).length ((wd c).map Value.string)) := ho1
 clear ho1
 go_loopg [3,4] (fl (fu c)).length (fun gh s3 s4 (wx : World) => SL c z w.heap.size w gh s3 s4 wx)
 case atStart => exact ⟨[],fl (fu c),rfl,HRUN.out,HGC.out,hlen,rfl,(by have := HO1.out;unfold wd at this;rw [List.length_map] at this;exact this),hb1⟩
 case round =>
  obtain ⟨P,S,rfl,hr,hgP,hlP,rfl,hown,hbw⟩ := hrel
  have hsz := hbw.size
  have HR : Hid (Run (sh c) P S z) := hr
  have HGP : Hid (GC (P ++ S)) := hgP
  clear hr hgP
  cases S with
  | nil =>
    have hPz := run_nil HR.out
    subst hPz
    rw [List.append_nil] at hown hlP
    have HGZ : Hid (GC P) := by have := HGP.out;rw [List.append_nil] at this;exact this
    have HOW : Hid (wr.ownsRow w.heap.size 9 1 _ P.length ((P.map wt).map Value.string)) := hown
    obtain ⟨xa,xcap,rfl,hx3⟩ := own_any hown
    clear hown HR HGP
    obtain ⟨wo,hwo⟩ : ∃ wo,wo = wr := ⟨_,rfl⟩
    subst hwo
    go_wp2_with fail
    go_loopg [8,9] P.length (fun gh s8 s9 (wx : World) => ∃ (k : Nat) (acc : ByteArray),k <= P.length /\ gh = P.length - k /\ acc.size <= 1001 * k /\ jb (prevT (P.map wt) k) acc ((P.map wt).drop k) = zs /\ s8 = .string acc /\ s9 = .int .i64 k /\ Below wo.heap.size wo wx)
    case atStart => exact ⟨0,⟨#[]⟩,Nat.zero_le _,rfl,by simp;rfl,by simp [prevT];exact HZS.out,rfl,rfl,Below.refl _ _⟩
    case round =>
     obtain ⟨k,acc,hk,rfl,hac,hjb,rfl,rfl,hbl⟩ := hrel
     have HJB : Hid (jb (prevT (P.map wt) k) acc ((P.map wt).drop k) = zs) := hjb
     clear hjb
     have hsl := hbl.size
     by_cases hlt : k < P.length
     ·obtain ⟨xg,xcap2,hxe,hx1,hx2,hx4,hx5⟩ := own_shapeP HOW.out (by omega)
      simp only [Value.slice.injEq,true_and] at hxe
      obtain ⟨hxa,hxc⟩ := hxe
      subst hxa
      subst hxc
      have HSR : Hid (SR wr xg (P.map wt)) := (sr_own HOW.out).below hbl hx2
      have c1 := HSR.out k (by simpa using hlt)
      rw [List.getElem_map] at c1
      have hle := (HGZ.out P[k] (by simp)).1.le
      have hdr : Hid ((P.map wt).drop k = wt P[k] :: (P.map wt).drop (k + 1)) := by
       show _ = _
       rw [List.drop_eq_getElem_cons (by simpa using hlt),List.getElem_map]
      have hpv : Hid (prevT (P.map wt) (k + 1) = some (wt P[k])) := by
       show _ = _
       unfold prevT
       rw [if_neg (by omega),Nat.add_sub_cancel,List.getElem?_eq_getElem (by simpa using hlt),List.getElem_map]
      obtain ⟨tx,htx⟩ : ∃ tx,wt P[k] = tx := ⟨_,rfl⟩
      rw [htx] at c1 hle hdr hpv
      clear htx
      by_cases h0 : k = 0
      ·subst h0
       have HN : Hid (jb (prevT (P.map wt) (0 + 1)) (acc ++ tx) ((P.map wt).drop (0 + 1)) = zs) := by
        show _ = _
        rw [hpv.out,<- HJB.out,hdr.out]
        rfl
       have hsz2 : (acc ++ tx).size = acc.size + tx.size := ByteArray.size_append
       have hsm2 : acc.size + tx.size <= 9223372036854775807 := by omega
       have HSZ : Hid ((acc ++ tx).size <= 1001 * (0 + 1)) := by show _ <= _;omega
       clear hsz2
       go_wp2_with fail
       go_roundg (P.length - (0 + 1))
       case measure => omega
       case rel => exact ⟨0 + 1,acc ++ tx,by omega,rfl,HSZ.out,HN.out,rfl,by go_num,hbl⟩
      ·have hkp : (0 : Int) < (k : Int) := by omega
       obtain ⟨j,rfl⟩ : ∃ j,k = j + 1 := ⟨k - 1,by omega⟩
       have c0 := HSR.out j (by simp;omega)
       rw [List.getElem_map] at c0
       have hle0 := (HGZ.out P[j] (by simp)).1.le
       have hpj : Hid (prevT (P.map wt) (j + 1) = some (wt P[j])) := by
        show _ = _
        unfold prevT
        rw [if_neg (by omega),Nat.add_sub_cancel,List.getElem?_eq_getElem (by simp;omega),List.getElem_map]
       obtain ⟨px,hpx⟩ : ∃ px,wt P[j] = px := ⟨_,rfl⟩
       rw [hpx] at c0 hle0 hpj
       clear hpx h0
       obtain ⟨ab,hab⟩ : ∃ ab,apB px tx = ab := ⟨_,rfl⟩
       have HAB : Hid (apB px tx = ab) := hab
       have HN : Hid (jb (prevT (P.map wt) (j + 1 + 1)) ((if ab then acc ++ ⟨#[32]⟩ else acc) ++ tx) ((P.map wt).drop (j + 1 + 1)) = zs) := by
        show _ = _
        rw [hpv.out,<- HJB.out,hpj.out,hdr.out,jb_some,hab]
       clear hab
       have hw1 : IntKind.i64.wrap (j : Int) = j := by rw [IntKind.wrap_i64];omega
       have hw2 : IntKind.i64.wrap ((j : Int) + 1 - 1) = j := by rw [IntKind.wrap_i64];omega
       have hw3 : IntKind.i64.wrap (((j + 1 : Nat) : Int) - 1) = j := by rw [IntKind.wrap_i64];omega
       go_upto_region 18 with fail
       go_cut [10] (fun s10 wy => s10 = .bool ab /\ Below wr.heap.size wr wy)
       case first =>
        go_region_with (go_at_call 74;refine (apart_any px tx _ hle0 hle).mono ?_;rw [HAB.out];rintro _ w5 ⟨rfl,hb5⟩)
        all_goals (try go_wp2_with fail)
        all_goals go_meet
        all_goals exact ⟨rfl,⟨hb5.os,hb5.tape,hb5.output,hb5.size,hb5.block⟩⟩
       case rest =>
        obtain ⟨rfl,hb5⟩ := hcut
        have c2 := (hb5.cell (p := ⟨xg,j + 1,none⟩) (by show xg < _;omega)).trans c1
        have hsp : (⟨#[32]⟩ : ByteArray).size = 1 := rfl
        have hsz1 : (acc ++ (⟨#[32]⟩ : ByteArray)).size = acc.size + 1 := ByteArray.size_append
        have hbl2 : Below wo.heap.size wo wc := hbl.trans (hb5.mono hsl)
        cases ab with
        | true =>
          have hsz2 : ((acc ++ (⟨#[32]⟩ : ByteArray)) ++ tx).size = acc.size + 1 + tx.size := by rw [ByteArray.size_append,hsz1]
          have HSZ : Hid (((acc ++ (⟨#[32]⟩ : ByteArray)) ++ tx).size <= 1001 * (j + 1 + 1)) := by show _ <= _;omega
          have q1 : acc.size + 1 <= 9223372036854775807 := by omega
          have q2 : acc.size + 1 + tx.size <= 9223372036854775807 := by omega
          clear hsz1 hsz2 hsp
          go_wp2_with fail
          go_roundg (P.length - (j + 1 + 1))
          case measure => omega
          case rel => exact ⟨j + 1 + 1,(acc ++ ⟨#[32]⟩) ++ tx,by omega,rfl,HSZ.out,HN.out,rfl,by go_num,hbl2⟩
        | false =>
          have hsz2 : (acc ++ tx).size = acc.size + tx.size := ByteArray.size_append
          have HSZ : Hid ((acc ++ tx).size <= 1001 * (j + 1 + 1)) := by show _ <= _;omega
          have q2 : acc.size + tx.size <= 9223372036854775807 := by omega
          clear hsz1 hsz2 hsp
          go_wp2_with fail
          go_roundg (P.length - (j + 1 + 1))
          case measure => omega
          case rel => exact ⟨j + 1 + 1,acc ++ tx,by omega,rfl,HSZ.out,HN.out,rfl,by go_num,hbl2⟩
     ·have HF : Hid (acc = zs) := by
       show _ = _
       have := HJB.out
       rw [List.drop_eq_nil_of_le (by simp;omega)] at this
       cases hq : prevT (P.map wt) k <;> rw [hq] at this <;> exact this
      go_wp2_with fail
      go_ret
      exact ⟨by rw [HF.out];rfl,hbw.trans (hbl.mono hsz)⟩
  | cons x S' =>
    obtain ⟨xg,xcap,rfl,hx1,hx2,hx3,hx4⟩ := own_shapeP hown (by simp;omega)
    have hsr := sr_own hown
    have c1 := hsr P.length (by simp)
    rw [List.getElem_map,List.getElem_append_right (by omega)] at c1
    simp only [Nat.sub_self,List.getElem_cons_zero] at c1
    obtain ⟨hgx,hcx⟩ := HGP.out x (by simp)
    have q23 := gw23 hgx
    have HSR : Hid (SR wr xg ((P ++ x :: S').map wt)) := hsr
    have HHW : Hid (HT wr B n (.pointer (some ⟨p,0,none⟩)) g) := HH.out.keep (belowHeld (hbw.mono hnw) B)
    have hLn : (P ++ x :: S').length = P.length + 1 + S'.length := by simp;omega
    rw [hLn] at hx3 hlP ⊢
    rw [hLn] at hown
    have HOW : Hid (wr.ownsRow w.heap.size 9 1 (.slice (some ⟨xg,0,none⟩) (P.length + 1 + S'.length) xcap) (P.length + 1 + S'.length) (((P ++ x :: S').map wt).map Value.string)) := hown
    have HLN : Hid ((P ++ x :: S').length = P.length + 1 + S'.length) := hLn
    clear hsr hown hLn
    have HRR := HR.out
    clear HR
    rcases run_cons HRR with ⟨hne,hr'⟩ | ⟨M,R,rfl,rfl,hd,hns,hr'⟩ | ⟨M,R,rfl,rfl,hd,hsy,hr'⟩
    ·clear HRR
     have hk := ne_oB hne hcx
     have e23 : ((wt x).toList == [40]) = false := by rw [q23];simpa using hk
     have HR' : Hid (Run (sh c) (P ++ [x]) S' z) := hr'
     obtain ⟨tx,htx⟩ : ∃ tx,wt x = tx := ⟨_,rfl⟩
     rw [htx] at c1 e23
     clear q23 hk hne hr' hgx hcx htx
     go_wp2_with fail
     go_roundg S'.length
     case measure => simp
     case rel => exact ⟨P ++ [x],S',rfl,HR'.out,HGP.out.sub (fun t ht => by simpa using ht),by simp;omega,by simp,(by rw [show (P ++ [x]) ++ S' = P ++ x :: S' by simp,HLN.out];exact HOW.out),hbw⟩
    ·clear HRR
     have HD : Hid (dep 0 M = some 0) := hd
     have HR' : Hid (Run (sh c) (P ++ [oB]) (M ++ cB :: R) z) := hr'
     have e23 : ((wt oB).toList == [40]) = true := by rw [q23];rfl
     obtain ⟨tx,htx⟩ : ∃ tx,wt oB = tx := ⟨_,rfl⟩
     rw [htx] at c1 e23
     have hml : (M ++ cB :: R).length = M.length + 1 + R.length := by simp;omega
     rw [hml] at hlP hx3 HOW HLN ⊢
     have HML : Hid ((M ++ cB :: R).length = M.length + 1 + R.length) := hml
     have HL1 : Hid ((P ++ oB :: (M ++ cB :: R)).length <= 100000) := by show _ <= _;rw [HLN.out];omega
     have HL2 : Hid ((P ++ oB :: (M ++ cB :: R)).length <= xcap) := by show _ <= _;rw [HLN.out];omega
     have HL3 : Hid (P.length + 1 + M.length < (P ++ oB :: (M ++ cB :: R)).length) := by show _ < _;rw [HLN.out];omega
     have HL4 : Hid (((P ++ oB :: (M ++ cB :: R))[P.length]?.map Tk.k) = some 23) := by show _ = _;simp;rfl
     have HM0 : Hid (P.length + 1 + (M.length + 1 + R.length) = ((P ++ oB :: (M ++ cB :: R)).map wt).length) := by show _ = _;rw [List.length_map,HLN.out]
     have HM1 : Hid (((P ++ oB :: (M ++ cB :: R)).map wt).length <= 100000) := by show _ <= _;rw [List.length_map];exact HL1.out
     have HM2 : Hid (((P ++ oB :: (M ++ cB :: R)).map wt).length <= xcap) := by show _ <= _;rw [List.length_map];exact HL2.out
     have HY0 : Hid (P.length + M.length + R.length = (P ++ (M ++ R)).length) := by show _ = _;simp;omega
     have HY1 : Hid (P.length + M.length + R.length >= 1 -> 1 <= (P ++ (M ++ R)).length) := fun h => by rw [<- HY0.out];exact h
     have HY2 : Hid ((P ++ (M ++ R)).length <= 90000) := by show _ <= _;rw [<- HY0.out];omega
     have hyl : ((P ++ (M ++ R)).map wt).length = P.length + M.length + R.length := by simp;omega
     clear q23 hd hr' hgx hcx htx hml
     by_cases hy0 : P.length + M.length + R.length = 0
     ·clear hns
      have hgtz : ¬ (0 : Int) < ((P.length + M.length + R.length : Nat) : Int) := by omega
      go_wp2_with (first
      | (go_at_call 71;refine (closing_any (P ++ oB :: (M ++ cB :: R)) xg xcap P.length (P.length + 1 + M.length) _ _ HLN.out.symm HL1.out HL2.out HSR.out (fun t ht => (HGP.out t ht).1) (clo_at HD.out) HL3.out HL4.out).mono ?_;rintro _ w2 ⟨rfl,hw2⟩;subst hw2)
      | (go_at_call 72;refine (less_any ((P ++ oB :: (M ++ cB :: R)).map wt) xg xcap P.length (P.length + 1 + M.length) _ _ HM0.out HM1.out HM2.out hx2 HSR.out (by omega) (by omega)).mono ?_;rw [less_at];rintro _ w3 ⟨v3,rfl,ho3,hb3⟩;rw [hyl] at ho3;obtain ⟨ya,ycap,rfl,hy3⟩ := own_any ho3))
      go_roundg (M.length + 1 + R.length)
      case measure => simp;omega
      case rel => exact ⟨P ++ [oB],M ++ cB :: R,HML.out.symm,HR'.out,HGP.out.sub (fun t ht => by simpa using ht),by simp;omega,by simp,(by rw [show (P ++ [oB]) ++ (M ++ cB :: R) = P ++ oB :: (M ++ cB :: R) by simp,HLN.out];exact own_below HOW.out hb3),hbw.trans (hb3.mono hsz)⟩
     ·have hpos : 1 <= P.length + M.length + R.length := by omega
      have hgtz : (0 : Int) < ((P.length + M.length + R.length : Nat) : Int) := by omega
      have HSB : Hid (saysB (P ++ (M ++ R)) (sh c) = false) := by
       cases hh : saysB (P ++ (M ++ R)) (sh c)
       ·rfl
       ·exact absurd (saysB_iff.1 hh) hns
      have HGY : Hid (GC (P ++ (M ++ R))) := HGP.out.sub (fun t ht => by simp at ht ⊢;rcases ht with h | h | h <;> simp [h])
      clear hns hy0
      go_wp2_with (first
      | (go_at_call 71;refine (closing_any (P ++ oB :: (M ++ cB :: R)) xg xcap P.length (P.length + 1 + M.length) _ _ HLN.out.symm HL1.out HL2.out HSR.out (fun t ht => (HGP.out t ht).1) (clo_at HD.out) HL3.out HL4.out).mono ?_;rintro _ w2 ⟨rfl,hw2⟩;subst hw2)
      | (go_at_call 72;refine (less_any ((P ++ oB :: (M ++ cB :: R)).map wt) xg xcap P.length (P.length + 1 + M.length) _ _ HM0.out HM1.out HM2.out hx2 HSR.out (by omega) (by omega)).mono ?_;rw [less_at];rintro _ w3 ⟨v3,rfl,ho3,hb3⟩;rw [hyl] at ho3;obtain ⟨yg,ycap,rfl,hy1,hy2,hy3,hy4⟩ := own_shapeP ho3 hpos;have hs3 := hb3.size;have HHY : Hid (HT w3 B n (.pointer (some ⟨p,0,none⟩)) g) := HHW.out.keep (belowHeld (hb3.mono (by omega)) B))
      | (go_at_call 73;refine (means_any (l := P ++ (M ++ R)) (c := c) HY0.out (HY1.out hpos) HY2.out (by rw [<- HY0.out];exact hy3) (by omega) (sr_own ho3) (fun t ht => (HGY.out t ht).1) (fun t ht => (HGY.out t ht).2) HHY.out (by omega) HSM.out HNC.out HE.out).mono ?_;rw [HSB.out];rintro _ w4 ⟨rfl,hb4⟩))
      go_roundg (M.length + 1 + R.length)
      case measure => simp;omega
      case rel => exact ⟨P ++ [oB],M ++ cB :: R,HML.out.symm,HR'.out,HGP.out.sub (fun t ht => by simpa using ht),by simp;omega,by simp,(by rw [show (P ++ [oB]) ++ (M ++ cB :: R) = P ++ oB :: (M ++ cB :: R) by simp,HLN.out];exact own_below (own_below HOW.out hb3) hb4),hbw.trans ((hb3.trans (hb4.mono hs3)).mono hsz)⟩
    ·clear HRR
     have HD : Hid (dep 0 M = some 0) := hd
     have HR' : Hid (Run (sh c) P (M ++ R) z) := hr'
     have e23 : ((wt oB).toList == [40]) = true := by rw [q23];rfl
     obtain ⟨tx,htx⟩ : ∃ tx,wt oB = tx := ⟨_,rfl⟩
     rw [htx] at c1 e23
     have hml : (M ++ cB :: R).length = M.length + 1 + R.length := by simp;omega
     rw [hml] at hlP hx3 HOW HLN ⊢
     have HL1 : Hid ((P ++ oB :: (M ++ cB :: R)).length <= 100000) := by show _ <= _;rw [HLN.out];omega
     have HL2 : Hid ((P ++ oB :: (M ++ cB :: R)).length <= xcap) := by show _ <= _;rw [HLN.out];omega
     have HL3 : Hid (P.length + 1 + M.length < (P ++ oB :: (M ++ cB :: R)).length) := by show _ < _;rw [HLN.out];omega
     have HL4 : Hid (((P ++ oB :: (M ++ cB :: R))[P.length]?.map Tk.k) = some 23) := by show _ = _;simp;rfl
     have HM0 : Hid (P.length + 1 + (M.length + 1 + R.length) = ((P ++ oB :: (M ++ cB :: R)).map wt).length) := by show _ = _;rw [List.length_map,HLN.out]
     have HM1 : Hid (((P ++ oB :: (M ++ cB :: R)).map wt).length <= 100000) := by show _ <= _;rw [List.length_map];exact HL1.out
     have HM2 : Hid (((P ++ oB :: (M ++ cB :: R)).map wt).length <= xcap) := by show _ <= _;rw [List.length_map];exact HL2.out
     have HY0 : Hid (P.length + M.length + R.length = (P ++ (M ++ R)).length) := by show _ = _;simp;omega
     have HY1 : Hid (P.length + M.length + R.length >= 1 -> 1 <= (P ++ (M ++ R)).length) := fun h => by rw [<- HY0.out];exact h
     have HY2 : Hid ((P ++ (M ++ R)).length <= 90000) := by show _ <= _;rw [<- HY0.out];omega
     have hyl : ((P ++ (M ++ R)).map wt).length = P.length + M.length + R.length := by simp;omega
     have hpos : 1 <= P.length + M.length + R.length := by
      rcases Nat.eq_zero_or_pos (P.length + M.length + R.length) with h0 | h0
      ·exfalso
       have e : P ++ (M ++ R) = [] := List.eq_nil_of_length_eq_zero (by rw [List.length_append,List.length_append];omega)
       rw [e] at hsy
       exact says_nil hsy
      ·exact h0
     have hgtz : (0 : Int) < ((P.length + M.length + R.length : Nat) : Int) := by omega
     have HSB : Hid (saysB (P ++ (M ++ R)) (sh c) = true) := saysB_iff.2 hsy
     have HGY : Hid (GC (P ++ (M ++ R))) := HGP.out.sub (fun t ht => by simp at ht ⊢;rcases ht with h | h | h <;> simp [h])
     clear q23 hd hr' hgx hcx htx hml hsy
     go_wp2_with (first
      | (go_at_call 71;refine (closing_any (P ++ oB :: (M ++ cB :: R)) xg xcap P.length (P.length + 1 + M.length) _ _ HLN.out.symm HL1.out HL2.out HSR.out (fun t ht => (HGP.out t ht).1) (clo_at HD.out) HL3.out HL4.out).mono ?_;rintro _ w2 ⟨rfl,hw2⟩;subst hw2)
      | (go_at_call 72;refine (less_any ((P ++ oB :: (M ++ cB :: R)).map wt) xg xcap P.length (P.length + 1 + M.length) _ _ HM0.out HM1.out HM2.out hx2 HSR.out (by omega) (by omega)).mono ?_;rw [less_at];rintro _ w3 ⟨v3,rfl,ho3,hb3⟩;rw [hyl] at ho3;obtain ⟨yg,ycap,rfl,hy1,hy2,hy3,hy4⟩ := own_shapeP ho3 hpos;have hs3 := hb3.size;have HHY : Hid (HT w3 B n (.pointer (some ⟨p,0,none⟩)) g) := HHW.out.keep (belowHeld (hb3.mono (by omega)) B))
      | (go_at_call 73;refine (means_any (l := P ++ (M ++ R)) (c := c) HY0.out (HY1.out hpos) HY2.out (by rw [<- HY0.out];exact hy3) (by omega) (sr_own ho3) (fun t ht => (HGY.out t ht).1) (fun t ht => (HGY.out t ht).2) HHY.out (by omega) HSM.out HNC.out HE.out).mono ?_;rw [HSB.out];rintro _ w4 ⟨rfl,hb4⟩))
     go_roundg (M.length + R.length)
     case measure => simp;omega
     case rel => exact ⟨P,M ++ R,by simp,HR'.out,HGY.out,by simp;omega,rfl,(by rw [show (P ++ (M ++ R)).length = P.length + M.length + R.length by simp;omega];exact own_mono (own_below ho3 hb4) hsz),hbw.trans ((hb3.trans (hb4.mono hs3)).mono hsz)⟩
end Go.Proofs.YtmkdoejpgkgpbaaGreatDoor
