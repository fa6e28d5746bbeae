import Derived.Test.YtmkdoejpgkgpbaaGreatDoorS11
set_option linter.unusedVariables false
set_option linter.unusedSimpArgs false
set_option maxHeartbeats 20000000
namespace Go.Proofs.YtmkdoejpgkgpbaaGreatDoor
open Go.RowKit Sl
def kdAt (L : List Tok) (i : Nat) : Nat := (L[i]?.map Tok.k).getD 0
def ddAt (L : List Tok) (i : Nat) : Int := ((dsF 0 L)[i]?).getD 0
def hitS (cls p k : Nat) : Bool :=
 if cls = 26 then ((nameK k).toList == [59]) else if cls = 27 then cmpS (nameK k) else if cls = 30 then ((nameK k).toList == [43] || (nameK k).toList == [45]) && Sl.ended p
 else (nameK k).toList == [42] || (nameK k).toList == [47] || (nameK k).toList == [37]
def splN (cls : Nat) (L : List Tok) : Nat -> Nat -> Nat -> Nat
 | 0,_,a => a
 | m + 1,i,a => splN cls L m (i + 1) (if ddAt L i = 0 /\ hitS cls (kdAt L (i - 1)) (kdAt L i) = true /\ (cls = 26 -> a = 0) then i else a)
theorem own_shapeP {wr : World} {B n : Nat} {e : TypeId} {v : Value} {xs : List Value} (h : wr.ownsRow B e 1 v n xs) (h1 : 1 <= n) : ∃ g cap,v = .slice (some ⟨g,0,none⟩) n cap /\ B <= g /\ g < wr.heap.size /\ n <= cap /\ cap <= maxLen := by
 obtain ⟨m,rfl⟩ : ∃ m,n = m + 1 := ⟨n - 1,by omega⟩
 exact own_shape h
theorem kdAt_eq (L : List Tok) (i : Nat) (h : i < L.length) : kdAt L i = L[i].k := by simp [kdAt,h]
theorem ddAt_cell {w : World} {B g cap : Nat} {L : List Tok} (h : w.ownsRow B 3 1 (.slice (some ⟨g,0,none⟩) L.length cap) L.length ((dsF 0 L).map (Value.int .i64))) (i : Nat) (hi : i < L.length) : w.cell? ⟨g,i,none⟩ = some (.int .i64 (ddAt L i)) := by
 rw [h.cellAt i (by omega)]
 have : i < (dsF 0 L).length := by rw [dsF_len];exact hi
 simp [ddAt,this]
set_option maxRecDepth 100000 in
theorem split_26 (L : List Tok) (b off cap : Nat) (w : World) (hL : L.length <= 100000) (hL1 : 1 <= L.length) (hc : L.length <= cap) (hb : b < w.heap.size) (hr : RW w b off L) (hok : ∀ t ∈ L,okTok t) :
 Calls Tryz.prog 118 #[.slice (some ⟨b,off,none⟩) L.length cap,.string ⟨#[59]⟩] w fun e w' => e = .returned (.int .i64 ((splN 26 L (L.length - 1) 1 0 : Nat) : Int)) /\ Below w.heap.size w w' := by
 have HR : Hid (RW w b off L) := hr
 have HK : Hid (∀ t ∈ L,okTok t) := hok
 clear hr hok
 obtain ⟨z,hz⟩ : ∃ z,z = splN 26 L (L.length - 1) 1 0 := ⟨_,rfl⟩
 rw [<- hz]
 have HZ : Hid (z = splN 26 L (L.length - 1) 1 0) := hz
 clear hz
 go_enter Tryz.func118,Tryz.ntmps118
 go_wp2_with (go_at_call 186;refine (depths_any L b off cap w hL hc hb HR.out HK.out).mono ?_;rintro e w1 ⟨v,rfl,hv,hb1⟩;obtain ⟨gd,dcap,rfl,hd1,hd2,hd3,hd4⟩ := own_shapeP hv hL1)
 have hd3' := hd3
 have HV : Hid (w1.ownsRow w.heap.size 3 1 (.slice (some ⟨gd,0,none⟩) L.length dcap) L.length ((dsF 0 L).map (Value.int .i64))) := hv
 have HRW : Hid (RW w1 b off L) := HR.out.below hb1 hb
 clear hv hd3 hd4 hd1
 go_loop [6,7] (fun u v => ∃ a i : Nat,1 <= i /\ i <= L.length /\ a <= L.length /\ splN 26 L (L.length - i) i a = z /\ u = .int .i64 a /\ v = .int .i64 i) (fun _ v => L.length - (intOf v).toNat)
 case atStart => exact ⟨0,1,Nat.le_refl _,hL1,Nat.zero_le _,HZ.out.symm,rfl,rfl⟩
 case round =>
  obtain ⟨a,i,hi1,hi,hal,hs,rfl,rfl⟩ := hrel
  have HS : Hid (splN 26 L (L.length - i) i a = z) := hs
  clear hs
  by_cases hlt : i < L.length
  ·obtain ⟨c1,_,_⟩ := HRW.out i hlt
   obtain ⟨p1,_,_⟩ := HRW.out (i - 1) (by omega)
   obtain ⟨hkn,hk35⟩ := HK.out L[i] (by simp)
   obtain ⟨hpn,hp35⟩ := HK.out L[i - 1] (by simp)
   have hdd := ddAt_cell HV.out i hlt
   rw [hkn] at c1
   rw [hpn] at p1
   obtain ⟨kk,hkk⟩ : ∃ kk,L[i].k = kk := ⟨_,rfl⟩
   obtain ⟨pp,hpp⟩ : ∃ pp,L[i - 1].k = pp := ⟨_,rfl⟩
   obtain ⟨dv,hdv⟩ : ∃ dv,ddAt L i = dv := ⟨_,rfl⟩
   rw [hkk] at c1 hk35
   rw [hpp] at p1 hp35
   rw [hdv] at hdd
   have HST : Hid (splN 26 L (L.length - (i + 1)) (i + 1) (if dv = 0 /\ hitS 26 pp kk = true /\ (26 = 26 -> a = 0) then i else a) = z) := by
    show _ = _
    have := HS.out
    rw [show L.length - i = (L.length - (i + 1)) + 1 by omega,splN,hdv,kdAt_eq L i hlt,kdAt_eq L (i - 1) (by omega),hkk,hpp] at this
    exact this
   clear hkn hpn hkk hpp hdv
   by_cases hd0 : dv = 0
   ·have HD0 : Hid (dv = 0) := hd0
    rw [hd0] at hdd
    clear hd0
    obtain ⟨z0,hz0⟩ : ∃ z0 : Nat,z0 = a := ⟨a,rfl⟩
    by_cases ha0 : a = 0
    all_goals
     cases t0 : ((nameK kk).toList == [59])
     all_goals
      go_wp2_with (first | (go_at_call 184;refine (compares_any _ _).mono ?_;rintro e w' ⟨rfl,hw'⟩;subst hw') | (go_at_call 187;refine (ended_any hp35 _).mono ?_;rintro e w' ⟨rfl,hw'⟩;subst hw'))
      all_goals go_round
      case rel => first | exact ⟨i,i + 1,by omega,by omega,by omega,(by have h := HST.out;rw [if_pos ⟨HD0.out,by simp [hitS,t0],by simp [ha0]⟩] at h;exact h),rfl,by go_num⟩ | exact ⟨a,i + 1,by omega,by omega,by omega,(by have h := HST.out;rw [if_neg (by simp [hitS,t0,ha0])] at h;exact h),(by first | rfl | (rw [ha0];rfl)),by go_num⟩
      case measure => simp [intOf];omega
   ·have hd0' : (dv != 0) = true := by simpa using hd0
    have HD0 : Hid (¬ dv = 0) := hd0
    clear hd0
    go_wp2_with fail
    go_round
    case rel => exact ⟨a,i + 1,by omega,by omega,by omega,(by have h := HST.out;rw [if_neg (fun h' => HD0.out h'.1)] at h;exact h),rfl,by go_num⟩
    case measure => simp [intOf];omega
  ·have hzz : Hid (a = z) := by
    show _ = _
    have := HS.out
    rw [show L.length - i = 0 by omega,splN] at this
    exact this
   go_wp2_with fail
   go_ret
   exact ⟨ret_int (by rw [hzz.out]),hb1⟩
set_option maxRecDepth 100000 in
theorem split_27 (L : List Tok) (b off cap : Nat) (w : World) (hL : L.length <= 100000) (hL1 : 1 <= L.length) (hc : L.length <= cap) (hb : b < w.heap.size) (hr : RW w b off L) (hok : ∀ t ∈ L,okTok t) :
 Calls Tryz.prog 118 #[.slice (some ⟨b,off,none⟩) L.length cap,.string ⟨#[61]⟩] w fun e w' => e = .returned (.int .i64 ((splN 27 L (L.length - 1) 1 0 : Nat) : Int)) /\ Below w.heap.size w w' := by
 have HR : Hid (RW w b off L) := hr
 have HK : Hid (∀ t ∈ L,okTok t) := hok
 clear hr hok
 obtain ⟨z,hz⟩ : ∃ z,z = splN 27 L (L.length - 1) 1 0 := ⟨_,rfl⟩
 rw [<- hz]
 have HZ : Hid (z = splN 27 L (L.length - 1) 1 0) := hz
 clear hz
 go_enter Tryz.func118,Tryz.ntmps118
 go_wp2_with (go_at_call 186;refine (depths_any L b off cap w hL hc hb HR.out HK.out).mono ?_;rintro e w1 ⟨v,rfl,hv,hb1⟩;obtain ⟨gd,dcap,rfl,hd1,hd2,hd3,hd4⟩ := own_shapeP hv hL1)
 have hd3' := hd3
 have HV : Hid (w1.ownsRow w.heap.size 3 1 (.slice (some ⟨gd,0,none⟩) L.length dcap) L.length ((dsF 0 L).map (Value.int .i64))) := hv
 have HRW : Hid (RW w1 b off L) := HR.out.below hb1 hb
 clear hv hd3 hd4 hd1
 go_loop [6,7] (fun u v => ∃ a i : Nat,1 <= i /\ i <= L.length /\ a <= L.length /\ splN 27 L (L.length - i) i a = z /\ u = .int .i64 a /\ v = .int .i64 i) (fun _ v => L.length - (intOf v).toNat)
 case atStart => exact ⟨0,1,Nat.le_refl _,hL1,Nat.zero_le _,HZ.out.symm,rfl,rfl⟩
 case round =>
  obtain ⟨a,i,hi1,hi,hal,hs,rfl,rfl⟩ := hrel
  have HS : Hid (splN 27 L (L.length - i) i a = z) := hs
  clear hs
  by_cases hlt : i < L.length
  ·obtain ⟨c1,_,_⟩ := HRW.out i hlt
   obtain ⟨p1,_,_⟩ := HRW.out (i - 1) (by omega)
   obtain ⟨hkn,hk35⟩ := HK.out L[i] (by simp)
   obtain ⟨hpn,hp35⟩ := HK.out L[i - 1] (by simp)
   have hdd := ddAt_cell HV.out i hlt
   rw [hkn] at c1
   rw [hpn] at p1
   obtain ⟨kk,hkk⟩ : ∃ kk,L[i].k = kk := ⟨_,rfl⟩
   obtain ⟨pp,hpp⟩ : ∃ pp,L[i - 1].k = pp := ⟨_,rfl⟩
   obtain ⟨dv,hdv⟩ : ∃ dv,ddAt L i = dv := ⟨_,rfl⟩
   rw [hkk] at c1 hk35
   rw [hpp] at p1 hp35
   rw [hdv] at hdd
   have HST : Hid (splN 27 L (L.length - (i + 1)) (i + 1) (if dv = 0 /\ hitS 27 pp kk = true /\ (27 = 26 -> a = 0) then i else a) = z) := by
    show _ = _
    have := HS.out
    rw [show L.length - i = (L.length - (i + 1)) + 1 by omega,splN,hdv,kdAt_eq L i hlt,kdAt_eq L (i - 1) (by omega),hkk,hpp] at this
    exact this
   clear hkn hpn hkk hpp hdv
   by_cases hd0 : dv = 0
   ·have HD0 : Hid (dv = 0) := hd0
    rw [hd0] at hdd
    clear hd0
    obtain ⟨z0,hz0⟩ : ∃ z0 : Nat,z0 = a := ⟨a,rfl⟩
    by_cases ha0 : a = 0
    all_goals
     cases t0 : cmpS (nameK kk)
     all_goals
      go_wp2_with (first | (go_at_call 184;refine (compares_any _ _).mono ?_;rintro e w' ⟨rfl,hw'⟩;subst hw') | (go_at_call 187;refine (ended_any hp35 _).mono ?_;rintro e w' ⟨rfl,hw'⟩;subst hw'))
      all_goals go_round
      case rel => first | exact ⟨i,i + 1,by omega,by omega,by omega,(by have h := HST.out;rw [if_pos ⟨HD0.out,by simp [hitS,t0],by simp [ha0]⟩] at h;exact h),rfl,by go_num⟩ | exact ⟨a,i + 1,by omega,by omega,by omega,(by have h := HST.out;rw [if_neg (by simp [hitS,t0,ha0])] at h;exact h),(by first | rfl | (rw [ha0];rfl)),by go_num⟩
      case measure => simp [intOf];omega
   ·have hd0' : (dv != 0) = true := by simpa using hd0
    have HD0 : Hid (¬ dv = 0) := hd0
    clear hd0
    go_wp2_with fail
    go_round
    case rel => exact ⟨a,i + 1,by omega,by omega,by omega,(by have h := HST.out;rw [if_neg (fun h' => HD0.out h'.1)] at h;exact h),rfl,by go_num⟩
    case measure => simp [intOf];omega
  ·have hzz : Hid (a = z) := by
    show _ = _
    have := HS.out
    rw [show L.length - i = 0 by omega,splN] at this
    exact this
   go_wp2_with fail
   go_ret
   exact ⟨ret_int (by rw [hzz.out]),hb1⟩
set_option maxRecDepth 100000 in
theorem split_30 (L : List Tok) (b off cap : Nat) (w : World) (hL : L.length <= 100000) (hL1 : 1 <= L.length) (hc : L.length <= cap) (hb : b < w.heap.size) (hr : RW w b off L) (hok : ∀ t ∈ L,okTok t) :
 Calls Tryz.prog 118 #[.slice (some ⟨b,off,none⟩) L.length cap,.string ⟨#[43]⟩] w fun e w' => e = .returned (.int .i64 ((splN 30 L (L.length - 1) 1 0 : Nat) : Int)) /\ Below w.heap.size w w' := by
 have HR : Hid (RW w b off L) := hr
 have HK : Hid (∀ t ∈ L,okTok t) := hok
 clear hr hok
 obtain ⟨z,hz⟩ : ∃ z,z = splN 30 L (L.length - 1) 1 0 := ⟨_,rfl⟩
 rw [<- hz]
 have HZ : Hid (z = splN 30 L (L.length - 1) 1 0) := hz
 clear hz
 go_enter Tryz.func118,Tryz.ntmps118
 go_wp2_with (go_at_call 186;refine (depths_any L b off cap w hL hc hb HR.out HK.out).mono ?_;rintro e w1 ⟨v,rfl,hv,hb1⟩;obtain ⟨gd,dcap,rfl,hd1,hd2,hd3,hd4⟩ := own_shapeP hv hL1)
 have hd3' := hd3
 have HV : Hid (w1.ownsRow w.heap.size 3 1 (.slice (some ⟨gd,0,none⟩) L.length dcap) L.length ((dsF 0 L).map (Value.int .i64))) := hv
 have HRW : Hid (RW w1 b off L) := HR.out.below hb1 hb
 clear hv hd3 hd4 hd1
 go_loop [6,7] (fun u v => ∃ a i : Nat,1 <= i /\ i <= L.length /\ a <= L.length /\ splN 30 L (L.length - i) i a = z /\ u = .int .i64 a /\ v = .int .i64 i) (fun _ v => L.length - (intOf v).toNat)
 case atStart => exact ⟨0,1,Nat.le_refl _,hL1,Nat.zero_le _,HZ.out.symm,rfl,rfl⟩
 case round =>
  obtain ⟨a,i,hi1,hi,hal,hs,rfl,rfl⟩ := hrel
  have HS : Hid (splN 30 L (L.length - i) i a = z) := hs
  clear hs
  by_cases hlt : i < L.length
  ·obtain ⟨c1,_,_⟩ := HRW.out i hlt
   obtain ⟨p1,_,_⟩ := HRW.out (i - 1) (by omega)
   obtain ⟨hkn,hk35⟩ := HK.out L[i] (by simp)
   obtain ⟨hpn,hp35⟩ := HK.out L[i - 1] (by simp)
   have hdd := ddAt_cell HV.out i hlt
   rw [hkn] at c1
   rw [hpn] at p1
   obtain ⟨kk,hkk⟩ : ∃ kk,L[i].k = kk := ⟨_,rfl⟩
   obtain ⟨pp,hpp⟩ : ∃ pp,L[i - 1].k = pp := ⟨_,rfl⟩
   obtain ⟨dv,hdv⟩ : ∃ dv,ddAt L i = dv := ⟨_,rfl⟩
   rw [hkk] at c1 hk35
   rw [hpp] at p1 hp35
   rw [hdv] at hdd
   have HST : Hid (splN 30 L (L.length - (i + 1)) (i + 1) (if dv = 0 /\ hitS 30 pp kk = true /\ (30 = 26 -> a = 0) then i else a) = z) := by
    show _ = _
    have := HS.out
    rw [show L.length - i = (L.length - (i + 1)) + 1 by omega,splN,hdv,kdAt_eq L i hlt,kdAt_eq L (i - 1) (by omega),hkk,hpp] at this
    exact this
   clear hkn hpn hkk hpp hdv
   by_cases hd0 : dv = 0
   ·have HD0 : Hid (dv = 0) := hd0
    rw [hd0] at hdd
    clear hd0
    obtain ⟨z0,hz0⟩ : ∃ z0 : Nat,z0 = a := ⟨a,rfl⟩
    by_cases ha0 : a = 0
    all_goals
     cases t0 : ((nameK kk).toList == [43])
     all_goals
      cases t1 : ((nameK kk).toList == [45])
      all_goals
       cases t2 : Sl.ended pp
       all_goals
        go_wp2_with (first | (go_at_call 184;refine (compares_any _ _).mono ?_;rintro e w' ⟨rfl,hw'⟩;subst hw') | (go_at_call 187;refine (ended_any hp35 _).mono ?_;rintro e w' ⟨rfl,hw'⟩;subst hw'))
        all_goals go_round
        case rel => first | exact ⟨i,i + 1,by omega,by omega,by omega,(by have h := HST.out;rw [if_pos ⟨HD0.out,by simp [hitS,t0,t1,t2],by simp [ha0]⟩] at h;exact h),rfl,by go_num⟩ | exact ⟨a,i + 1,by omega,by omega,by omega,(by have h := HST.out;rw [if_neg (by simp [hitS,t0,t1,t2,ha0])] at h;exact h),(by first | rfl | (rw [ha0];rfl)),by go_num⟩
        case measure => simp [intOf];omega
   ·have hd0' : (dv != 0) = true := by simpa using hd0
    have HD0 : Hid (¬ dv = 0) := hd0
    clear hd0
    go_wp2_with fail
    go_round
    case rel => exact ⟨a,i + 1,by omega,by omega,by omega,(by have h := HST.out;rw [if_neg (fun h' => HD0.out h'.1)] at h;exact h),rfl,by go_num⟩
    case measure => simp [intOf];omega
  ·have hzz : Hid (a = z) := by
    show _ = _
    have := HS.out
    rw [show L.length - i = 0 by omega,splN] at this
    exact this
   go_wp2_with fail
   go_ret
   exact ⟨ret_int (by rw [hzz.out]),hb1⟩
set_option maxRecDepth 100000 in
theorem split_32 (L : List Tok) (b off cap : Nat) (w : World) (hL : L.length <= 100000) (hL1 : 1 <= L.length) (hc : L.length <= cap) (hb : b < w.heap.size) (hr : RW w b off L) (hok : ∀ t ∈ L,okTok t) :
 Calls Tryz.prog 118 #[.slice (some ⟨b,off,none⟩) L.length cap,.string ⟨#[42]⟩] w fun e w' => e = .returned (.int .i64 ((splN 32 L (L.length - 1) 1 0 : Nat) : Int)) /\ Below w.heap.size w w' := by
 have HR : Hid (RW w b off L) := hr
 have HK : Hid (∀ t ∈ L,okTok t) := hok
 clear hr hok
 obtain ⟨z,hz⟩ : ∃ z,z = splN 32 L (L.length - 1) 1 0 := ⟨_,rfl⟩
 rw [<- hz]
 have HZ : Hid (z = splN 32 L (L.length - 1) 1 0) := hz
 clear hz
 go_enter Tryz.func118,Tryz.ntmps118
 go_wp2_with (go_at_call 186;refine (depths_any L b off cap w hL hc hb HR.out HK.out).mono ?_;rintro e w1 ⟨v,rfl,hv,hb1⟩;obtain ⟨gd,dcap,rfl,hd1,hd2,hd3,hd4⟩ := own_shapeP hv hL1)
 have hd3' := hd3
 have HV : Hid (w1.ownsRow w.heap.size 3 1 (.slice (some ⟨gd,0,none⟩) L.length dcap) L.length ((dsF 0 L).map (Value.int .i64))) := hv
 have HRW : Hid (RW w1 b off L) := HR.out.below hb1 hb
 clear hv hd3 hd4 hd1
 go_loop [6,7] (fun u v => ∃ a i : Nat,1 <= i /\ i <= L.length /\ a <= L.length /\ splN 32 L (L.length - i) i a = z /\ u = .int .i64 a /\ v = .int .i64 i) (fun _ v => L.length - (intOf v).toNat)
 case atStart => exact ⟨0,1,Nat.le_refl _,hL1,Nat.zero_le _,HZ.out.symm,rfl,rfl⟩
 case round =>
  obtain ⟨a,i,hi1,hi,hal,hs,rfl,rfl⟩ := hrel
  have HS : Hid (splN 32 L (L.length - i) i a = z) := hs
  clear hs
  by_cases hlt : i < L.length
  ·obtain ⟨c1,_,_⟩ := HRW.out i hlt
   obtain ⟨p1,_,_⟩ := HRW.out (i - 1) (by omega)
   obtain ⟨hkn,hk35⟩ := HK.out L[i] (by simp)
   obtain ⟨hpn,hp35⟩ := HK.out L[i - 1] (by simp)
   have hdd := ddAt_cell HV.out i hlt
   rw [hkn] at c1
   rw [hpn] at p1
   obtain ⟨kk,hkk⟩ : ∃ kk,L[i].k = kk := ⟨_,rfl⟩
   obtain ⟨pp,hpp⟩ : ∃ pp,L[i - 1].k = pp := ⟨_,rfl⟩
   obtain ⟨dv,hdv⟩ : ∃ dv,ddAt L i = dv := ⟨_,rfl⟩
   rw [hkk] at c1 hk35
   rw [hpp] at p1 hp35
   rw [hdv] at hdd
   have HST : Hid (splN 32 L (L.length - (i + 1)) (i + 1) (if dv = 0 /\ hitS 32 pp kk = true /\ (32 = 26 -> a = 0) then i else a) = z) := by
    show _ = _
    have := HS.out
    rw [show L.length - i = (L.length - (i + 1)) + 1 by omega,splN,hdv,kdAt_eq L i hlt,kdAt_eq L (i - 1) (by omega),hkk,hpp] at this
    exact this
   clear hkn hpn hkk hpp hdv
   by_cases hd0 : dv = 0
   ·have HD0 : Hid (dv = 0) := hd0
    rw [hd0] at hdd
    clear hd0
    obtain ⟨z0,hz0⟩ : ∃ z0 : Nat,z0 = a := ⟨a,rfl⟩
    by_cases ha0 : a = 0
    all_goals
     cases t0 : ((nameK kk).toList == [42])
     all_goals
      cases t1 : ((nameK kk).toList == [47])
      all_goals
       cases t2 : ((nameK kk).toList == [37])
       all_goals
        go_wp2_with (first | (go_at_call 184;refine (compares_any _ _).mono ?_;rintro e w' ⟨rfl,hw'⟩;subst hw') | (go_at_call 187;refine (ended_any hp35 _).mono ?_;rintro e w' ⟨rfl,hw'⟩;subst hw'))
        all_goals go_round
        case rel => first | exact ⟨i,i + 1,by omega,by omega,by omega,(by have h := HST.out;rw [if_pos ⟨HD0.out,by simp [hitS,t0,t1,t2],by simp [ha0]⟩] at h;exact h),rfl,by go_num⟩ | exact ⟨a,i + 1,by omega,by omega,by omega,(by have h := HST.out;rw [if_neg (by simp [hitS,t0,t1,t2,ha0])] at h;exact h),(by first | rfl | (rw [ha0];rfl)),by go_num⟩
        case measure => simp [intOf];omega
   ·have hd0' : (dv != 0) = true := by simpa using hd0
    have HD0 : Hid (¬ dv = 0) := hd0
    clear hd0
    go_wp2_with fail
    go_round
    case rel => exact ⟨a,i + 1,by omega,by omega,by omega,(by have h := HST.out;rw [if_neg (fun h' => HD0.out h'.1)] at h;exact h),rfl,by go_num⟩
    case measure => simp [intOf];omega
  ·have hzz : Hid (a = z) := by
    show _ = _
    have := HS.out
    rw [show L.length - i = 0 by omega,splN] at this
    exact this
   go_wp2_with fail
   go_ret
   exact ⟨ret_int (by rw [hzz.out]),hb1⟩
end Go.Proofs.YtmkdoejpgkgpbaaGreatDoor
