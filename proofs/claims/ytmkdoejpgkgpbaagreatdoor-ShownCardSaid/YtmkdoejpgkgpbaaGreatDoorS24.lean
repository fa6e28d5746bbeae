import Derived.Test.YtmkdoejpgkgpbaaGreatDoorS23
import Derived.Deep.Draws
import Derived.Deep.QuietTactic
import Derived.BigQuiet
import Derived.Deep.LoopGhost
set_option linter.unusedVariables false
set_option linter.unusedSimpArgs false
set_option maxHeartbeats 20000000
namespace Go.Proofs.YtmkdoejpgkgpbaaGreatDoor
open Go.RowKit Sl
theorem row_any' {w : World} {B n : Nat} {v : Value} {xs : List Value} (h : RowAt w B n v xs) : ∃ ad cap,v = .slice ad xs.length cap /\ xs.length <= cap + xs.length /\ (1 <= xs.length -> ∃ g off,ad = some ⟨g,off,none⟩ /\ xs.length <= cap /\ ∀ i u,xs[i]? = some u -> w.cell? ⟨g,off + i,none⟩ = some u) := by
 rcases h with ⟨h,a,cap,rfl⟩ | ⟨g,off,cap,h1,_,_,h4,h5⟩
 ·subst h;exact ⟨a,cap,rfl,by omega,fun h => by simp at h⟩
 ·exact ⟨_,cap,h1,by omega,fun _ => ⟨g,off,rfl,h4,h5⟩⟩
theorem beq_str {a b : ByteArray} : (a.toList == b.toList) = true ↔ a = b := by
 constructor
 ·intro h;exact toList_inj (by simpa using h)
 ·intro h;subst h;simp
theorem beq_str_ne {a b : ByteArray} (h : a ≠ b) : (a.toList == b.toList) = false := by
 cases hh : (a.toList == b.toList)
 ·rfl
 ·exact absurd (beq_str.1 hh) h
theorem drwq (w : World) (a b : Nat) : (w.drewN a).drewN b = w.drewN (a + b) := World.drewN_drewN w a b
structure SameQ (f f' : ByteArray) (num num' : Int) (name name' : ByteArray) (names names' : List ByteArray) (K K' : Nat) (sb : Nat -> Bool) : Prop where
 f : f = f'
 num : num = num'
 name : name = name'
 names : names = names'
 len : K = K'
 kids : ∀ i,i < K -> sb i = true
theorem x_false {X : Bool} {P : Prop} (hX : X = true ↔ P) (h : ¬ P) : X = false := by
 cases X
 ·rfl
 ·exact absurd (hX.1 rfl) h
set_option maxRecDepth 100000 in
theorem same_walk {w : World} {b b' B n B' n' : Nat} {f f' name name' : ByteArray} {pos pos' num num' : Int} {names names' : List ByteArray} {nv nv' kv kv' : Value} {ps ps' : List Value} {sb : Nat -> Bool} {X : Bool}
 (hblk : w.heap[b]? = some (.cells #[.string f,.int .i64 pos,.int .i64 num,.string name,nv,kv] 205 (0,0)))
 (hblk' : w.heap[b']? = some (.cells #[.string f',.int .i64 pos',.int .i64 num',.string name',nv',kv'] 205 (0,0)))
 (hnv : RowAt w B n nv (names.map Value.string)) (hnv' : RowAt w B' n' nv' (names'.map Value.string)) (hkv : RowAt w B n kv ps) (hkv' : RowAt w B' n' kv' ps')
 (hsm : ∀ i u u',ps[i]? = some u -> ps'[i]? = some u' -> (∃ p,u = .pointer (some ⟨p,0,none⟩)) /\ (∃ p,u' = .pointer (some ⟨p,0,none⟩)) /\ ∀ q,Calls Tryz.prog 123 #[u,u'] (w.drewN q) fun e w' => e = .returned (.bool (sb i)) /\ ∃ r,w' = (w.drewN q).drewN r)
 (hX : X = true ↔ SameQ f f' num num' name name' names names' ps.length ps'.length sb) (hNm : names.length <= 100000) (hKm : ps.length <= 100000) :
 Calls Tryz.prog 123 #[.pointer (some ⟨b,0,none⟩),.pointer (some ⟨b',0,none⟩)] w fun e w' => e = .returned (.bool X) /\ ∃ q,w' = w.drewN q := by
 have c0 := blk_at hblk 0 rfl
 have c2 := blk_at hblk 2 rfl
 have c3 := blk_at hblk 3 rfl
 have c4 := blk_at hblk 4 rfl
 have c5 := blk_at hblk 5 rfl
 have d0 := blk_at hblk' 0 rfl
 have d2 := blk_at hblk' 2 rfl
 have d3 := blk_at hblk' 3 rfl
 have d4 := blk_at hblk' 4 rfl
 have d5 := blk_at hblk' 5 rfl
 simp only [List.getElem_toArray,List.getElem_cons_zero,List.getElem_cons_succ] at c0 c2 c3 c4 c5 d0 d2 d3 d4 d5
 have HX : Hid (X = true ↔ SameQ f f' num num' name name' names names' ps.length ps'.length sb) := hX
 obtain ⟨na,nc,rfl,_,hn1⟩ := row_any' hnv
 obtain ⟨na',nc',rfl,_,hn1'⟩ := row_any' hnv'
 obtain ⟨ka,kc,rfl,_,hk1⟩ := row_any' hkv
 obtain ⟨ka',kc',rfl,_,hk1'⟩ := row_any' hkv'
 rw [List.length_map] at c4 d4
 have HSM : Hid (∀ i u u',ps[i]? = some u -> ps'[i]? = some u' -> (∃ p,u = .pointer (some ⟨p,0,none⟩)) /\ (∃ p,u' = .pointer (some ⟨p,0,none⟩)) /\ ∀ q,Calls Tryz.prog 123 #[u,u'] (w.drewN q) fun e w' => e = .returned (.bool (sb i)) /\ ∃ r,w' = (w.drewN q).drewN r) := hsm
 clear hblk hblk' hX hnv hnv' hkv hkv' hsm
 by_cases hf : f = f'
 ·subst hf
  by_cases hnum : num = num'
  ·subst hnum
   by_cases hname : name = name'
   ·subst hname
    by_cases hnl : names.length = names'.length
    ·rw [<- hnl] at d4
     by_cases hkl : ps.length = ps'.length
     ·rw [<- hkl] at d5
      rw [List.length_map] at hn1 hn1'
      have HN1 : Hid (1 <= names.length -> _) := hn1
      have HN1' : Hid (1 <= names'.length -> _) := hn1'
      have HK1 : Hid (1 <= ps.length -> _) := hk1
      have HK1' : Hid (1 <= ps'.length -> _) := hk1'
      have HNL : Hid (names.length = names'.length) := hnl
      have HKL : Hid (ps.length = ps'.length) := hkl
      clear hn1 hn1' hk1 hk1' hnl hkl
      go_enter Tryz.func123,Tryz.ntmps123
      go_upto_region 1 with fail
      go_quiet (fail)
      go_upto_region 3 with fail
      go_quiet (fail)
      go_wp2_with fail
      go_loopg [5] names.length (fun gh s5 (wx : World) => ∃ i q : Nat,i <= names.length /\ gh = names.length - i /\ s5 = .int .i64 i /\ (∀ j,j < i -> names[j]? = names'[j]?) /\ wx = w.drewN q)
      case atStart => exact ⟨0,_,Nat.zero_le _,rfl,rfl,fun j hj => by omega,by first | exact drwq _ _ _ | rfl⟩
      case round =>
       obtain ⟨i,q,hi,rfl,rfl,hall,rfl⟩ := hrel
       have HALL : Hid (∀ j,j < i -> names[j]? = names'[j]?) := hall
       clear hall
       by_cases hlt : i < names.length
       ·obtain ⟨ng,noff,hna,hnc,hncell⟩ := HN1.out (by omega)
        obtain ⟨ng',noff',hna',hnc',hncell'⟩ := HN1'.out (by have := HNL.out;omega)
        subst hna hna'
        have hi' : i < names'.length := by have := HNL.out;omega
        have e1 := hncell i (.string names[i]) (by simp [hlt])
        have e2 := hncell' i (.string names'[i]) (by simp [hi'])
        have hnc2 : names.length <= nc' := by have := HNL.out;omega
        clear hncell hncell'
        by_cases heq : names[i] = names'[i]
        ·have HNX : Hid (∀ j,j < i + 1 -> names[j]? = names'[j]?) := fun j hj => by
          rcases Nat.lt_succ_iff_lt_or_eq.1 hj with h | h
          ·exact HALL.out j h
          ·subst h;rw [List.getElem?_eq_getElem hlt,List.getElem?_eq_getElem hi',heq]
         rw [<- heq] at e2
         obtain ⟨tx,htx⟩ : ∃ tx,names[i] = tx := ⟨_,rfl⟩
         rw [htx] at e1 e2
         clear heq htx
         go_upto_region 8 with fail
         go_quiet (fail)
         go_wp2_with fail
         go_roundg (names.length - (i + 1))
         case measure => omega
         case rel => exact ⟨i + 1,_,by omega,rfl,by go_num,HNX.out,by first | exact drwq _ _ _ | rfl⟩
        ·have hsb := beq_str_ne heq
         have HF : Hid (X = false) := x_false HX.out (fun h => heq (by have := h.names;subst this;rfl))
         obtain ⟨tx,htx⟩ : ∃ tx,names[i] = tx := ⟨_,rfl⟩
         obtain ⟨ty,hty⟩ : ∃ ty,names'[i] = ty := ⟨_,rfl⟩
         rw [htx] at e1 hsb
         rw [hty] at e2 hsb
         clear heq htx hty
         go_upto_region 8 with fail
         go_quiet (fail)
         go_wp2_with fail
         go_ret
         exact ⟨by rw [HF.out];rfl,by first | exact ⟨_,drwq _ _ _⟩ | exact ⟨_,rfl⟩⟩
       ·have HNE : Hid (names = names') := by
         refine List.ext_getElem? fun j => ?_
         by_cases hj : j < i
         ·exact HALL.out j hj
         ·have := HNL.out
          rw [List.getElem?_eq_none (by omega),List.getElem?_eq_none (by omega)]
        clear HALL
        go_wp2_with fail
        go_loopg [6] ps.length (fun gh s6 (wx : World) => ∃ i q : Nat,i <= ps.length /\ gh = ps.length - i /\ s6 = .int .i64 i /\ (∀ j,j < i -> sb j = true) /\ wx = w.drewN q)
        case atStart => exact ⟨0,_,Nat.zero_le _,rfl,rfl,fun j hj => by omega,by first | exact drwq _ _ _ | rfl⟩
        case round =>
         obtain ⟨k,q,hk,rfl,rfl,hall,hwq⟩ := hrel
         have HWQ : Hid (wr = w.drewN q) := hwq
         have c0' : wr.cell? ⟨b,0,none⟩ = _ := (congrArg (fun W => W.cell? ⟨b,0,none⟩) hwq).trans c0
         have c5' : wr.cell? ⟨b,5,none⟩ = _ := (congrArg (fun W => W.cell? ⟨b,5,none⟩) hwq).trans c5
         have d5' : wr.cell? ⟨b',5,none⟩ = _ := (congrArg (fun W => W.cell? ⟨b',5,none⟩) hwq).trans d5
         have HWC : Hid (∀ a,wr.cell? a = w.cell? a) := fun a => by rw [hwq];rfl
         clear hwq
         have HALL : Hid (∀ j,j < k -> sb j = true) := hall
         clear hall
         by_cases hltk : k < ps.length
         ·obtain ⟨kg,koff,hka,hkc,hkcell⟩ := HK1.out (by omega)
          obtain ⟨kg',koff',hka',hkc',hkcell'⟩ := HK1'.out (by have := HKL.out;omega)
          subst hka hka'
          have hk' : k < ps'.length := by have := HKL.out;omega
          have hkc2 : ps.length <= kc' := by have := HKL.out;omega
          have u1 : ps[k]? = some ps[k] := List.getElem?_eq_getElem hltk
          have u2 : ps'[k]? = some ps'[k] := List.getElem?_eq_getElem hk'
          have e1 := (HWC.out _).trans (hkcell k _ u1)
          have e2 := (HWC.out _).trans (hkcell' k _ u2)
          obtain ⟨⟨p1,h1⟩,⟨p2,h2⟩,hcall⟩ := HSM.out k _ _ u1 u2
          rw [h1] at e1 hcall
          rw [h2] at e2 hcall
          have HCALL : Hid (∀ q,Calls Tryz.prog 123 #[.pointer (some ⟨p1,0,none⟩),.pointer (some ⟨p2,0,none⟩)] (wr.drewN q) fun e w' => e = .returned (.bool (sb k)) /\ ∃ r,w' = (wr.drewN q).drewN r) := fun q' => by
           have := hcall (q + q')
           rw [HWQ.out,drwq]
           exact this
          clear hkcell hkcell' u1 u2 h1 h2 hcall
          cases hsbk : sb k with
          | true =>
            have HNX : Hid (∀ j,j < k + 1 -> sb j = true) := fun j hj => by
             rcases Nat.lt_succ_iff_lt_or_eq.1 hj with h | h
             ·exact HALL.out j h
             ·subst h;exact hsbk
            rw [hsbk] at HCALL
            clear hsbk
            go_upto_region 13 with fail
            go_quiet (first | (go_at_call 123;exact Calls.quiet_of (HCALL.out _)))
            go_wp2_with fail
            go_roundg (ps.length - (k + 1))
            case measure => omega
            case rel => exact ⟨k + 1,_,by omega,rfl,by go_num,HNX.out,by rw [HWQ.out];exact drwq _ _ _⟩
          | false =>
            have HF : Hid (X = false) := x_false HX.out (fun h => by have := h.kids k hltk;rw [hsbk] at this;cases this)
            rw [hsbk] at HCALL
            clear hsbk
            go_upto_region 13 with fail
            go_quiet (first | (go_at_call 123;exact Calls.quiet_of (HCALL.out _)))
            go_wp2_with fail
            go_ret
            exact ⟨by rw [HF.out];rfl,by rw [HWQ.out];first | exact ⟨_,drwq _ _ _⟩ | exact ⟨_,rfl⟩⟩
         ·have HT : Hid (X = true) := HX.out.2 ⟨rfl,rfl,rfl,HNE.out,HKL.out,fun j hj => HALL.out j (by omega)⟩
          go_wp2_with fail
          go_ret
          exact ⟨by rw [HT.out];rfl,by rw [HWQ.out];first | exact ⟨_,drwq _ _ _⟩ | exact ⟨_,rfl⟩⟩
     ·have hb2 : ((ps.length : Int) == (ps'.length : Int)) = false := by simp;omega
      have HF : Hid (X = false) := x_false HX.out (fun h => hkl h.len)
      clear hn1 hn1' hk1 hk1' HSM HX
      go_enter Tryz.func123,Tryz.ntmps123
      go_upto_region 1 with fail
      go_quiet (fail)
      go_upto_region 3 with fail
      go_quiet (fail)
      go_wp2_with fail
      go_ret
      exact ⟨by rw [HF.out];rfl,by first | exact ⟨_,drwq _ _ _⟩ | exact ⟨_,rfl⟩⟩
    ·have hb2 : ((names.length : Int) == (names'.length : Int)) = false := by simp;omega
     have hb3 : decide (names.length = names'.length) = false := by simpa using hnl
     have hb4 : (names.length == names'.length) = false := by simpa using hnl
     have hb5 : decide ((names.length : Int) = (names'.length : Int)) = false := by simp;omega
     have HF : Hid (X = false) := x_false HX.out (fun h => hnl (by rw [h.names]))
     have hb6 : ((names.length : Int) != (names'.length : Int)) = true := by simp;omega
     have hb7 : (names.length != names'.length) = true := by simpa using hnl
     have hb8 : decide (¬ names.length = names'.length) = true := by simpa using hnl
     clear hn1 hn1' hk1 hk1' HSM HX hnl
     go_enter Tryz.func123,Tryz.ntmps123
     go_upto_region 1 with fail
     go_quiet (fail)
     go_upto_region 3 with fail
     go_quiet (fail)
     go_wp2_with fail
     go_ret
     exact ⟨by rw [HF.out];rfl,by first | exact ⟨_,drwq _ _ _⟩ | exact ⟨_,rfl⟩⟩
   ·have hb2 := beq_str_ne hname
    have HF : Hid (X = false) := x_false HX.out (fun h => hname h.name)
    clear hn1 hn1' hk1 hk1' HSM HX
    go_enter Tryz.func123,Tryz.ntmps123
    go_upto_region 1 with fail
    go_quiet (fail)
    go_wp2_with fail
    go_ret
    exact ⟨by rw [HF.out];rfl,by first | exact ⟨_,drwq _ _ _⟩ | exact ⟨_,rfl⟩⟩
  ·have hb2 : (num == num') = false := by simpa using hnum
   have HF : Hid (X = false) := x_false HX.out (fun h => hnum h.num)
   clear hn1 hn1' hk1 hk1' HSM HX
   go_enter Tryz.func123,Tryz.ntmps123
   go_upto_region 1 with fail
   go_quiet (fail)
   go_wp2_with fail
   go_ret
   exact ⟨by rw [HF.out];rfl,by first | exact ⟨_,drwq _ _ _⟩ | exact ⟨_,rfl⟩⟩
 ·have hb2 := beq_str_ne hf
  have HF : Hid (X = false) := x_false HX.out (fun h => hf h.f)
  clear hn1 hn1' hk1 hk1' HSM HX
  go_enter Tryz.func123,Tryz.ntmps123
  go_upto_region 1 with fail
  go_quiet (fail)
  go_wp2_with fail
  go_ret
  exact ⟨by rw [HF.out];rfl,by first | exact ⟨_,drwq _ _ _⟩ | exact ⟨_,rfl⟩⟩
end Go.Proofs.YtmkdoejpgkgpbaaGreatDoor
