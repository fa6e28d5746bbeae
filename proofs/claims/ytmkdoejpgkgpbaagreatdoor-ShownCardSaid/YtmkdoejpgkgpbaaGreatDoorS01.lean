import Derived.Laws.Strings
import Derived.Lib.Strings
import Derived.Test.YtmkdoejpgkgpbaaGreatDoorProg
import Derived.WalkKit
import Derived.WalkSpells
import Derived.WalkLawsBesides
set_option linter.unusedVariables false
set_option linter.unusedSimpArgs false
set_option maxHeartbeats 20000000
namespace Go.Proofs.YtmkdoejpgkgpbaaGreatDoor
namespace Sl
def digB (c : UInt8) : Bool := decide (48 <= c.toNat) && decide (c.toNat <= 57)
def smlB (c : UInt8) : Bool := c.toNat == 95 || (decide (97 <= c.toNat) && decide (c.toNat <= 122))
def letB (c : UInt8) : Bool := digB c || smlB c
def blkB (c : UInt8) : Bool := c.toNat == 32 || c.toNat == 10 || c.toNat == 9 || c.toNat == 13
def stB (s : ByteArray) (i : Nat) (t : ByteArray) : Bool := decide (i + t.size <= s.size) && ((s.extract i (i + t.size)).toList == t.toList)
abbrev opn : ByteArray := ⟨#[40,42]⟩
abbrev cls : ByteArray := ⟨#[42,41]⟩
theorem stB_size {s : ByteArray} {i : Nat} {t : ByteArray} (h : stB s i t = true) : i + t.size <= s.size := by
 simp [stB] at h;exact h.1
theorem opn_cls {s : ByteArray} {i : Nat} (h : stB s i opn = true) : stB s i cls = false := by
 have h' := h
 unfold stB at h ⊢
 simp only [Bool.and_eq_true,decide_eq_true_eq,beq_iff_eq] at h
 have e1 : opn.size = 2 := rfl
 have e2 : cls.size = 2 := rfl
 rw [e1] at h;rw [e2,h.2]
 have : (opn.toList == cls.toList) = false := by simp [ByteArray.toList_eq]
 rw [this];simp
def remF (s : ByteArray) : Nat -> Nat -> Option Nat
 | 0,_ => none
 | f + 1,i => if i < s.size then
     (if stB s i cls then some (i + 2) else if stB s i opn then (match remF s f (i + 2) with | some j => remF s f j | none => none) else remF s f (i + 1))
   else none
theorem remF_gt (s : ByteArray) : ∀ f i j,remF s f i = some j -> i < j /\ j <= s.size := by
 intro f
 induction f with
 | zero => intro i j h;simp [remF] at h
 | succ f ih =>
   intro i j h
   simp only [remF] at h
   split at h
   ·split at h
    ·rename_i h1
     have := stB_size h1
     have e2 : cls.size = 2 := rfl
     simp at h;omega
    ·split at h
     ·split at h
      ·rename_i j' hj
       have a := ih _ _ hj
       have b := ih _ _ h
       omega
      ·simp at h
     ·have := ih _ _ h;omega
   ·simp at h
theorem remF_more (s : ByteArray) : ∀ f g i,s.size < f + i -> s.size < g + i -> remF s f i = remF s g i := by
 intro f
 induction f with
 | zero =>
   intro g i hf hg
   cases g with
   | zero => rfl
   | succ g => simp only [remF];rw [if_neg (by omega)]
 | succ f ih =>
   intro g i hf hg
   cases g with
   | zero => simp only [remF];rw [if_neg (by omega)]
   | succ g =>
     simp only [remF]
     split
     ·split
      ·rfl
      ·split
       ·rw [ih g (i + 2) (by omega) (by omega)]
        split
        ·rename_i j hj
         have := remF_gt s g _ _ hj
         exact ih g j (by omega) (by omega)
        ·rfl
       ·exact ih g (i + 1) (by omega) (by omega)
     ·rfl
def rem (s : ByteArray) (i : Nat) : Option Nat := remF s (s.size + 1) i
theorem rem_eq (s : ByteArray) (i : Nat) : rem s i = if i < s.size then
 (if stB s i cls then some (i + 2) else if stB s i opn then (match rem s (i + 2) with | some j => rem s j | none => none) else rem s (i + 1))
 else none := by
 by_cases h : i < s.size
 ·have e : rem s i = remF s (s.size + 1) i := rfl
  rw [e,remF,if_pos h,if_pos h]
  have m : ∀ k,i < k -> remF s s.size k = rem s k := fun k hk => remF_more s _ _ _ (by omega) (by omega)
  rw [m (i + 2) (by omega),m (i + 1) (by omega)]
  split
  ·rfl
  ·split
   ·split
    ·rename_i j hj
     rw [m j]
     have := remF_gt s _ _ _ hj
     omega
    ·rfl
   ·rfl
 ·rw [if_neg h]
  show remF s (s.size + 1) i = none
  rw [remF,if_neg h]
theorem rem_gt {s : ByteArray} {i j : Nat} (h : rem s i = some j) : i < j /\ j <= s.size := remF_gt s _ _ _ h
def optI : Option Nat -> Int
 | some j => j
 | none => -1
def cnt (s : ByteArray) (d at' : Nat) : Option Nat :=
 match d with
 | 0 => some at'
 | d + 1 => if at' < s.size then (if stB s at' opn then cnt s (d + 2) (at' + 2) else if stB s at' cls then cnt s d (at' + 2) else cnt s (d + 1) (at' + 1)) else none
termination_by s.size - at'
theorem cnt_zero (s : ByteArray) (a : Nat) : cnt s 0 a = some a := by rw [cnt]
theorem cnt_end (s : ByteArray) (d a : Nat) (h : ¬ a < s.size) : cnt s (d + 1) a = none := by rw [cnt,if_neg h]
theorem cnt_opn (s : ByteArray) (d a : Nat) (h : a < s.size) (h1 : stB s a opn = true) : cnt s (d + 1) a = cnt s (d + 2) (a + 2) := by rw [cnt,if_pos h,if_pos h1]
theorem cnt_cls (s : ByteArray) (d a : Nat) (h : a < s.size) (h0 : stB s a opn = false) (h1 : stB s a cls = true) : cnt s (d + 1) a = cnt s d (a + 2) := by
 rw [cnt,if_pos h,if_neg (by simp [h0]),if_pos h1]
theorem cnt_on (s : ByteArray) (d a : Nat) (h : a < s.size) (h0 : stB s a opn = false) (h1 : stB s a cls = false) : cnt s (d + 1) a = cnt s (d + 1) (a + 1) := by
 rw [cnt,if_pos h,if_neg (by simp [h0]),if_neg (by simp [h1])]
theorem cnt_rem (s : ByteArray) : ∀ n a d,s.size <= n + a -> cnt s (d + 1) a = match rem s a with | some j => cnt s d j | none => none := by
 intro n
 induction n with
 | zero =>
   intro a d h
   rw [cnt_end s d a (by omega),rem_eq,if_neg (by omega)]
 | succ n ih =>
   intro a d h
   by_cases hl : a < s.size
   ·rw [rem_eq,if_pos hl]
    by_cases ho : stB s a opn = true
    ·have hc := opn_cls ho
     rw [cnt_opn s d a hl ho,ih (a + 2) (d + 1) (by omega),if_neg (by simp [hc]),if_pos ho]
     cases hr : rem s (a + 2) with
     | none => rfl
     | some j =>
       have := rem_gt hr
       exact ih j d (by omega)
    ·have ho' : stB s a opn = false := by simpa using ho
     by_cases hc : stB s a cls = true
     ·rw [cnt_cls s d a hl ho' hc,if_pos hc]
     ·have hc' : stB s a cls = false := by simpa using hc
      rw [cnt_on s d a hl ho' hc',if_neg hc,if_neg ho]
      exact ih (a + 1) d (by omega)
   ·rw [cnt_end s d a hl,rem_eq,if_neg hl]
theorem cnt_one (s : ByteArray) (a : Nat) : cnt s 1 a = rem s a := by
 rw [cnt_rem s s.size a 0 (by omega)]
 cases rem s a with
 | none => rfl
 | some j => exact cnt_zero s j
def rEnd (s : ByteArray) (b : Nat) : Nat := if stB s b opn then (match rem s (b + 2) with | some j => j | none => b) else b
theorem rEnd_le (s : ByteArray) (b : Nat) (h : b <= s.size) : b <= rEnd s b /\ rEnd s b <= s.size := by
 unfold rEnd
 split
 ·split
  ·rename_i j hj
   have := rem_gt hj
   omega
  ·omega
 ·omega
def skp (s : ByteArray) (a : Nat) : Nat :=
 if h : a < s.size then (if blkB s[a] then skp s (a + 1) else if a < rEnd s a then skp s (rEnd s a) else a) else a
termination_by s.size - a
theorem skp_end (s : ByteArray) (a : Nat) (h : ¬ a < s.size) : skp s a = a := by rw [skp,dif_neg h]
theorem skp_blk (s : ByteArray) (a : Nat) (h : a < s.size) (hb : blkB s[a] = true) : skp s a = skp s (a + 1) := by rw [skp,dif_pos h,if_pos hb]
theorem skp_rem (s : ByteArray) (a : Nat) (h : a < s.size) (hb : blkB s[a] = false) (hr : a < rEnd s a) : skp s a = skp s (rEnd s a) := by
 rw [skp,dif_pos h,if_neg (by simp [hb]),if_pos hr]
theorem skp_stay (s : ByteArray) (a : Nat) (h : a < s.size) (hb : blkB s[a] = false) (hr : ¬ a < rEnd s a) : skp s a = a := by
 rw [skp,dif_pos h,if_neg (by simp [hb]),if_neg hr]
end Sl
end Go.Proofs.YtmkdoejpgkgpbaaGreatDoor
namespace Go.Proofs.YtmkdoejpgkgpbaaGreatDoor
open Go.RowKit Sl
theorem ret_bool {a b : Bool} (h : a = b) : Ending.returned (.bool a) = .returned (.bool b) := by rw [h]
theorem ret_int {k : IntKind} {a b : Int} (h : a = b) : Ending.returned (.int k a) = .returned (.int k b) := by rw [h]
theorem ret_str {a b : ByteArray} (h : a = b) : Ending.returned (.string a) = .returned (.string b) := by rw [h]
theorem isDigit_any (c : UInt8) (w : World) :
 Calls Tryz.prog 245 #[.int .u8 c.toNat] w fun e w' => e = .returned (.bool (digB c)) /\ w' = w := by
 go_enter Tryz.func245,Tryz.ntmps245
 go_wp2
 all_goals
  go_ret
  refine ⟨ret_bool ?_,rfl⟩
  rw [Bool.eq_iff_iff];simp [digB];omega
theorem digit_any (c : UInt8) (w : World) :
 Calls Tryz.prog 182 #[.int .u8 c.toNat] w fun e w' => e = .returned (.bool (digB c)) /\ w' = w := by
 go_enter Tryz.func182,Tryz.ntmps182
 go_wp2
 all_goals
  go_ret
  refine ⟨ret_bool ?_,rfl⟩
  rw [Bool.eq_iff_iff];simp [digB];omega
theorem small_any (c : UInt8) (w : World) :
 Calls Tryz.prog 183 #[.int .u8 c.toNat] w fun e w' => e = .returned (.bool (smlB c)) /\ w' = w := by
 go_enter Tryz.func183,Tryz.ntmps183
 go_wp2
 all_goals
  go_ret
  refine ⟨ret_bool ?_,rfl⟩
  rw [Bool.eq_iff_iff];simp [smlB];omega
theorem isBlank_any (c : UInt8) (w : World) :
 Calls Tryz.prog 240 #[.int .u8 c.toNat] w fun e w' => e = .returned (.bool (blkB c)) /\ w' = w := by
 go_enter Tryz.func240,Tryz.ntmps240
 go_wp2
 all_goals
  go_ret
  refine ⟨ret_bool ?_,rfl⟩
  rw [Bool.eq_iff_iff];simp [blkB];omega
theorem wordy_any (c : UInt8) (w : World) :
 Calls Tryz.prog 109 #[.int .u8 c.toNat] w fun e w' => e = .returned (.bool (letB c)) /\ w' = w := by
 go_enter Tryz.func109,Tryz.ntmps109
 go_wp2_with (first | (go_at_call 182;refine (digit_any _ _).mono ?_;rintro e w' ⟨rfl,rfl⟩) | (go_at_call 183;refine (small_any _ _).mono ?_;rintro e w' ⟨rfl,rfl⟩))
 all_goals
  go_ret
  refine ⟨ret_bool ?_,rfl⟩
  simp [letB, *]
theorem isLetter_any (c : UInt8) (w : World) :
 Calls Tryz.prog 243 #[.int .u8 c.toNat] w fun e w' => e = .returned (.bool (letB c)) /\ w' = w := by
 go_enter Tryz.func243,Tryz.ntmps243
 go_wp2_with (first | (go_at_call 245;refine (isDigit_any _ _).mono ?_;rintro e w' ⟨rfl,rfl⟩))
 all_goals
  go_ret
  refine ⟨ret_bool ?_,rfl⟩
  rw [Bool.eq_iff_iff]
  simp only [letB,smlB,digB] at *
  simp at *
  omega
theorem standsAt_any (s t : ByteArray) (i : Nat) (w : World) (hs : s.size <= maxLen) (hi : i + t.size <= maxLen) :
 Calls Tryz.prog 242 #[.string s,.int .i64 i,.string t] w fun e w' => e = .returned (.bool (stB s i t)) /\ w' = w := by
 unfold maxLen at hs hi
 go_enter Tryz.func242,Tryz.ntmps242
 go_wp2
 all_goals
  go_ret
  refine ⟨ret_bool ?_,rfl⟩
 ·have h : i + t.size <= s.size := by omega
  simp [stB,h]
 ·have h : ¬ i + t.size <= s.size := by omega
  simp [stB,h]
theorem starts_any (s t : ByteArray) (i : Nat) (w : World) (hs : s.size <= maxLen) (hi : i + t.size <= maxLen) :
 Calls Tryz.prog 107 #[.string s,.int .i64 i,.string t] w fun e w' => e = .returned (.bool (stB s i t)) /\ w' = w := by
 unfold maxLen at hs hi
 go_enter Tryz.func107,Tryz.ntmps107
 go_wp2
 all_goals
  go_ret
  refine ⟨ret_bool ?_,rfl⟩
 ·have h : i + t.size <= s.size := by omega
  simp [stB,h]
 ·have h : ¬ i + t.size <= s.size := by omega
  simp [stB,h]
theorem remark_any (s : ByteArray) (hs : s.size <= 1000) (n : Nat) : ∀ (i : Nat) (w : World),s.size <= n + i -> i <= s.size ->
 Calls Tryz.prog 108 #[.string s,.int .i64 i] w fun e w' => e = .returned (.int .i64 (optI (rem s i))) /\ w' = w := by
 have hm : s.size <= maxLen := by unfold maxLen;omega
 induction n with
 | zero =>
   intro i w hn hi
   have hni : ¬ i < s.size := by omega
   have hr : rem s i = none := by rw [rem_eq,if_neg (by omega)]
   rw [hr];clear hr
   go_enter Tryz.func108,Tryz.ntmps108
   go_wp2_with fail
   refine wp_loop_rounds 1 ?_;rw [rounds_succ]
   go_wp2_with fail
   go_ret
   exact ⟨rfl,rfl⟩
 | succ n ih =>
   intro i w hn hi
   go_enter Tryz.func108,Tryz.ntmps108
   go_wp2_with fail
   go_loop [1] (fun t => ∃ k : Nat,i <= k /\ k <= s.size /\ rem s k = rem s i /\ t = .int .i64 k) (fun t => s.size - (intOf t).toNat)
   case atStart => exact ⟨i,Nat.le_refl _,hi,rfl,rfl⟩
   case round =>
    obtain ⟨k,hik,hks,hrk,rfl⟩ := hrel
    have HR : Hid (rem s k = rem s i) := hrk
    clear hrk
    by_cases hlt : k < s.size
    ·by_cases hc : stB s k cls = true
     ·have hsz := stB_size hc
      have e2 : cls.size = 2 := rfl
      rw [e2] at hsz;clear e2
      go_wp2_with (go_at_call 107;refine (starts_any _ _ _ _ hm (by unfold maxLen;show k + 2 <= _;omega)).mono ?_;rintro e w' ⟨rfl,rfl⟩)
      go_ret
      refine ⟨ret_int ?_,rfl⟩
      rw [<- HR.out,rem_eq,if_pos hlt,if_pos hc];rfl
     ·have hc' : stB s k cls = false := by simpa using hc
      clear hc
      by_cases ho : stB s k opn = true
      ·have hsz := stB_size ho
       have e2 : opn.size = 2 := rfl
       rw [e2] at hsz;clear e2
       have hr2 : Hid (rem s k = match rem s (k + 2) with | some j => rem s j | none => none) := by
        show _ = _
        rw [rem_eq s k,if_pos hlt,if_neg (by simp [hc']),if_pos ho] <;> rfl
       cases hj : rem s (k + 2) with
       | none =>
         go_wp2_with (first | (go_at_call 107;refine (starts_any _ _ _ _ hm (by unfold maxLen;show k + 2 <= _;omega)).mono ?_;rintro e w' ⟨rfl,rfl⟩) | (go_at_call 108;refine (ih (k + 2) _ (by omega) (by omega)).mono ?_;rw [hj];rintro e w' ⟨rfl,rfl⟩;simp only [optI]))
         go_ret
         refine ⟨ret_int ?_,rfl⟩
         rw [<- HR.out,hr2.out,hj];rfl
       | some j =>
         have hjj := rem_gt hj
         go_wp2_with (first | (go_at_call 107;refine (starts_any _ _ _ _ hm (by unfold maxLen;show k + 2 <= _;omega)).mono ?_;rintro e w' ⟨rfl,rfl⟩) | (go_at_call 108;refine (ih (k + 2) _ (by omega) (by omega)).mono ?_;rw [hj];rintro e w' ⟨rfl,rfl⟩;simp only [optI]))
         go_round
         case rel => exact ⟨j,by omega,by omega,by rw [<- HR.out,hr2.out,hj],rfl⟩
         case measure => simp [intOf];omega
      ·have ho' : stB s k opn = false := by simpa using ho
       clear ho
       have hr2 : Hid (rem s k = rem s (k + 1)) := by
        show _ = _
        rw [rem_eq s k,if_pos hlt,if_neg (by simp [hc']),if_neg (by simp [ho'])]
       go_wp2_with (first | (go_at_call 107;refine (starts_any _ _ _ _ hm (by unfold maxLen;show k + 2 <= _;omega)).mono ?_;rintro e w' ⟨rfl,rfl⟩))
       go_round
       case rel => exact ⟨k + 1,by omega,by omega,by rw [<- HR.out,hr2.out],by go_num⟩
       case measure => simp [intOf];omega
    ·go_wp2_with fail
     go_ret
     refine ⟨ret_int ?_,rfl⟩
     rw [<- HR.out,rem_eq,if_neg hlt];rfl
theorem remarkEnd_any (s : ByteArray) (hs : s.size <= 1000) (b : Nat) (hb : b <= s.size) (w : World) :
 Calls Tryz.prog 241 #[.string s,.int .i64 b] w fun e w' => e = .returned (.int .i64 (rEnd s b)) /\ w' = w := by
 have hm : s.size <= maxLen := by unfold maxLen;omega
 by_cases ho : stB s b opn = true
 ·have hsz := stB_size ho
  have e2 : opn.size = 2 := rfl
  rw [e2] at hsz;clear e2
  go_enter Tryz.func241,Tryz.ntmps241
  go_wp2_with (go_at_call 242;refine (standsAt_any _ _ _ _ hm (by unfold maxLen;show b + 2 <= _;omega)).mono ?_;rintro e w' ⟨rfl,rfl⟩)
  go_loop [5,6] (fun t u => ∃ d k : Nat,b + 2 <= k /\ k <= s.size /\ d <= k /\ cnt s d k = rem s (b + 2) /\ t = .int .i64 d /\ u = .int .i64 k) (fun _ u => s.size - (intOf u).toNat)
  case atStart => exact ⟨1,b + 2,Nat.le_refl _,hsz,by omega,cnt_one s _,rfl,by go_num⟩
  case round =>
   obtain ⟨d,k,hbk,hks,hdk,hck,rfl,rfl⟩ := hrel
   have HC : Hid (cnt s d k = rem s (b + 2)) := hck
   clear hck
   by_cases hlt : k < s.size
   ·cases d with
    | zero =>
      have HE : Hid (rEnd s b = k) := by
       show _ = _
       have h := HC.out
       rw [cnt_zero] at h
       rw [rEnd,if_pos ho,<- h]
      go_wp2_with fail
      go_ret
      exact ⟨ret_int (by rw [HE.out]),rfl⟩
    | succ d =>
      by_cases h1 : stB s k opn = true
      ·have hsz1 := stB_size h1
       have e2 : opn.size = 2 := rfl
       rw [e2] at hsz1;clear e2
       go_wp2_with (go_at_call 242;refine (standsAt_any _ _ _ _ hm (by unfold maxLen;show k + 2 <= _;omega)).mono ?_;rintro e w' ⟨rfl,rfl⟩)
       go_round
       case rel => exact ⟨d + 2,k + 2,by omega,by omega,by omega,by rw [<- HC.out,cnt_opn s d k hlt h1],by go_num,by go_num⟩
       case measure => simp [intOf];omega
      ·have h1' : stB s k opn = false := by simpa using h1
       clear h1
       by_cases h2 : stB s k cls = true
       ·have hsz1 := stB_size h2
        have e2 : cls.size = 2 := rfl
        rw [e2] at hsz1;clear e2
        go_wp2_with (go_at_call 242;refine (standsAt_any _ _ _ _ hm (by unfold maxLen;show k + 2 <= _;omega)).mono ?_;rintro e w' ⟨rfl,rfl⟩)
        go_round
        case rel => exact ⟨d,k + 2,by omega,by omega,by omega,by rw [<- HC.out,cnt_cls s d k hlt h1' h2],by go_num,by go_num⟩
        case measure => simp [intOf];omega
       ·have h2' : stB s k cls = false := by simpa using h2
        clear h2
        go_wp2_with (go_at_call 242;refine (standsAt_any _ _ _ _ hm (by unfold maxLen;show k + 2 <= _;omega)).mono ?_;rintro e w' ⟨rfl,rfl⟩)
        go_round
        case rel => exact ⟨d + 1,k + 1,by omega,by omega,by omega,by rw [<- HC.out,cnt_on s d k hlt h1' h2'],by go_num,by go_num⟩
        case measure => simp [intOf];omega
   ·cases d with
    | zero =>
      have HE : Hid (rEnd s b = k) := by
       show _ = _
       have h := HC.out
       rw [cnt_zero] at h
       rw [rEnd,if_pos ho,<- h]
      go_wp2_with fail
      go_ret
      exact ⟨ret_int (by rw [HE.out]),rfl⟩
    | succ d =>
      have HE : Hid (rEnd s b = b) := by
       show _ = _
       have h := HC.out
       rw [cnt_end s d k hlt] at h
       rw [rEnd,if_pos ho,<- h]
      go_wp2_with fail
      go_ret
      exact ⟨ret_int (by rw [HE.out]),rfl⟩
 ·have ho' : stB s b opn = false := by simpa using ho
  have HE : Hid (rEnd s b = b) := by
   show _ = _
   rw [rEnd,if_neg ho]
  clear ho
  go_enter Tryz.func241,Tryz.ntmps241
  go_wp2_with (go_at_call 242;refine (standsAt_any _ _ _ _ hm (by unfold maxLen;show b + 2 <= _;omega)).mono ?_;rintro e w' ⟨rfl,rfl⟩)
  go_ret
  exact ⟨ret_int (by rw [HE.out]),rfl⟩
theorem skip_any (s : ByteArray) (hs : s.size <= 1000) (b : Nat) (hb : b <= s.size) (w : World) :
 Calls Tryz.prog 174 #[.string s,.int .i64 b] w fun e w' => e = .returned (.int .i64 (skp s b)) /\ w' = w := by
 go_enter Tryz.func174,Tryz.ntmps174
 go_wp2_with fail
 go_loop [1] (fun t => ∃ k : Nat,b <= k /\ k <= s.size /\ skp s k = skp s b /\ t = .int .i64 k) (fun t => s.size - (intOf t).toNat)
 case atStart => exact ⟨b,Nat.le_refl _,hb,rfl,rfl⟩
 case round =>
  obtain ⟨k,hbk,hks,hrk,rfl⟩ := hrel
  have HR : Hid (skp s k = skp s b) := hrk
  clear hrk
  by_cases hlt : k < s.size
  ·by_cases hbl : blkB s[k] = true
   ·go_wp2_with (go_at_call 240;refine (isBlank_any _ _).mono ?_;rintro e w' ⟨rfl,rfl⟩)
    go_round
    case rel => exact ⟨k + 1,by omega,by omega,by rw [<- HR.out,skp_blk s k hlt hbl],by go_num⟩
    case measure => simp [intOf];omega
   ·have hbl' : blkB s[k] = false := by simpa using hbl
    clear hbl
    have hre := rEnd_le s k hks
    by_cases hr : k < rEnd s k
    ·go_wp2_with (first | (go_at_call 240;refine (isBlank_any _ _).mono ?_;rintro e w' ⟨rfl,rfl⟩) | (go_at_call 241;refine (remarkEnd_any s hs k hks _).mono ?_;rintro e w' ⟨rfl,rfl⟩))
     go_round
     case rel => exact ⟨rEnd s k,by omega,by omega,by rw [<- HR.out,skp_rem s k hlt hbl' hr],rfl⟩
     case measure => simp [intOf];omega
    ·go_wp2_with (first | (go_at_call 240;refine (isBlank_any _ _).mono ?_;rintro e w' ⟨rfl,rfl⟩) | (go_at_call 241;refine (remarkEnd_any s hs k hks _).mono ?_;rintro e w' ⟨rfl,rfl⟩))
     go_ret
     exact ⟨ret_int (by rw [<- HR.out,skp_stay s k hlt hbl' hr]),rfl⟩
  ·go_wp2_with fail
   go_ret
   exact ⟨ret_int (by rw [<- HR.out,skp_end s k hlt]),rfl⟩
end Go.Proofs.YtmkdoejpgkgpbaaGreatDoor
namespace Go.Proofs.YtmkdoejpgkgpbaaGreatDoor
namespace Sl
def txtL : List (List UInt8) := [[],[],[],[108,101,116],[114,101,99],[105,110],[105,102],[116,104,101,110],[101,108,115,101],[102,117,110],[110,111,116],[116,114,117,101],[102,97,108,115,101],[114,101,97,100],[112,114,105,110,116],[108,101,110],[97,114,114,97,121],[112,117,116],[46,40],[60,62],[60,61],[62,61],[45,62],[40],[41],[44],[59],[61],[60],[62],[43],[45],[42],[47],[37]]
def txt (k : Nat) : ByteArray := ⟨(txtL.getD k []).toArray⟩
theorem txt_far (k : Nat) (h : 35 <= k) : txt k = ⟨#[]⟩ := by
 unfold txt
 have : txtL[k]? = none := List.getElem?_eq_none (by show txtL.length <= k;exact h)
 simp [this]
theorem txt_size (k : Nat) : (txt k).size <= 5 := by
 by_cases h : k < 35
 ·have : ∀ k : Fin 35,(txt k.val).size <= 5 := by decide
  exact this ⟨k,h⟩
 ·rw [txt_far k (by omega)];decide
def firstK (p : Nat -> Bool) : Nat -> Nat -> Option Nat
 | _,0 => none
 | a,n + 1 => if p a then some a else firstK p (a + 1) n
def signK (s : ByteArray) (i : Nat) : Option Nat := firstK (fun k => stB s i (txt k)) 18 17
def kwK (t : ByteArray) : Option Nat := firstK (fun k => (txt k).toList == t.toList) 3 15
theorem firstK_range (p : Nat -> Bool) : ∀ n a k,firstK p a n = some k -> a <= k /\ k < a + n /\ p k = true := by
 intro n
 induction n with
 | zero => intro a k h;simp [firstK] at h
 | succ n ih =>
   intro a k h
   simp only [firstK] at h
   split at h
   ·simp at h;subst h;exact ⟨Nat.le_refl _,by omega,by assumption⟩
   ·have := ih _ _ h;exact ⟨by omega,by omega,this.2.2⟩
theorem dataget (s : ByteArray) (k : Nat) (h : k < s.size) : s.data.toList.drop k = s[k] :: s.data.toList.drop (k + 1) := by
 rw [List.drop_eq_getElem_cons (by simpa using h)];rfl
def decF : Nat -> List UInt8 -> Option Nat
 | n,[] => some n
 | n,c :: r => if digB c then (if n * 10 + (c.toNat - 48) <= 4611686018427387903 then decF (n * 10 + (c.toNat - 48)) r else none) else none
def numV (t : ByteArray) : Option Nat := decF 0 t.data.toList
def runE (s : ByteArray) (j : Nat) : Nat := if h : j < s.size then (if letB s[j] then runE s (j + 1) else j) else j
termination_by s.size - j
theorem runE_end (s : ByteArray) (j : Nat) (h : ¬ j < s.size) : runE s j = j := by rw [runE,dif_neg h]
theorem runE_on (s : ByteArray) (j : Nat) (h : j < s.size) (hl : letB s[j] = true) : runE s j = runE s (j + 1) := by rw [runE,dif_pos h,if_pos hl]
theorem runE_off (s : ByteArray) (j : Nat) (h : j < s.size) (hl : letB s[j] = false) : runE s j = j := by rw [runE,dif_pos h,if_neg (by simp [hl])]
theorem runE_le (s : ByteArray) : ∀ n j,s.size <= n + j -> j <= s.size -> j <= runE s j /\ runE s j <= s.size := by
 intro n
 induction n with
 | zero => intro j h hj;rw [runE_end s j (by omega)];omega
 | succ n ih =>
   intro j h hj
   by_cases hlt : j < s.size
   ·by_cases hl : letB s[j] = true
    ·rw [runE_on s j hlt hl];have := ih (j + 1) (by omega) (by omega);omega
    ·rw [runE_off s j hlt (by simpa using hl)];omega
   ·rw [runE_end s j hlt];omega
end Sl
end Go.Proofs.YtmkdoejpgkgpbaaGreatDoor
namespace Go.Proofs.YtmkdoejpgkgpbaaGreatDoor
open Go.RowKit Sl
def TX (w : World) : Prop := ∀ k : Nat,k < 35 -> w.cell? ⟨2,k,none⟩ = some (.string (txt k))
theorem TX.below {B : Nat} {w w' : World} (h : TX w) (hb : Below B w w') (hB : 2 < B) : TX w' :=
 fun k hk => (hb.cell (p := ⟨2,k,none⟩) hB).trans (h k hk)
theorem text_any (k : Nat) (w : World) (hT : TX w) (hk : k <= 1000):
 Calls Tryz.prog 261 #[.int .i64 k] w fun e w' => e = .returned (.string (txt k)) /\ w' = w := by
 by_cases h : k < 35
 ·have hc := hT k h
  clear hT
  go_enter Tryz.func261,Tryz.ntmps261
  go_wp2
  go_ret
  exact ⟨rfl,rfl⟩
 ·have e : Hid (txt k = ⟨#[]⟩) := txt_far k (by omega)
  clear hT
  go_enter Tryz.func261,Tryz.ntmps261
  go_wp2
  go_ret
  exact ⟨ret_str e.out.symm,rfl⟩
theorem decF_dig {n : Nat} {c : UInt8} {r : List UInt8} (h : digB c = true) : decF n (c :: r) = if n * 10 + (c.toNat - 48) <= 4611686018427387903 then decF (n * 10 + (c.toNat - 48)) r else none := by
 rw [decF,if_pos h]
theorem numberOf_any (s : ByteArray) (hs : s.size <= 1000) (w : World) :
 Calls Tryz.prog 247 #[.string s] w fun e w' => e = .returned (.int .i64 (optI (numV s))) /\ w' = w := by
 go_enter Tryz.func247,Tryz.ntmps247
 go_wp2_with fail
 go_loop [3,4] (fun t u => ∃ v k : Nat,v <= 4611686018427387903 /\ k <= s.size /\ decF v (s.data.toList.drop k) = numV s /\ t = .int .i64 v /\ u = .int .i64 k) (fun _ u => s.size - (intOf u).toNat)
 case atStart => exact ⟨0,0,by omega,by omega,rfl,rfl,rfl⟩
 case round =>
  obtain ⟨v,k,hv,hk,hd,rfl,rfl⟩ := hrel
  have HD : Hid (decF v (s.data.toList.drop k) = numV s) := hd
  clear hd
  by_cases hlt : k < s.size
  ·by_cases hg : digB s[k] = true
   ·have hr : 48 <= s[k].toNat /\ s[k].toNat <= 57 := by simpa [digB] using hg
    by_cases hov : v * 10 + (s[k].toNat - 48) <= 4611686018427387903
    ·have HN : Hid (decF (v * 10 + (s[k].toNat - 48)) (s.data.toList.drop (k + 1)) = numV s) := by
      show _ = _
      rw [<- HD.out,dataget s k hlt,decF_dig hg,if_pos hov]
     go_wp2_with (go_at_call 245;refine (isDigit_any _ _).mono ?_;rintro e w' ⟨rfl,rfl⟩)
     go_round
     case rel => exact ⟨v * 10 + (s[k].toNat - 48),k + 1,hov,by omega,HN.out,by go_num,by go_num⟩
     case measure => simp [intOf];omega
    ·have HN : Hid (none = numV s) := by
      show _ = _
      rw [<- HD.out,dataget s k hlt,decF_dig hg,if_neg hov]
     go_wp2_with (go_at_call 245;refine (isDigit_any _ _).mono ?_;rintro e w' ⟨rfl,rfl⟩)
     go_ret
     exact ⟨ret_int (by rw [<- HN.out];rfl),rfl⟩
   ·have hg' : digB s[k] = false := by simpa using hg
    have HN : Hid (none = numV s) := by
     show _ = _
     rw [<- HD.out,dataget s k hlt,decF,if_neg hg]
    clear hg
    go_wp2_with (go_at_call 245;refine (isDigit_any _ _).mono ?_;rintro e w' ⟨rfl,rfl⟩)
    go_ret
    exact ⟨ret_int (by rw [<- HN.out];rfl),rfl⟩
  ·have HN : Hid (some v = numV s) := by
    show _ = _
    rw [<- HD.out,List.drop_eq_nil_of_le (by simpa using hlt),decF]
   go_wp2_with fail
   go_ret
   exact ⟨ret_int (by rw [<- HN.out];rfl),rfl⟩
end Go.Proofs.YtmkdoejpgkgpbaaGreatDoor
namespace Go.Proofs.YtmkdoejpgkgpbaaGreatDoor
namespace Sl
def nmK (t : ByteArray) : Nat := (kwK t).getD 2
inductive WR where
 | err (e : Nat)
 | ok (k n : Nat) (t : ByteArray) (z : Nat)
def wordR (s : ByteArray) (p : Nat) : WR :=
 if h : p < s.size then
  if stB s p opn then .err 2
  else if letB s[p] then
   (if digB s[p] then (match numV (s.extract p (runE s p)) with
    | some v => .ok 1 v (s.extract p (runE s p)) (runE s p)
    | none => .err 3)
   else .ok (nmK (s.extract p (runE s p))) 0 (s.extract p (runE s p)) (runE s p))
  else match signK s p with
   | some k => .ok k 0 (txt k) (p + (txt k).size)
   | none => .err 2
 else .err 2
structure Tok where
 k : Nat
 n : Nat
 p : Nat
 t : ByteArray
inductive LR where
 | bad (e p : Nat)
 | good (l : List Tok)
def LR.pre (acc : List Tok) : LR -> LR
 | .bad e p => .bad e p
 | .good l => .good (acc ++ l)
theorem LR.pre_nil (r : LR) : r.pre [] = r := by cases r <;> rfl
theorem LR.pre_pre (a b : List Tok) (r : LR) : (r.pre b).pre a = r.pre (a ++ b) := by cases r <;> simp [LR.pre]
def lexF (s : ByteArray) : Nat -> Nat -> LR
 | 0,_ => .good []
 | f + 1,a => if a < s.size then (match wordR s a with
     | .err e => .bad e a
     | .ok k n t z => (lexF s f (skp s z)).pre [⟨k,n,a,t⟩]) else .good []
def lexAll (s : ByteArray) : LR := if 400 < s.size then .bad 1 0 else lexF s (s.size + 1) (skp s 0)
theorem skp_le (s : ByteArray) : ∀ n a,s.size <= n + a -> a <= s.size -> a <= skp s a /\ skp s a <= s.size := by
 intro n
 induction n with
 | zero => intro a h ha;rw [skp_end s a (by omega)];omega
 | succ n ih =>
   intro a h ha
   by_cases hl : a < s.size
   ·by_cases hb : blkB s[a] = true
    ·rw [skp_blk s a hl hb];have := ih (a + 1) (by omega) (by omega);omega
    ·have hb' : blkB s[a] = false := by simpa using hb
     by_cases hr : a < rEnd s a
     ·rw [skp_rem s a hl hb' hr]
      have h1 := rEnd_le s a ha
      have := ih (rEnd s a) (by omega) (by omega);omega
     ·rw [skp_stay s a hl hb' hr];omega
   ·rw [skp_end s a hl];omega
theorem wordR_le {s : ByteArray} {p k n z : Nat} {t : ByteArray} (h : wordR s p = .ok k n t z) : p < z /\ z <= s.size /\ k < 35 := by
 unfold wordR at h
 split at h
 ·rename_i hp
  split at h
  ·simp at h
  ·split at h
   ·rename_i hl
    have h1 : p < runE s p /\ runE s p <= s.size := by
     rw [runE_on s p hp hl]
     have := runE_le s s.size (p + 1) (by omega) (by omega)
     omega
    split at h
    ·split at h
     ·simp at h;obtain ⟨rfl,_,_,rfl⟩ := h;exact ⟨h1.1,h1.2,by omega⟩
     ·simp at h
    ·simp at h
     obtain ⟨rfl,_,_,rfl⟩ := h
     refine ⟨h1.1,h1.2,?_⟩
     unfold nmK
     cases hk : kwK (s.extract p (runE s p)) with
     | none => simp
     | some k => have := firstK_range _ _ _ _ hk;simp;omega
   ·split at h
    ·rename_i k' hk
     simp at h
     obtain ⟨rfl,_,_,rfl⟩ := h
     have h2 := firstK_range _ _ _ _ hk
     have h3 := stB_size h2.2.2
     refine ⟨?_,h3,by omega⟩
     have : ∀ k : Fin 35,18 <= k.val -> 0 < (txt k.val).size := by decide
     have := this ⟨k',by omega⟩ h2.1
     simp at this
     omega
    ·simp at h
 ·simp at h
theorem wordR_err {s : ByteArray} {p e : Nat} (h : wordR s p = .err e) : e = 2 \/ e = 3 := by
 unfold wordR at h
 split at h
 ·split at h
  ·simp at h;exact .inl h.symm
  ·split at h
   ·split at h
    ·split at h
     ·simp at h
     ·simp at h;exact .inr h.symm
    ·simp at h
   ·split at h
    ·simp at h
    ·simp at h;exact .inl h.symm
 ·simp at h;exact .inl h.symm
theorem lexF_more (s : ByteArray) : ∀ f g a,s.size < f + a -> s.size < g + a -> a <= s.size -> lexF s f a = lexF s g a := by
 intro f
 induction f with
 | zero => intro g a h;intro _ h2;omega
 | succ f ih =>
   intro g a hf hg ha
   cases g with
   | zero => omega
   | succ g =>
     simp only [lexF]
     split
     ·split
      ·rfl
      ·rename_i k n t z hw
       have h1 := wordR_le hw
       have h2 := skp_le s s.size z (by omega) (by omega)
       rw [ih g (skp s z) (by omega) (by omega) (by omega)]
     ·rfl
def lex (s : ByteArray) (a : Nat) : LR := lexF s (s.size + 1) a
theorem lex_end (s : ByteArray) (a : Nat) (h : ¬ a < s.size) : lex s a = .good [] := by
 show lexF s (s.size + 1) a = _
 rw [lexF,if_neg h]
theorem lex_err {s : ByteArray} {a e : Nat} (h : a < s.size) (hw : wordR s a = .err e) : lex s a = .bad e a := by
 show lexF s (s.size + 1) a = _
 rw [lexF,if_pos h,hw]
theorem lex_ok {s : ByteArray} {a k n z : Nat} {t : ByteArray} (h : a < s.size) (hw : wordR s a = .ok k n t z) : lex s a = (lex s (skp s z)).pre [⟨k,n,a,t⟩] := by
 show lexF s (s.size + 1) a = _
 rw [lexF,if_pos h,hw]
 have h1 := wordR_le hw
 have h2 := skp_le s s.size z (by omega) (by omega)
 show (lexF s s.size (skp s z)).pre _ = (lexF s (s.size + 1) (skp s z)).pre _
 rw [lexF_more s s.size (s.size + 1) (skp s z) (by omega) (by omega) (by omega)]
end Sl
end Go.Proofs.YtmkdoejpgkgpbaaGreatDoor
namespace Go.Proofs.YtmkdoejpgkgpbaaGreatDoor
open Go.RowKit Sl
abbrev wv (k p n : Nat) (t : ByteArray) : Value := .agg #[.int .i64 k,.int .i64 p,.int .i64 n,.string t]
def nmT (t : ByteArray) : ByteArray := if (kwK t).isSome then ⟨#[]⟩ else t
theorem named_any (t : ByteArray) (p : Nat) (w : World) (hT : TX w) (h0 : 2 < w.heap.size) :
 Calls Tryz.prog 246 #[.string t,.int .i64 p] w fun e w' => e = .returned (wv (nmK t) p 0 (nmT t)) /\ Below w.heap.size w w' := by
 have hb : Below w.heap.size w w := Below.refl _ _
 go_enter Tryz.func246,Tryz.ntmps246
 go_wp2_with fail
 go_loop [5] (fun u => ∃ k : Nat,3 <= k /\ k <= 18 /\ firstK (fun k => (txt k).toList == t.toList) k (18 - k) = kwK t /\ u = .int .i64 k) (fun u => 18 - (intOf u).toNat)
 case atStart => exact ⟨3,Nat.le_refl _,by omega,rfl,rfl⟩
 case round =>
  obtain ⟨k,hk3,hk,hf,rfl⟩ := hrel
  have HF : Hid (firstK (fun k => (txt k).toList == t.toList) k (18 - k) = kwK t) := hf
  clear hf
  by_cases hlt : k <= 17
  ·by_cases he : ((txt k).toList == t.toList) = true
   ·go_wp2_with (go_at_call 261;refine (text_any _ _ ?_ (by omega)).mono ?_;exact hT.below (hb.alloc (Nat.le_refl _) _) h0;rintro e w' ⟨rfl,rfl⟩)
    have HE : Hid (kwK t = some k) := by
     show _ = _
     rw [<- HF.out,show 18 - k = (17 - k) + 1 by omega,firstK,if_pos he]
    refine bodyPost_ret (v := wv k p 0 ⟨#[]⟩) (by simp [results,Tryz.results246,go_sem]) rfl ⟨?_,hb.alloc (Nat.le_refl _) _⟩
    simp [nmK,nmT,HE.out]
   ·have he' : ((txt k).toList == t.toList) = false := by simpa using he
    have HE : Hid (firstK (fun k => (txt k).toList == t.toList) (k + 1) (18 - (k + 1)) = kwK t) := by
     show _ = _
     rw [<- HF.out,show 18 - k = (18 - (k + 1)) + 1 by omega,firstK,if_neg he]
    clear he
    go_wp2_with (go_at_call 261;refine (text_any _ _ ?_ (by omega)).mono ?_;exact hT.below (hb.alloc (Nat.le_refl _) _) h0;rintro e w' ⟨rfl,rfl⟩)
    go_round
    case rel => exact ⟨k + 1,by omega,by omega,HE.out,by go_num⟩
    case measure => simp [intOf];omega
  ·have HE : Hid (kwK t = none) := by
    show _ = _
    rw [<- HF.out,show 18 - k = 0 by omega,firstK]
   go_wp2_with fail
   refine bodyPost_ret (v := wv 2 p 0 t) (by simp [results,Tryz.results246,go_sem]) rfl ⟨?_,hb.alloc (Nat.le_refl _) _⟩
   simp [nmK,nmT,HE.out]
def signV (s : ByteArray) (p : Nat) : Value := match signK s p with
 | some k => .tuple #[wv k p 0 ⟨#[]⟩,.int .i64 0,.int .i64 ((p + (txt k).size : Nat) : Int)]
 | none => .tuple #[wv 0 0 0 ⟨#[]⟩,.int .i64 2,.int .i64 0]
theorem signAt_any (s : ByteArray) (hs : s.size <= 1000) (p : Nat) (hp : p <= s.size) (w : World) (hT : TX w) (h0 : 2 < w.heap.size) :
 Calls Tryz.prog 244 #[.string s,.int .i64 p] w fun e w' => e = .returned (signV s p) /\ Below w.heap.size w w' := by
 have hb : Below w.heap.size w w := Below.refl _ _
 have hm : s.size <= maxLen := by unfold maxLen;omega
 go_enter Tryz.func244,Tryz.ntmps244
 go_wp2_with fail
 go_loop [7] (fun u => ∃ k : Nat,18 <= k /\ k <= 35 /\ firstK (fun k => stB s p (txt k)) k (35 - k) = signK s p /\ u = .int .i64 k) (fun u => 35 - (intOf u).toNat)
 case atStart => exact ⟨18,Nat.le_refl _,by omega,rfl,rfl⟩
 case round =>
  obtain ⟨k,hk3,hk,hf,rfl⟩ := hrel
  have HF : Hid (firstK (fun k => stB s p (txt k)) k (35 - k) = signK s p) := hf
  clear hf
  have hz := txt_size k
  by_cases hlt : k <= 34
  ·by_cases he : stB s p (txt k) = true
   ·have HE : Hid (signK s p = some k) := by
     show _ = _
     rw [<- HF.out,show 35 - k = (34 - k) + 1 by omega,firstK,if_pos he]
    go_wp2_with (first | (go_at_call 261;refine (text_any _ _ ?_ (by omega)).mono ?_;exact hT.below (hb.alloc (Nat.le_refl _) _) h0;rintro e w' ⟨rfl,rfl⟩) | (go_at_call 242;refine (standsAt_any _ _ _ _ hm (by unfold maxLen;omega)).mono ?_;rintro e w' ⟨rfl,rfl⟩))
    refine bodyPost_ret (v := .tuple #[wv k p 0 ⟨#[]⟩,.int .i64 0,.int .i64 (((p + (txt k).size : Nat)) : Int)]) (by simp [results,Tryz.results244,go_sem]) rfl ⟨by rw [signV,HE.out],hb.alloc (Nat.le_refl _) _⟩
   ·have he' : stB s p (txt k) = false := by simpa using he
    have HE : Hid (firstK (fun k => stB s p (txt k)) (k + 1) (35 - (k + 1)) = signK s p) := by
     show _ = _
     rw [<- HF.out,show 35 - k = (35 - (k + 1)) + 1 by omega,firstK,if_neg he]
    clear he
    go_wp2_with (first | (go_at_call 261;refine (text_any _ _ ?_ (by omega)).mono ?_;exact hT.below (hb.alloc (Nat.le_refl _) _) h0;rintro e w' ⟨rfl,rfl⟩) | (go_at_call 242;refine (standsAt_any _ _ _ _ hm (by unfold maxLen;omega)).mono ?_;rintro e w' ⟨rfl,rfl⟩))
    go_round
    case rel => exact ⟨k + 1,by omega,by omega,HE.out,by go_num⟩
    case measure => simp [intOf];omega
  ·have HE : Hid (signK s p = none) := by
    show _ = _
    rw [<- HF.out,show 35 - k = 0 by omega,firstK]
   go_wp2_with fail
   exact bodyPost_ret (v := .tuple #[wv 0 0 0 ⟨#[]⟩,.int .i64 2,.int .i64 0]) (by simp [results,Tryz.results244,go_sem]) rfl ⟨by rw [signV,HE.out],hb.alloc (Nat.le_refl _) _⟩
def nmOf (k : Nat) (t : ByteArray) : ByteArray := if k = 2 then t else ⟨#[]⟩
def WR.val (p : Nat) : WR -> Value
 | .err e => .tuple #[wv 0 0 0 ⟨#[]⟩,.int .i64 e,.int .i64 0]
 | .ok k n t z => .tuple #[wv k p n (nmOf k t),.int .i64 0,.int .i64 z]
theorem nmT_of (t : ByteArray) : nmT t = nmOf (nmK t) t := by
 unfold nmT nmOf nmK
 cases h : kwK t with
 | none => simp
 | some k =>
   have := firstK_range _ _ _ _ h
   simp;omega
theorem signV_of (s : ByteArray) (p : Nat) (hp : p < s.size) (ho : stB s p opn = false) (hl : letB s[p] = false) : signV s p = WR.val p (wordR s p) := by
 unfold signV wordR
 rw [dif_pos hp,if_neg (by simp [ho]),if_neg (by simp [hl])]
 cases h : signK s p with
 | none => rfl
 | some k =>
   have := firstK_range _ _ _ _ h
   simp only [WR.val,nmOf]
   rw [if_neg (by omega)]
theorem signV_form (s : ByteArray) (p : Nat) : ∃ k' p' e' z' : Nat,signV s p = .tuple #[wv k' p' 0 ⟨#[]⟩,.int .i64 e',.int .i64 z'] := by
 unfold signV
 split
 ·exact ⟨_,_,0,_,rfl⟩
 ·exact ⟨0,0,2,0,rfl⟩
theorem bcell {W w1 : World} (hb : Below W.heap.size W w1) : (∀ b o,b < W.heap.size -> w1.cell? ⟨b,o,none⟩ = W.cell? ⟨b,o,none⟩) /\ (∀ b o,b < W.heap.size -> w1.frozen? ⟨b,o,none⟩ = W.frozen? ⟨b,o,none⟩) :=
 ⟨fun b o h => hb.cell (p := ⟨b,o,none⟩) h,fun b o h => hb.frozen (p := ⟨b,o,none⟩) h⟩
theorem wordAt_any (s : ByteArray) (hs : s.size <= 1000) (p : Nat) (hp : p < s.size) (w : World) (hT : TX w) (h0 : 2 < w.heap.size) :
 Calls Tryz.prog 175 #[.string s,.int .i64 p] w fun e w' => e = .returned (WR.val p (wordR s p)) /\ Below w.heap.size w w' := by
 have hb : Below w.heap.size w w := Below.refl _ _
 have hm : s.size <= maxLen := by unfold maxLen;omega
 by_cases ho : stB s p opn = true
 ·have HE : Hid (wordR s p = .err 2) := by show _ = _;rw [wordR,dif_pos hp,if_pos ho]
  go_enter Tryz.func175,Tryz.ntmps175
  go_wp2_with (first | (go_at_call 242;refine (standsAt_any _ _ _ _ hm (by unfold maxLen;show p + 2 <= _;omega)).mono ?_;rintro e w' ⟨rfl,rfl⟩))
  exact bodyPost_ret (v := .tuple #[wv 0 0 0 ⟨#[]⟩,.int .i64 2,.int .i64 0]) (by simp [results,Tryz.results175,go_sem]) rfl ⟨by rw [HE.out];rfl,hb.alloc (Nat.le_refl _) _⟩
 ·have ho' : stB s p opn = false := by simpa using ho
  clear ho
  by_cases hl : letB s[p] = true
  ·have hr : p < runE s p /\ runE s p <= s.size := by
    rw [runE_on s p hp hl]
    have := runE_le s s.size (p + 1) (by omega) (by omega)
    omega
   obtain ⟨z,hz⟩ : ∃ z,z = runE s p := ⟨_,rfl⟩
   rw [<- hz] at hr
   have HZ : Hid (z = runE s p) := hz
   clear hz
   have hx : (s.extract p z).size <= 1000 := by simp;omega
   go_enter Tryz.func175,Tryz.ntmps175
   go_wp2_with (first | (go_at_call 242;refine (standsAt_any _ _ _ _ hm (by unfold maxLen;show p + 2 <= _;omega)).mono ?_;rintro e w' ⟨rfl,rfl⟩) | (go_at_call 243;refine (isLetter_any _ _).mono ?_;rintro e w' ⟨rfl,rfl⟩))
   go_loop [7] (fun u => ∃ j : Nat,p <= j /\ j <= s.size /\ runE s j = z /\ u = .int .i64 j) (fun u => s.size - (intOf u).toNat)
   case atStart => exact ⟨p,Nat.le_refl _,by omega,HZ.out.symm,rfl⟩
   case round =>
    obtain ⟨j,hpj,hj,hf,rfl⟩ := hrel
    have HF : Hid (runE s j = z) := hf
    clear hf
    by_cases hg : ∃ h : j < s.size,letB s[j] = true
    ·obtain ⟨hlt,hlj⟩ := hg
     go_wp2_with (go_at_call 243;refine (isLetter_any _ _).mono ?_;rintro e w' ⟨rfl,rfl⟩)
     go_round
     case rel => exact ⟨j + 1,by omega,by omega,by rw [<- HF.out,runE_on s j hlt hlj],by go_num⟩
     case measure => simp [intOf];omega
    ·have hjz : j = z := by
      by_cases hlt : j < s.size
      ·by_cases hlj : letB s[j] = true
       ·exact absurd ⟨hlt,hlj⟩ hg
       ·rw [<- HF.out,runE_off s j hlt (by simpa using hlj)]
      ·rw [<- HF.out,runE_end s j hlt]
     clear HF
     subst hjz
     have hg' : ∀ h : j < s.size,letB s[j] = false := by
      intro h
      cases hh : letB s[j] with
      | false => rfl
      | true => exact absurd ⟨h,hh⟩ hg
     clear hg
     by_cases hd : digB s[p] = true
     ·cases hv : numV (s.extract p j) with
      | none =>
        have HE : Hid (wordR s p = .err 3) := by show _ = _;rw [wordR,dif_pos hp,if_neg (by simp [ho']),if_pos hl,if_pos hd,<- HZ.out,hv]
        by_cases hlt : j < s.size
        all_goals
         first | have hgj := hg' hlt | skip
         clear hg'
         go_wp2_with (first | (go_at_call 243;refine (isLetter_any _ _).mono ?_;rintro e w' ⟨rfl,rfl⟩) | (go_at_call 245;refine (isDigit_any _ _).mono ?_;rintro e w' ⟨rfl,rfl⟩) | (go_at_call 247;refine (numberOf_any _ hx _).mono ?_;rw [hv];rintro e w' ⟨rfl,rfl⟩;simp only [optI]))
         exact bodyPost_ret (v := .tuple #[wv 0 0 0 ⟨#[]⟩,.int .i64 3,.int .i64 0]) (by simp [results,Tryz.results175,go_sem]) rfl ⟨by rw [HE.out];rfl,hb.alloc (Nat.le_refl _) _⟩
      | some v =>
        have HE : Hid (wordR s p = .ok 1 v (s.extract p j) j) := by show _ = _;rw [wordR,dif_pos hp,if_neg (by simp [ho']),if_pos hl,if_pos hd,<- HZ.out,hv]
        by_cases hlt : j < s.size
        all_goals
         first | have hgj := hg' hlt | skip
         clear hg'
         go_wp2_with (first | (go_at_call 243;refine (isLetter_any _ _).mono ?_;rintro e w' ⟨rfl,rfl⟩) | (go_at_call 245;refine (isDigit_any _ _).mono ?_;rintro e w' ⟨rfl,rfl⟩) | (go_at_call 247;refine (numberOf_any _ hx _).mono ?_;rw [hv];rintro e w' ⟨rfl,rfl⟩;simp only [optI]))
         exact bodyPost_ret (v := .tuple #[wv 1 p v ⟨#[]⟩,.int .i64 0,.int .i64 j]) (by simp [results,Tryz.results175,go_sem]) rfl ⟨by rw [HE.out];rfl,hb.alloc (Nat.le_refl _) _⟩
     ·have hd' : digB s[p] = false := by simpa using hd
      have HE : Hid (wordR s p = .ok (nmK (s.extract p j)) 0 (s.extract p j) j) := by show _ = _;rw [wordR,dif_pos hp,if_neg (by simp [ho']),if_pos hl,if_neg hd,<- HZ.out]
      clear hd
      by_cases hlt : j < s.size
      all_goals
       first | have hgj := hg' hlt | skip
       clear hg'
       go_wp2_with (first | (go_at_call 243;refine (isLetter_any _ _).mono ?_;rintro e w' ⟨rfl,rfl⟩) | (go_at_call 245;refine (isDigit_any _ _).mono ?_;rintro e w' ⟨rfl,rfl⟩) | (go_at_call 246;refine (named_any _ _ _ (hT.below (hb.alloc (Nat.le_refl _) _) h0) (by first | (simp;done) | (simp;omega))).mono ?_;rintro e w' ⟨rfl,hb2⟩;obtain ⟨hc2,hf2⟩ := bcell hb2))
       have hsz := hb2.size
       simp at hsz
       exact bodyPost_ret (v := .tuple #[wv (nmK (s.extract p j)) p 0 (nmT (s.extract p j)),.int .i64 0,.int .i64 j]) (by simp [results,Tryz.results175,go_sem,hc2]) rfl ⟨by rw [HE.out,nmT_of];rfl,(((((hb.alloc (Nat.le_refl _) _).trans (hb2.mono (by simp))).setCell (Nat.le_refl _) _).setCell (Nat.le_refl _) _).setCell (Nat.le_refl _) _).setCell (Nat.le_refl _) _⟩
  ·have hl' : letB s[p] = false := by simpa using hl
   have HE : Hid (signV s p = WR.val p (wordR s p)) := signV_of s p hp ho' hl'
   clear hl
   obtain ⟨k',p',e',z',HV⟩ := signV_form s p
   have HV : Hid (signV s p = .tuple #[wv k' p' 0 ⟨#[]⟩,.int .i64 e',.int .i64 z']) := HV
   go_enter Tryz.func175,Tryz.ntmps175
   go_wp2_with (first | (go_at_call 243;refine (isLetter_any _ _).mono ?_;rintro e w' ⟨rfl,rfl⟩) | (go_at_call 245;refine (isDigit_any _ _).mono ?_;rintro e w' ⟨rfl,rfl⟩) | (go_at_call 242;refine (standsAt_any _ _ _ _ hm (by unfold maxLen;show p + 2 <= _;omega)).mono ?_;rintro e w' ⟨rfl,rfl⟩) | (go_at_call 244;refine (signAt_any s hs p (by omega) _ (hT.below (hb.alloc (Nat.le_refl _) _) h0) (by first | (simp;done) | (simp;omega))).mono ?_;rw [HV.out];rintro e w' ⟨rfl,hb2⟩;obtain ⟨hc2,hf2⟩ := bcell hb2))
   have hsz := hb2.size
   simp at hsz
   exact bodyPost_ret (v := .tuple #[wv k' p' 0 ⟨#[]⟩,.int .i64 e',.int .i64 z']) (by simp [results,Tryz.results175,go_sem,hc2]) rfl ⟨by rw [<- HE.out,HV.out],(((((hb.alloc (Nat.le_refl _) _).trans (hb2.mono (by simp))).setCell (Nat.le_refl _) _).setCell (Nat.le_refl _) _).setCell (Nat.le_refl _) _).setCell (Nat.le_refl _) _⟩
end Go.Proofs.YtmkdoejpgkgpbaaGreatDoor
namespace Go.Proofs.YtmkdoejpgkgpbaaGreatDoor
namespace Sl
def valF (n : Nat) (l : List UInt8) : Nat := l.foldl (fun a c => a * 10 + (c.toNat - 48)) n
theorem valF_cons (n : Nat) (c : UInt8) (l : List UInt8) : valF n (c :: l) = valF (n * 10 + (c.toNat - 48)) l := by unfold valF;rw [List.foldl_cons]
theorem valF_snoc (n : Nat) (c : UInt8) (l : List UInt8) : valF n (l ++ [c]) = valF n l * 10 + (c.toNat - 48) := by simp [valF]
theorem valF_ge (l : List UInt8) : ∀ n,n <= valF n l := by
 induction l with
 | nil => intro n;exact Nat.le_refl _
 | cons c r ih => intro n;rw [valF_cons];have := ih (n * 10 + (c.toNat - 48));omega
theorem decF_spec (l : List UInt8) : ∀ n,n <= 4611686018427387903 -> decF n l = if l.all digB = true /\ valF n l <= 4611686018427387903 then some (valF n l) else none := by
 induction l with
 | nil => intro n h;simp [decF,valF,h]
 | cons c r ih =>
   intro n h
   rw [decF]
   by_cases hd : digB c = true
   ·rw [if_pos hd,valF_cons]
    by_cases hv : n * 10 + (c.toNat - 48) <= 4611686018427387903
    ·rw [if_pos hv,ih _ hv];simp [hd]
    ·rw [if_neg hv,if_neg]
     rintro ⟨_,h2⟩
     have := valF_ge r (n * 10 + (c.toNat - 48))
     omega
   ·rw [if_neg hd,if_neg]
    rintro ⟨h2,_⟩
    simp at h2
    exact hd h2.1
theorem valF_lt (l : List UInt8) (h : l.all digB = true) : ∀ n,valF n l < (n + 1) * 10 ^ l.length := by
 induction l with
 | nil => intro n;simp [valF]
 | cons c r ih =>
   intro n
   simp at h
   have hc : 48 <= c.toNat /\ c.toNat <= 57 := by simpa [digB] using h.1
   rw [valF_cons,List.length_cons,Nat.pow_succ]
   have h1 := ih (by simpa using h.2) (n * 10 + (c.toNat - 48))
   have h2 : (n * 10 + (c.toNat - 48) + 1) * 10 ^ r.length <= ((n + 1) * 10) * 10 ^ r.length := Nat.mul_le_mul_right _ (by omega)
   have h3 : (n + 1) * 10 * 10 ^ r.length = (n + 1) * (10 ^ r.length * 10) := by rw [Nat.mul_assoc,Nat.mul_comm 10]
   omega
theorem valF_add (l : List UInt8) : ∀ n,valF n l = n * 10 ^ l.length + valF 0 l := by
 induction l with
 | nil => intro n;simp [valF]
 | cons c r ih =>
   intro n
   rw [valF_cons,valF_cons,ih,ih (0 * 10 + _),List.length_cons,Nat.pow_succ]
   have : (n * 10 + (c.toNat - 48)) * 10 ^ r.length = n * (10 ^ r.length * 10) + (c.toNat - 48) * 10 ^ r.length := by
    rw [Nat.add_mul,Nat.mul_assoc,Nat.mul_comm 10]
   simp only [Nat.zero_mul,Nat.zero_add]
   omega
def leB (a b : List UInt8) : Bool := Op.bytesLess a b || a == b
theorem leB_spec : ∀ (a b : List UInt8),a.length = b.length -> a.all digB = true -> b.all digB = true -> ∀ n,leB a b = decide (valF n a <= valF n b) := by
 intro a
 induction a with
 | nil =>
   intro b hl _ _ n
   cases b with
   | nil => simp [leB,valF]
   | cons => simp at hl
 | cons c r ih =>
   intro b hl ha hb n
   cases b with
   | nil => simp at hl
   | cons d q =>
     simp at hl ha hb
     have hc : 48 <= c.toNat /\ c.toNat <= 57 := by simpa [digB] using ha.1
     have hd : 48 <= d.toNat /\ d.toNat <= 57 := by simpa [digB] using hb.1
     rw [valF_cons,valF_cons]
     by_cases hcd : c = d
     ·subst hcd
      rw [<- ih q hl (by simpa using ha.2) (by simpa using hb.2)]
      simp [leB,Op.bytesLess]
     ·have hne : c.toNat ≠ d.toNat := fun h => hcd (UInt8.toNat_inj.1 h)
      have hra := valF_lt r (by simpa using ha.2) 0
      have hqb := valF_lt q (by simpa using hb.2) 0
      rw [valF_add r,valF_add q,hl]
      rw [hl] at hra
      obtain ⟨P,hP⟩ : ∃ P,P = 10 ^ q.length := ⟨_,rfl⟩
      rw [<- hP] at hra hqb ⊢
      rw [Nat.zero_add,Nat.one_mul] at hra hqb
      by_cases hlt : c.toNat < d.toNat
      ·have e1 : leB (c :: r) (d :: q) = true := by simp [leB,Op.bytesLess,UInt8.lt_iff_toNat_lt,hlt]
       rw [e1]
       symm
       rw [decide_eq_true_eq]
       have : (n * 10 + (c.toNat - 48) + 1) * P <= (n * 10 + (d.toNat - 48)) * P := Nat.mul_le_mul_right _ (by omega)
       rw [Nat.add_mul,Nat.one_mul] at this
       omega
      ·have e1 : leB (c :: r) (d :: q) = false := by
        simp [leB,Op.bytesLess,UInt8.lt_iff_toNat_lt,hlt,hcd]
       rw [e1]
       symm
       rw [decide_eq_false_iff_not]
       have : (n * 10 + (d.toNat - 48) + 1) * P <= (n * 10 + (c.toNat - 48)) * P := Nat.mul_le_mul_right _ (by omega)
       rw [Nat.add_mul,Nat.one_mul] at this
       omega
def most : ByteArray := ⟨#[52,54,49,49,54,56,54,48,49,56,52,50,55,51,56,55,57,48,51]⟩
theorem most_val : valF 0 most.data.toList = 4611686018427387903 := by decide
theorem most_all : most.data.toList.all digB = true := by decide
end Sl
end Go.Proofs.YtmkdoejpgkgpbaaGreatDoor
namespace Go.Proofs.YtmkdoejpgkgpbaaGreatDoor
namespace Sl
def numN : ByteArray := ⟨#[110,117,109]⟩
def idN : ByteArray := ⟨#[105,100]⟩
def endN : ByteArray := ⟨#[101,110,100]⟩
def kindS (t : ByteArray) : ByteArray := if (kwK t).isSome then t else if h : 0 < t.size then (if digB t[0] then numN else if smlB t[0] then idN else t) else t
def kName (k : Nat) (t : ByteArray) : ByteArray := if k = 0 then endN else if k = 1 then numN else if k = 2 then idN else t
theorem toList_inj {a b : ByteArray} (h : a.toList = b.toList) : a = b := by
 rw [ByteArray.toList_eq,ByteArray.toList_eq] at h
 cases a;cases b
 simp at h
 rw [h]
theorem kw_none_of_digit (t : ByteArray) (h : 0 < t.size) (hd : digB t[0] = true) : kwK t = none := by
 cases hk : kwK t with
 | none => rfl
 | some k =>
   exfalso
   have h1 := firstK_range _ _ _ _ hk
   have h2 : txt k = t := toList_inj (by simpa using h1.2.2)
   have : ∀ k : Fin 18,3 <= k.val -> (if h : 0 < (txt k.val).size then digB (txt k.val)[0] else false) = false := by decide
   have h3 := this ⟨k,by omega⟩ h1.1
   subst h2
   simp only [h,dif_pos] at h3
   rw [h3] at hd;cases hd
theorem kName_big {k : Nat} {t : ByteArray} (h : 3 <= k) : kName k t = t := by
 unfold kName
 rw [if_neg (by omega),if_neg (by omega),if_neg (by omega)]
theorem kwK_data (t : ByteArray) : kwK t = firstK (fun k => (txt k).data.toList == t.data.toList) 3 15 := by
 unfold kwK
 congr 1
 funext k
 rw [ByteArray.toList_eq,ByteArray.toList_eq]
theorem sign_kind (k : Nat) (h1 : 18 <= k) (h2 : k < 35) : kindS (txt k) = txt k := by
 have hk : ∀ k : Fin 35,18 <= k.val -> firstK (fun j => (txt j).data.toList == (txt k.val).data.toList) 3 15 = none := by decide
 have hd : ∀ k : Fin 35,18 <= k.val -> (if h : 0 < (txt k.val).size then digB (txt k.val)[0] || smlB (txt k.val)[0] else false) = false := by decide
 have e1 := hk ⟨k,h2⟩ h1
 have e2 := hd ⟨k,h2⟩ h1
 rw [<- kwK_data] at e1
 simp only at e1 e2
 unfold kindS
 rw [e1,if_neg (by simp)]
 split
 ·rename_i h
  rw [dif_pos h] at e2
  simp only [Bool.or_eq_false_iff] at e2
  rw [if_neg (by simp [e2.1]),if_neg (by simp [e2.2])]
 ·rfl
theorem extract_zero (s : ByteArray) (p z : Nat) (h1 : p < z) (h2 : z <= s.size) (h : 0 < (s.extract p z).size) : (s.extract p z)[0] = s[p] := by
 simp [ByteArray.getElem_extract]
theorem word_kind {s : ByteArray} {p k n z : Nat} {t : ByteArray} (h : wordR s p = .ok k n t z) :
 0 < t.size /\ z = p + t.size /\ kindS t = kName k t /\ ((kindS t).toList == numN.toList) = decide (k = 1) /\ t.size <= s.size := by
 have hle := wordR_le h
 unfold wordR at h
 split at h
 ·rename_i hp
  split at h
  ·simp at h
  ·split at h
   ·rename_i hl
    have h1 : p < runE s p /\ runE s p <= s.size := by
     rw [runE_on s p hp hl]
     have := runE_le s s.size (p + 1) (by omega) (by omega)
     omega
    have hsz : (s.extract p (runE s p)).size = runE s p - p := by simp;omega
    have h0 : 0 < (s.extract p (runE s p)).size := by omega
    have hz := extract_zero s p (runE s p) h1.1 h1.2 h0
    split at h
    ·rename_i hd
     split at h
     ·simp at h
      obtain ⟨rfl,_,rfl,rfl⟩ := h
      have hk := kw_none_of_digit _ h0 (by rw [hz];exact hd)
      have e : kindS (s.extract p (runE s p)) = numN := by
       unfold kindS
       rw [hk,if_neg (by simp),dif_pos h0,if_pos (by rw [hz];exact hd)]
      refine ⟨h0,by omega,by rw [e];rfl,by rw [e];simp,by omega⟩
     ·simp at h
    ·rename_i hd
     simp at h
     obtain ⟨rfl,_,rfl,rfl⟩ := h
     cases hk : kwK (s.extract p (runE s p)) with
     | some k =>
       have hr := firstK_range _ _ _ _ hk
       have e1 : nmK (s.extract p (runE s p)) = k := by unfold nmK;rw [hk];rfl
       have e : kindS (s.extract p (runE s p)) = s.extract p (runE s p) := by
        unfold kindS
        rw [hk,if_pos (by simp)]
       rw [e1,e,kName_big (by omega)]
       refine ⟨h0,by omega,rfl,?_,by omega⟩
       have h2 : txt k = s.extract p (runE s p) := toList_inj (by simpa using hr.2.2)
       have : ∀ k : Fin 18,3 <= k.val -> ((txt k.val).data.toList == numN.data.toList) = false := by decide
       have h3 := this ⟨k,by omega⟩ hr.1
       rw [<- h2,ByteArray.toList_eq,ByteArray.toList_eq]
       simp only at h3
       rw [h3];simp;omega
     | none =>
       have e1 : nmK (s.extract p (runE s p)) = 2 := by unfold nmK;rw [hk];rfl
       have hsm : smlB (s.extract p (runE s p))[0] = true := by
        rw [hz]
        simp only [letB,Bool.or_eq_true] at hl
        rcases hl with hl | hl
        ·exact absurd hl hd
        ·exact hl
       have e : kindS (s.extract p (runE s p)) = idN := by
        unfold kindS
        rw [hk,if_neg (by simp),dif_pos h0,if_neg (by rw [hz];exact hd),if_pos hsm]
       rw [e1,e]
       refine ⟨h0,by omega,rfl,?_,by omega⟩
       rw [ByteArray.toList_eq,ByteArray.toList_eq];rfl
   ·split at h
    ·rename_i k' hk
     simp at h
     obtain ⟨rfl,_,rfl,rfl⟩ := h
     have hr := firstK_range _ _ _ _ hk
     have e := sign_kind k' hr.1 (by omega)
     have hst := stB_size hr.2.2
     refine ⟨by omega,rfl,by rw [e,kName_big (by omega)],?_,by omega⟩
     rw [e]
     have : ∀ k : Fin 35,18 <= k.val -> ((txt k.val).data.toList == numN.data.toList) = false := by decide
     have h3 := this ⟨k',by omega⟩ hr.1
     rw [ByteArray.toList_eq,ByteArray.toList_eq]
     simp only at h3
     rw [h3];simp;omega
    ·simp at h
 ·simp at h
theorem word_letters {s : ByteArray} {p : Nat} (hp : p < s.size) (ho : stB s p opn = false) (hl : letB s[p] = true) (hd : digB s[p] = false) :
 wordR s p = .ok (nmK (s.extract p (runE s p))) 0 (s.extract p (runE s p)) (runE s p) := by
 rw [wordR,dif_pos hp,if_neg (by simp [ho]),if_pos hl,if_neg (by simp [hd])]
theorem opn_char {s : ByteArray} {p : Nat} (hp : p < s.size) (h : stB s p opn = true) : s[p].toNat = 40 := by
 unfold stB at h
 simp only [Bool.and_eq_true,decide_eq_true_eq,beq_iff_eq] at h
 have e1 : opn.size = 2 := rfl
 rw [e1] at h
 have h2 := h.2
 rw [Lib.extract_toList,dataget s p hp] at h2
 have e2 : opn.toList = [40,42] := by rw [ByteArray.toList_eq]
 rw [e2,show p + 2 - p = 1 + 1 by omega,List.take_succ_cons] at h2
 simp at h2
 rw [h2.1];rfl
theorem skp_word {s : ByteArray} {p : Nat} (hp : p < s.size) (ho : stB s p opn = false) (hb : blkB s[p] = false) : skp s p = p := by
 rw [skp_stay s p hp hb]
 rw [rEnd,if_neg (by simp [ho])];omega
theorem skp_open_none {s : ByteArray} {p : Nat} (hp : p < s.size) (ho : stB s p opn = true) (hr : rem s (p + 2) = none) : skp s p = p /\ wordR s p = .err 2 := by
 have hc := opn_char hp ho
 have hb : blkB s[p] = false := by simp [blkB,hc]
 refine ⟨?_,by rw [wordR,dif_pos hp,if_pos ho]⟩
 rw [skp_stay s p hp hb]
 rw [rEnd,if_pos ho,hr];simp
theorem skp_open_some {s : ByteArray} {p j : Nat} (hp : p < s.size) (ho : stB s p opn = true) (hr : rem s (p + 2) = some j) : skp s p = skp s j := by
 have hc := opn_char hp ho
 have hb : blkB s[p] = false := by simp [blkB,hc]
 have e : rEnd s p = j := by rw [rEnd,if_pos ho,hr]
 have := rem_gt hr
 rw [skp_rem s p hp hb (by omega),e]
end Sl
end Go.Proofs.YtmkdoejpgkgpbaaGreatDoor
namespace Go.Proofs.YtmkdoejpgkgpbaaGreatDoor
open Go.RowKit
theorem own_below {w w1 : World} {base size n : Nat} {e : TypeId} {v : Value} {xs : List Value} (h : w.ownsRow base e size v n xs) (hb : Below w.heap.size w w1) : w1.ownsRow base e size v n xs := by
 refine ⟨h.1,?_⟩
 rcases h.2 with h' | ⟨g,cap,cur,h1,h2,h3,h4⟩
 ·exact .inl h'
 ·refine .inr ⟨g,cap,cur,h1,h2,?_,h4⟩
  have hg : g < w.heap.size := by
   rcases Nat.lt_or_ge g w.heap.size with h | h
   ·exact h
   ·rw [Array.getElem?_eq_none h] at h3;simp at h3
  rw [hb.block g hg];exact h3
theorem cells_new (w : World) (arr : List Value) (e : TypeId) (b : Nat) (hb : b = w.heap.size) : ∀ j u,arr[j]? = some u -> (w.alloc (.cells arr.toArray e)).cell? ((⟨b,0,none⟩ : Addr).add j) = some u := by
 intro j u hj
 subst hb
 have := World.cell?_alloc_new (w := w) arr.toArray e j
 have ha : (⟨w.heap.size,0,none⟩ : Addr).add j = ⟨w.heap.size,j,none⟩ := by
  unfold Addr.add
  split
  ·rename_i h;rw [h]
  ·simp
 rw [ha,this];simpa using hj
theorem own_ge {w : World} {base size n : Nat} {e : TypeId} {v : Value} {xs : List Value} (h : w.ownsRow base e size v n xs) : ∀ k,v.ownBlock = some k -> base <= k :=
 fun k hk => (h.lt k hk).1
theorem below_app {B : Nat} {w wr w3 : World} {row : Option Nat} (h : Below B w wr) (hB : B <= wr.heap.size) (o : Obj) (hg : (wr.alloc o).grownBy w3 row) (hr : ∀ k,row = some k -> B <= k) : Below B w w3 :=
 (h.alloc hB o).grown hg (by have := World.size_alloc (w := wr) o;omega) hr
theorem below_app2 {B : Nat} {w wr w1 w3 : World} {row : Option Nat} (h : Below B w wr) (hB : B <= wr.heap.size) (h2 : Below wr.heap.size wr w1) (o1 o2 : Obj) (hg : ((w1.alloc o1).alloc o2).grownBy w3 row) (hr : ∀ k,row = some k -> B <= k) : Below B w w3 := by
 have hs := h2.size
 have h3 : Below B w (w1.alloc o1) := (h.trans (h2.mono hB)).alloc (by omega) o1
 have := World.size_alloc (w := w1) o1
 exact below_app h3 (by omega) o2 hg hr
end Go.Proofs.YtmkdoejpgkgpbaaGreatDoor
