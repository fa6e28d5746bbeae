import Derived.Test.YtmkdoejpgkgpbaaGreatDoorS01
set_option linter.unusedVariables false
set_option linter.unusedSimpArgs false
set_option maxHeartbeats 20000000
namespace Go.Proofs.YtmkdoejpgkgpbaaGreatDoor
open Go.RowKit Sl
theorem sign_row : ∀ k : Nat,k < 17 -> (#[.string ⟨#[46,40]⟩,.string ⟨#[60,62]⟩,.string ⟨#[60,61]⟩,.string ⟨#[62,61]⟩,.string ⟨#[45,62]⟩,.string ⟨#[40]⟩,.string ⟨#[41]⟩,.string ⟨#[44]⟩,.string ⟨#[59]⟩,.string ⟨#[61]⟩,.string ⟨#[60]⟩,.string ⟨#[62]⟩,.string ⟨#[43]⟩,.string ⟨#[45]⟩,.string ⟨#[42]⟩,.string ⟨#[47]⟩,.string ⟨#[37]⟩] : Array Value)[k]? = some (.string (txt (18 + k)))
 | 0,_ => rfl | 1,_ => rfl | 2,_ => rfl | 3,_ => rfl | 4,_ => rfl | 5,_ => rfl | 6,_ => rfl | 7,_ => rfl | 8,_ => rfl | 9,_ => rfl | 10,_ => rfl | 11,_ => rfl | 12,_ => rfl | 13,_ => rfl | 14,_ => rfl | 15,_ => rfl | 16,_ => rfl | k + 17,h => absurd h (by omega)
theorem kind_row : ∀ k : Nat,k < 15 -> (#[.string ⟨#[108,101,116]⟩,.string ⟨#[114,101,99]⟩,.string ⟨#[105,110]⟩,.string ⟨#[105,102]⟩,.string ⟨#[116,104,101,110]⟩,.string ⟨#[101,108,115,101]⟩,.string ⟨#[102,117,110]⟩,.string ⟨#[110,111,116]⟩,.string ⟨#[116,114,117,101]⟩,.string ⟨#[102,97,108,115,101]⟩,.string ⟨#[114,101,97,100]⟩,.string ⟨#[112,114,105,110,116]⟩,.string ⟨#[108,101,110]⟩,.string ⟨#[97,114,114,97,121]⟩,.string ⟨#[112,117,116]⟩] : Array Value)[k]? = some (.string (txt (3 + k)))
 | 0,_ => rfl | 1,_ => rfl | 2,_ => rfl | 3,_ => rfl | 4,_ => rfl | 5,_ => rfl | 6,_ => rfl | 7,_ => rfl | 8,_ => rfl | 9,_ => rfl | 10,_ => rfl | 11,_ => rfl | 12,_ => rfl | 13,_ => rfl | 14,_ => rfl | k + 15,h => absurd h (by omega)
def sgT (s : ByteArray) (i : Nat) : ByteArray := match signK s i with
 | some k => txt k
 | none => ⟨#[]⟩
set_option maxRecDepth 100000 in
theorem sign_any (s : ByteArray) (hs : s.size <= 1000) (p : Nat) (hp : p <= s.size) (w : World) :
 Calls Tryz.prog 110 #[.string s,.int .i64 p] w fun e w' => e = .returned (.string (sgT s p)) /\ Below w.heap.size w w' := by
 have hm : s.size <= maxLen := by unfold maxLen;omega
 go_enter Tryz.func110,Tryz.ntmps110
 go_wp2_with fail
 go_loopw [6] (fun u wr => ∃ k : Nat,k <= 17 /\ firstK (fun k => stB s p (txt k)) (18 + k) (17 - k) = signK s p /\ u = .int .i64 k /\ Below w.heap.size w wr /\ (∀ k : Nat,k < 17 -> wr.cell? ⟨w.heap.size,k,none⟩ = some (.string (txt (18 + k))))) (fun u _ => 17 - (intOf u).toNat)
 case atStart => exact ⟨0,by omega,rfl,rfl,(Below.refl _ _).alloc (Nat.le_refl _) _,fun k hk => (World.cell?_alloc_new (w := w) _ _ k).trans (sign_row k hk)⟩
 case round =>
  obtain ⟨k,hk,hf,rfl,hb,hrow⟩ := hrel
  have HF : Hid (firstK (fun k => stB s p (txt k)) (18 + k) (17 - k) = signK s p) := hf
  clear hf
  have hz := txt_size (18 + k)
  by_cases hlt : k < 17
  ·have hc := hrow k hlt
   by_cases he : stB s p (txt (18 + k)) = true
   ·have HE : Hid (signK s p = some (18 + k)) := by
     show _ = _
     rw [<- HF.out,show 17 - k = (16 - k) + 1 by omega,firstK,if_pos he]
    clear hrow
    go_wp2_with (go_at_call 107;refine (starts_any _ _ _ _ hm (by unfold maxLen;omega)).mono ?_;rintro e w' ⟨rfl,rfl⟩)
    go_ret
    exact ⟨ret_str (by rw [sgT,HE.out]),hb⟩
   ·have he' : stB s p (txt (18 + k)) = false := by simpa using he
    have HE : Hid (firstK (fun k => stB s p (txt k)) (18 + (k + 1)) (17 - (k + 1)) = signK s p) := by
     show _ = _
     rw [<- HF.out,show 17 - k = (17 - (k + 1)) + 1 by omega,firstK,if_neg he];rfl
    clear he
    have HW : Hid (∀ k : Nat,k < 17 -> wr.cell? ⟨w.heap.size,k,none⟩ = some (.string (txt (18 + k)))) := hrow
    clear hrow
    go_wp2_with (go_at_call 107;refine (starts_any _ _ _ _ hm (by unfold maxLen;omega)).mono ?_;rintro e w' ⟨rfl,rfl⟩)
    go_roundw
    case rel => exact ⟨k + 1,by omega,HE.out,by go_num,hb,HW.out⟩
    case measure => simp [intOf];omega
  ·have HE : Hid (signK s p = none) := by
    show _ = _
    rw [<- HF.out,show 17 - k = 0 by omega,firstK]
   clear hrow
   go_wp2_with fail
   go_ret
   exact ⟨ret_str (by rw [sgT,HE.out]),hb⟩
set_option maxRecDepth 100000 in
theorem kind_any (t : ByteArray) (ht : 0 < t.size) (hm : t.size <= 1000) (w : World) :
 Calls Tryz.prog 111 #[.string t] w fun e w' => e = .returned (.string (kindS t)) /\ Below w.heap.size w w' := by
 go_enter Tryz.func111,Tryz.ntmps111
 go_wp2_with fail
 go_loopw [4] (fun u wr => ∃ k : Nat,k <= 15 /\ firstK (fun k => (txt k).toList == t.toList) (3 + k) (15 - k) = kwK t /\ u = .int .i64 k /\ Below w.heap.size w wr /\ (∀ k : Nat,k < 15 -> wr.cell? ⟨w.heap.size,k,none⟩ = some (.string (txt (3 + k))))) (fun u _ => 15 - (intOf u).toNat)
 case atStart => exact ⟨0,by omega,rfl,rfl,(Below.refl _ _).alloc (Nat.le_refl _) _,fun k hk => (World.cell?_alloc_new (w := w) _ _ k).trans (kind_row k hk)⟩
 case round =>
  obtain ⟨k,hk,hf,rfl,hb,hrow⟩ := hrel
  have HF : Hid (firstK (fun k => (txt k).toList == t.toList) (3 + k) (15 - k) = kwK t) := hf
  clear hf
  by_cases hlt : k < 15
  ·have hc := hrow k hlt
   by_cases he : ((txt (3 + k)).toList == t.toList) = true
   ·have HE : Hid (kwK t = some (3 + k)) := by
     show _ = _
     rw [<- HF.out,show 15 - k = (14 - k) + 1 by omega,firstK,if_pos he]
    clear hrow
    go_wp2_with fail
    go_ret
    exact ⟨ret_str (by rw [kindS,HE.out];rfl),hb⟩
   ·have he' : ((txt (3 + k)).toList == t.toList) = false := by simpa using he
    have HE : Hid (firstK (fun k => (txt k).toList == t.toList) (3 + (k + 1)) (15 - (k + 1)) = kwK t) := by
     show _ = _
     rw [<- HF.out,show 15 - k = (15 - (k + 1)) + 1 by omega,firstK,if_neg he];rfl
    clear he
    have HW : Hid (∀ k : Nat,k < 15 -> wr.cell? ⟨w.heap.size,k,none⟩ = some (.string (txt (3 + k)))) := hrow
    clear hrow
    go_wp2_with fail
    go_roundw
    case rel => exact ⟨k + 1,by omega,HE.out,by go_num,hb,HW.out⟩
    case measure => simp [intOf];omega
  ·have HE : Hid (kwK t = none) := by
    show _ = _
    rw [<- HF.out,show 15 - k = 0 by omega,firstK]
   clear hrow
   by_cases hd : digB t[0] = true
   ·go_wp2_with (first | (go_at_call 182;refine (digit_any _ _).mono ?_;rintro e w' ⟨rfl,rfl⟩))
    go_ret
    exact ⟨ret_str (by rw [kindS,HE.out,if_neg (by simp),dif_pos ht,if_pos hd];rfl),hb⟩
   ·have hd' : digB t[0] = false := by simpa using hd
    clear hd
    by_cases hl : smlB t[0] = true
    ·go_wp2_with (first | (go_at_call 182;refine (digit_any _ _).mono ?_;rintro e w' ⟨rfl,rfl⟩) | (go_at_call 183;refine (small_any _ _).mono ?_;rintro e w' ⟨rfl,rfl⟩))
     go_ret
     exact ⟨ret_str (by rw [kindS,HE.out,if_neg (by simp),dif_pos ht,if_neg (by simp [hd']),if_pos hl];rfl),hb⟩
    ·have hl' : smlB t[0] = false := by simpa using hl
     clear hl
     go_wp2_with (first | (go_at_call 182;refine (digit_any _ _).mono ?_;rintro e w' ⟨rfl,rfl⟩) | (go_at_call 183;refine (small_any _ _).mono ?_;rintro e w' ⟨rfl,rfl⟩))
     go_ret
     exact ⟨ret_str (by rw [kindS,HE.out,if_neg (by simp),dif_pos ht,if_neg (by simp [hd']),if_neg (by simp [hl'])]),hb⟩
def sLen : Value -> Nat
 | .string s => s.size
 | _ => 0
theorem digit_range {c : UInt8} (h : digB c = true) : 48 <= c.toNat /\ c.toNat <= 57 := by simpa [digB] using h
theorem list_get (t : ByteArray) (k : Nat) (h : k < t.size) : t.data.toList.take (k + 1) = t.data.toList.take k ++ [t[k]] := by
 rw [List.take_succ_eq_append_getElem (by simpa using h)];rfl
theorem len_data (t : ByteArray) : t.data.toList.length = t.size := by simp
theorem decF_many (t : ByteArray) (h : 19 < t.size) (h0 : ¬ t[0].toNat = 48) : decF 0 t.data.toList = none := by
 rw [decF_spec _ 0 (by omega),if_neg]
 rintro ⟨ha,hv⟩
 have e : t.data.toList = t[0] :: t.data.toList.drop 1 := by
  have := dataget t 0 (by omega)
  simpa using this
 rw [e] at ha hv
 rw [valF_cons,valF_add] at hv
 have hl : (t.data.toList.drop 1).length = t.size - 1 := by rw [List.length_drop,len_data]
 rw [hl] at hv
 simp only [List.all_cons,Bool.and_eq_true] at ha
 have hr := digit_range ha.1
 have hp : 10 ^ 19 <= 10 ^ (t.size - 1) := Nat.pow_le_pow_right (by omega) (by omega)
 have : 1 * 10 ^ (t.size - 1) <= (0 * 10 + (t[0].toNat - 48)) * 10 ^ (t.size - 1) := Nat.mul_le_mul_right _ (by omega)
 have h19 : 10 ^ 19 = 10000000000000000000 := rfl
 omega
theorem decF_bad (t : ByteArray) (k : Nat) (h : k < t.size) (hd : digB t[k] = false) : decF 0 t.data.toList = none := by
 rw [decF_spec _ 0 (by omega),if_neg]
 rintro ⟨ha,_⟩
 rw [List.all_eq_true] at ha
 have := ha t[k] (by simp [ByteArray.getElem_eq_getElem_data])
 rw [this] at hd;cases hd
theorem decF_all (t : ByteArray) (ha : t.data.toList.all digB = true) (h : t.size <= 19) :
 decF 0 t.data.toList = if (decide (t.size < 19) || leB t.toList most.toList) = true then some (valF 0 t.data.toList) else none := by
 rw [decF_spec _ 0 (by omega)]
 have hlt := valF_lt _ ha 0
 rw [len_data,Nat.zero_add,Nat.one_mul] at hlt
 by_cases h9 : t.size < 19
 ·rw [if_pos (show (decide (t.size < 19) || leB t.toList most.toList) = true by simp [h9])]
  refine if_pos ⟨ha,?_⟩
  have hp : 10 ^ t.size <= 10 ^ 18 := Nat.pow_le_pow_right (by omega) (by omega)
  have h18 : 10 ^ 18 = 1000000000000000000 := rfl
  omega
 ·have h19 : t.size = 19 := by omega
  have hle := leB_spec t.data.toList most.data.toList (by rw [len_data,h19];rfl) ha most_all 0
  rw [most_val] at hle
  rw [ByteArray.toList_eq,ByteArray.toList_eq,hle]
  simp [h9,ha]
theorem valF_lt19 (t : ByteArray) (k : Nat) (h : t.size <= 19) (hk : k < t.size) (ha : (t.data.toList.take k).all digB = true) : valF 0 (t.data.toList.take k) < 1000000000000000000 := by
 have hlt := valF_lt _ ha 0
 rw [List.length_take,len_data,Nat.zero_add,Nat.one_mul] at hlt
 have hp : 10 ^ (min k t.size) <= 10 ^ 18 := Nat.pow_le_pow_right (by omega) (by omega)
 have h18 : 10 ^ 18 = 1000000000000000000 := rfl
 omega
theorem isSome_if (b : Bool) (v : Nat) : (if b = true then some v else none).isSome = b := by cases b <;> rfl
set_option maxRecDepth 100000 in
theorem value_any (s : ByteArray) (hs : s.size <= 1000) (w : World) :
 Calls Tryz.prog 112 #[.string s] w fun e w' => ∃ x : Int,e = .returned (.tuple #[.int .i64 x,.bool (numV s).isSome]) /\ (∀ v,numV s = some v -> x = v) /\ w' = w := by
 go_enter Tryz.func112,Tryz.ntmps112
 go_wp2_with fail
 go_loop [0] (fun u => ∃ t : ByteArray,t.size <= 1000 /\ decF 0 t.data.toList = numV s /\ u = .string t) (fun u => sLen u)
 case atStart => exact ⟨s,hs,rfl,rfl⟩
 case round =>
  obtain ⟨t,ht,hd,rfl⟩ := hrel
  have HD : Hid (decF 0 t.data.toList = numV s) := hd
  clear hd
  by_cases hz : ∃ h : 1 < t.size,t[0].toNat = 48
  ·obtain ⟨h1,h2⟩ := hz
   have HN : Hid (decF 0 (t.extract 1 t.size).data.toList = numV s) := by
    show _ = _
    rw [<- HD.out,Lib.extract_data,List.take_of_length_le (by simp)]
    have e := dataget t 0 (by omega)
    simp only [List.drop_zero] at e
    have hdg : digB t[0] = true := by simp [digB,h2]
    rw [e,decF_dig hdg,h2]
    simp
   have h2' : ((t[0].toNat : Int) == 48) = true := by simp [h2]
   clear h2
   go_wp2_with fail
   go_round
   case rel => exact ⟨t.extract 1 t.size,by simp;omega,HN.out,rfl⟩
   case measure => simp [sLen];omega
  ·have hz' : ∀ h : 1 < t.size,((t[0].toNat : Int) == 48) = false := by
    intro h
    cases hh : ((t[0].toNat : Int) == 48) with
    | false => rfl
    | true => exact absurd ⟨h,by have := eq_of_beq hh;omega⟩ hz
   clear hz
   have HM : Hid (19 < t.size -> numV s = none) := by
    intro h
    rw [<- HD.out]
    exact decF_many t h (fun h' => by have := hz' (by omega);simp [h'] at this)
   by_cases h1 : 1 < t.size
   all_goals
    first | have h0 := hz' h1 | skip
    clear hz'
    go_wp2_with fail
    go_loop [5,6] (fun u v => ∃ (x : Int) (k : Nat),k <= t.size /\ (t.size <= 19 \/ k = 0) /\ (t.data.toList.take k).all digB = true /\ (valF 0 (t.data.toList.take k) <= 9223372036854775807 -> x = valF 0 (t.data.toList.take k)) /\ u = .int .i64 x /\ v = .int .i64 k) (fun _ v => t.size - (intOf v).toNat)
    case atStart => exact ⟨0,0,by omega,.inr rfl,rfl,fun _ => rfl,rfl,rfl⟩
    case round =>
     obtain ⟨x,k,hk,h19,hall,hx,rfl,rfl⟩ := hrel
     have HA : Hid ((t.data.toList.take k).all digB = true) := hall
     have HX : Hid (valF 0 (t.data.toList.take k) <= 9223372036854775807 -> x = valF 0 (t.data.toList.take k)) := hx
     clear hall hx
     by_cases hlt : k < t.size
     ·by_cases hg : digB t[k] = true
      ·have hr := digit_range hg
       by_cases hL : 19 < t.size
       ·have HN : Hid (numV s = none) := HM.out hL
        go_wp2_with (go_at_call 182;refine (digit_any _ _).mono ?_;rintro e w' ⟨rfl,rfl⟩)
        all_goals go_ret2
        all_goals exact ⟨0,by rw [HN.out];rfl,(fun v hv => by rw [HN.out] at hv;cases hv),rfl⟩
       ·have hv := valF_lt19 t k (by omega) hlt HA.out
        have hxv := HX.out (by omega)
        have hxb : 0 <= x /\ x < 1000000000000000000 := by omega
        have HE : Hid (x = valF 0 (t.data.toList.take k)) := hxv
        have HT := list_get t k hlt
        have HS : Hid (valF 0 (t.data.toList.take (k + 1)) = valF 0 (t.data.toList.take k) * 10 + (t[k].toNat - 48)) := by show _ = _;rw [HT,valF_snoc]
        have HL : Hid ((t.data.toList.take (k + 1)).all digB = true) := by show _ = _;rw [HT,List.all_append,HA.out];simp [hg]
        clear HT hxv hv
        by_cases hfit : x * 10 + (t[k].toNat - 48) <= 9223372036854775807
        ·go_wp2_with (go_at_call 182;refine (digit_any _ _).mono ?_;rintro e w' ⟨rfl,rfl⟩)
         go_round
         case rel => exact ⟨x * 10 + (t[k].toNat - 48),k + 1,by omega,.inl (by omega),HL.out,(fun _ => by rw [HS.out];have := HE.out;omega),by go_num,by go_num⟩
         case measure => simp [intOf];omega
        ·go_wp2_with (go_at_call 182;refine (digit_any _ _).mono ?_;rintro e w' ⟨rfl,rfl⟩)
         go_round
         case rel => exact ⟨_,k + 1,by omega,.inl (by omega),HL.out,(fun h => by rw [HS.out] at h;have := HE.out;omega),rfl,by go_num⟩
         case measure => simp [intOf];omega
      ·have hg' : digB t[k] = false := by simpa using hg
       clear hg
       have HN : Hid (numV s = none) := by show _ = _;rw [<- HD.out];exact decF_bad t k hlt hg'
       go_wp2_with (go_at_call 182;refine (digit_any _ _).mono ?_;rintro e w' ⟨rfl,rfl⟩)
       go_ret2
       exact ⟨0,by rw [HN.out];rfl,(fun v hv => by rw [HN.out] at hv;cases hv),rfl⟩
     ·have hsz : t.size <= 19 := by omega
      have hkk : k = t.size := by omega
      have hta : t.data.toList.take k = t.data.toList := List.take_of_length_le (by rw [len_data];omega)
      have HF : Hid (numV s = if (decide (t.size < 19) || leB t.toList most.toList) = true then some (valF 0 t.data.toList) else none) := by
       show _ = _
       have := HA.out
       rw [hta] at this
       rw [<- HD.out];exact decF_all t this hsz
      have HX2 : Hid (valF 0 t.data.toList <= 9223372036854775807 -> x = valF 0 t.data.toList) := by
       have := HX.out
       rw [hta] at this
       exact this
      have HV : Hid (∀ v,numV s = some v -> v = valF 0 t.data.toList /\ v <= 4611686018427387903) := by
       intro v hv
       have hds := decF_spec t.data.toList 0 (by omega)
       rw [HD.out,hv] at hds
       split at hds
       ·rename_i hh;simp at hds;exact ⟨hds,by rw [hds];exact hh.2⟩
       ·cases hds
      clear hta hkk
      by_cases h9 : t.size < 19
      all_goals
       go_wp2_with fail
       all_goals go_ret2
       all_goals refine ⟨x,?_,(fun v hv => by have h1 := HV.out v hv;have h2 := HX2.out (by omega);omega),rfl⟩
       all_goals refine congrArg (fun b => Ending.returned (.tuple #[.int .i64 x,.bool b])) ?_
       all_goals rw [HF.out,isSome_if]
       all_goals first
        | (simp [h9];done)
        | (have e9 : decide (t.size < 19) = false := by simpa using h9
           have e10 : decide ((t.size : Int) < 19) = false := by simp;omega
           have e11 : most.toList = [52,54,49,49,54,56,54,48,49,56,52,50,55,51,56,55,57,48,51] := by rw [ByteArray.toList_eq];rfl
           rw [e9,e10,leB,e11])
def Tok.cells (x : Tok) : List Value := [.int .i64 x.k,.int .i64 x.p,.int .i64 x.n,.string (nmOf x.k x.t)]
theorem toks_len (l : List Tok) : (l.flatMap Tok.cells).length = l.length * 4 := by
 induction l with
 | nil => rfl
 | cons x r ih => simp only [List.flatMap_cons,List.length_append,ih,List.length_cons,Tok.cells,List.length_nil];omega
theorem Tryz.info294 : (Tryz.prog.info? 294).map (fun i => (i.zero,i.size,i.bytes)) = some (some (.agg #[.int .i64 0,.int .i64 0,.int .i64 0,.string ⟨#[]⟩]),4,40) := by kernel_rfl
def endTok (s : ByteArray) : Tok := ⟨0,0,s.size,⟨#[]⟩⟩
theorem tok_one (x : Tok) : ∀ u ∈ Tok.cells x,u.oneCell' = true := by
 intro u hu
 simp only [Tok.cells,List.mem_cons,List.not_mem_nil,or_false] at hu
 rcases hu with rfl | rfl | rfl | rfl <;> rfl
theorem skip_zero (s : ByteArray) (hs : s.size <= 1000) (w : World) :
 Calls Tryz.prog 174 #[.string s,.int .i64 0] w fun e w' => e = .returned (.int .i64 (skp s 0)) /\ w' = w := skip_any s hs 0 (Nat.zero_le _) w
def LR.e : LR -> Nat
 | .bad e _ => e
 | .good _ => 0
def LR.p : LR -> Nat
 | .bad _ p => p
 | .good _ => 0
def SplitOwn (s : ByteArray) (B : Nat) (w : World) (v : Value) : LR -> Prop
 | .good l => w.ownsRow B 294 4 v (l ++ [endTok s]).length ((l ++ [endTok s]).flatMap Tok.cells)
 | .bad _ _ => v = .slice none 0 0
set_option maxRecDepth 100000 in
theorem split_short (s : ByteArray) (hs : s.size <= 400) (w : World) (hT : TX w) (h0 : 2 < w.heap.size) :
 Calls Tryz.prog 103 #[.string s] w fun e w' => ∃ v,e = .returned (.tuple #[v,.int .i64 (LR.e (lex s (skp s 0))),.int .i64 (LR.p (lex s (skp s 0)))]) /\ SplitOwn s w.heap.size w' v (lex s (skp s 0)) /\ Below w.heap.size w w' := by
 have hb : Below w.heap.size w w := Below.refl _ _
 obtain ⟨i0,hi,hz0,hz1,hz2⟩ := info_parts Tryz.info294
 have hsk := (skp_le s s.size 0 (by omega) (by omega)).2
 obtain ⟨R,hR⟩ : ∃ R,R = lex s (skp s 0) := ⟨_,rfl⟩
 rw [<- hR]
 have HR : Hid (R = lex s (skp s 0)) := hR
 clear hR
 go_enter Tryz.func103,Tryz.ntmps103
 go_wp2_with (go_at_call 174;refine (skip_zero s (by omega) _).mono ?_;rintro e w' ⟨rfl,rfl⟩)
 go_loopw [5,6] (fun v u wr => ∃ (acc : List Tok) (k : Nat),acc.length <= k /\ k <= s.size /\ (lex s k).pre acc = R /\ u = .int .i64 k /\ wr.ownsRow w.heap.size 294 4 v acc.length (acc.flatMap Tok.cells) /\ Below w.heap.size w wr) (fun _ u _ => s.size - (intOf u).toNat)
 case atStart => exact ⟨[],skp s 0,Nat.zero_le _,hsk,by rw [LR.pre_nil];exact HR.out.symm,rfl,World.ownsRow_lit w #[] 0 (Nat.le_refl _) (by decide) rfl,hb.alloc (Nat.le_refl _) _⟩
 case round =>
  obtain ⟨acc,k,hak,hk,hlx,rfl,hown,hbw⟩ := hrel
  have HX : Hid ((lex s k).pre acc = R) := hlx
  clear hlx
  have hsz := hbw.size
  have hTw := hT.below hbw h0
  by_cases hlt : k < s.size
  ·cases hw : wordR s k with
   | err e' =>
     have HW : Hid (wordR s k = .err e') := hw
     have HE : Hid (R = .bad e' k) := by
      show _ = _
      rw [<- HX.out,lex_err hlt hw];rfl
     have he : e' = 2 \/ e' = 3 := wordR_err hw
     have he0 : ((e' : Int) != 0) = true := by rcases he with rfl | rfl <;> rfl
     clear hw he
     go_wp2_with (go_at_call 175;refine (wordAt_any s (by omega) k hlt _ hTw (by omega)).mono ?_;rw [HW.out];rintro e w1 ⟨rfl,hb2⟩;simp only [WR.val])
     go_ret3
     exact ⟨.slice none 0 0,by rw [HE.out];rfl,by rw [HE.out];rfl,(hbw.trans (hb2.mono hsz)).alloc (by have := hb2.size;omega) _⟩
   | ok k' n' t' z' =>
     have hzz := wordR_le hw
     have hs2 := skp_le s s.size z' (by omega) (by omega)
     have HW : Hid (wordR s k = .ok k' n' t' z') := hw
     clear hw
     go_wp2_with (first | (go_at_call 175;refine (wordAt_any s (by omega) k hlt _ hTw (by omega)).mono ?_;rw [HW.out];rintro e w1 ⟨rfl,hb2⟩;simp only [WR.val];obtain ⟨hc2,hf2⟩ := bcell hb2) | (at_builtin;(refine wpList_append_own _ rfl (.tmp 31) (.tmp 33) 183 rfl w.heap.size 294 i0 _ 4 40 Tryz.underlying183 hi hz0 hz1 hz2 rfl (by decide) _ _ _ rfl (((own_below hown hb2).alloc _).alloc _) _ 1 1 (Tok.cells ⟨k',n',k,t'⟩) rfl rfl (cells_new _ _ _ _ (by simp)) ?_ ?_ ?_ ?_ ?_;exact tok_one _;(unfold maxLen;omega);omega;(have := hb2.size;simp;omega);intro v' w3 hown3 hg3 _;have hbw3 := below_app2 hbw hsz hb2 _ _ hg3 (own_ge hown))) | (go_at_call 174;refine (skip_any s (by omega) _ (by omega) _).mono ?_;rintro e w' ⟨rfl,rfl⟩))
     go_roundw
     case rel => exact ⟨acc ++ [⟨k',n',k,t'⟩],skp s z',by simp;omega,hs2.2,by rw [<- HX.out,lex_ok hlt HW.out,LR.pre_pre],rfl,by simpa using hown3,hbw3⟩
     case measure => simp [intOf];omega
  ·have HE : Hid (R = .good acc) := by
    show _ = _
    rw [<- HX.out,lex_end s k hlt];simp [LR.pre]
   go_wp2_with (at_builtin;refine wpList_append_own _ rfl (.tmp 38) (.tmp 42) 183 rfl w.heap.size 294 i0 _ 4 40 Tryz.underlying183 hi hz0 hz1 hz2 rfl (by decide) _ _ _ rfl (hown.alloc _) _ 1 1 (Tok.cells (endTok s)) rfl rfl (cells_new _ _ _ _ rfl) ?_ ?_ ?_ ?_ ?_;exact tok_one _;(unfold maxLen;omega);omega;(simp;omega);intro v' w3 hown3 hg3 _;have hbw3 := below_app hbw hsz _ hg3 (own_ge hown))
   go_ret3
   refine ⟨v',?_,?_,hbw3⟩
   ·rw [HE.out];rfl
   ·rw [HE.out];simpa [SplitOwn] using hown3
theorem split_long (s : ByteArray) (hs : 400 < s.size) (hm : s.size <= maxLen) (w : World) :
 Calls Tryz.prog 103 #[.string s] w fun e w' => e = .returned (.tuple #[.slice none 0 0,.int .i64 1,.int .i64 0]) /\ w' = w := by
 unfold maxLen at hm
 go_enter Tryz.func103,Tryz.ntmps103
 go_wp2_with fail
 go_ret3
 exact ⟨rfl,rfl⟩
end Go.Proofs.YtmkdoejpgkgpbaaGreatDoor
