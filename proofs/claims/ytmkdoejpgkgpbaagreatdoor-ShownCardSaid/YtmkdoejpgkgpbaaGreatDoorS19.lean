import Derived.Test.YtmkdoejpgkgpbaaGreatDoorS18
set_option linter.unusedVariables false
set_option linter.unusedSimpArgs false
set_option maxHeartbeats 20000000
namespace Go.Proofs.YtmkdoejpgkgpbaaGreatDoor
open Go.RowKit Sl
def decL (n : Nat) : List UInt8 := if n < 10 then [UInt8.ofNat (48 + n)] else decL (n / 10) ++ [UInt8.ofNat (48 + n % 10)]
termination_by n
decreasing_by omega
def dec (n : Nat) : ByteArray := ⟨(decL n).toArray⟩
def wt (t : Tk) : ByteArray := if t.k = 1 then dec t.n else if t.k = 2 then t.x else txt t.k
structure gw (t : Tk) : Prop where
 lt : t.k < 35
 ne : t.k ≠ 0
 pos : 0 < (wt t).size
 le : (wt t).size <= 1000
 kind : kindS (wt t) = kName t.k (wt t)
 num : t.k = 1 -> numV (wt t) = some t.n
theorem kindS_open : kindS ⟨#[40]⟩ = ⟨#[40]⟩ /\ kindS ⟨#[46,40]⟩ = ⟨#[46,40]⟩ /\ kindS ⟨#[41]⟩ = ⟨#[41]⟩ := by
 refine ⟨?_,?_,?_⟩ <;> (unfold kindS;split <;> rfl)
theorem nameK_txt {k : Nat} (h : 3 <= k) : nameK k = txt k := by
 unfold nameK kName
 rw [if_neg (by omega),if_neg (by omega),if_neg (by omega)]
theorem wt_txt {t : Tk} (h : 3 <= t.k) : wt t = txt t.k := by
 unfold wt;rw [if_neg (by omega),if_neg (by omega)]
theorem gw_is {t : Tk} (h : gw t) {x : List UInt8} {k : Nat} (hx : kindS ⟨x.toArray⟩ = ⟨x.toArray⟩) (hn : (⟨x.toArray⟩ : ByteArray) ≠ numN) (hi : (⟨x.toArray⟩ : ByteArray) ≠ idN) (hk3 : 3 <= k) (hk : ∀ k',k' < 35 -> ((nameK k').toList == x) = decide (k' = k)) : ((wt t).toList == x) = decide (t.k = k) := by
 by_cases h3 : 3 <= t.k
 ·rw [wt_txt h3,<- nameK_txt h3];exact hk t.k h.lt
 ·have hne : ¬ t.k = k := by omega
  have : ¬ ((wt t).toList == x) = true := fun he => by
   have he' : (wt t).toList = x := by simpa using he
   have e : wt t = ⟨x.toArray⟩ := by
    apply toList_inj
    rw [he',toL]
   have hkd := h.kind
   rw [e,hx] at hkd
   have h0 := h.ne
   unfold kName at hkd
   rw [if_neg h0] at hkd
   by_cases h1 : t.k = 1
   ·rw [if_pos h1] at hkd;exact hn hkd
   ·rw [if_neg h1,if_pos (by omega)] at hkd;exact hi hkd
  simp [hne] at this ⊢
  exact this
theorem gw23 {t : Tk} (h : gw t) : ((wt t).toList == [40]) = decide (t.k = 23) := gw_is h kindS_open.1 (by decide) (by decide) (by omega) (fun _ hk => nk23 hk)
theorem gw18 {t : Tk} (h : gw t) : ((wt t).toList == [46,40]) = decide (t.k = 18) := gw_is h kindS_open.2.1 (by decide) (by decide) (by omega) (fun _ hk => nk18 hk)
theorem gw24 {t : Tk} (h : gw t) : ((wt t).toList == [41]) = decide (t.k = 24) := gw_is h kindS_open.2.2 (by decide) (by decide) (by omega) (fun _ hk => nk24 hk)
def SR (w : World) (b : Nat) (xs : List ByteArray) : Prop := ∀ i (h : i < xs.length),w.cell? ⟨b,i,none⟩ = some (.string xs[i])
theorem SR.below {w w' : World} {B b : Nat} {xs : List ByteArray} (h : SR w b xs) (hb : Below B w w') (hB : b < B) : SR w' b xs := fun i hi => (hb.cell (p := ⟨b,i,none⟩) hB).trans (h i hi)
theorem sr_own {w : World} {B g cap n : Nat} {xs : List ByteArray} (h : w.ownsRow B 9 1 (.slice (some ⟨g,0,none⟩) n cap) n (xs.map Value.string)) : SR w g xs := fun i hi => by
 have hl := h.1
 rw [List.length_map] at hl
 rw [h.cellAt i (by omega)]
 simp [hi]
def clo : Nat -> List Tk -> Nat
 | _,[] => 0
 | n,t :: r => if t.k = 24 then (if n <= 1 then 0 else 1 + clo (n - 1) r) else 1 + clo (if t.k = 23 \/ t.k = 18 then n + 1 else n) r
theorem clo_dep (y : List Tk) : ∀ (x : List Tk) (d e : Nat),dep d x = some e -> clo (d + 1) (x ++ y) = x.length + clo (e + 1) y := by
 intro x
 induction x with
 | nil => intro d e h;simp [dep] at h;subst h;simp
 | cons t r ih =>
   intro d e h
   simp only [dep] at h
   rw [List.cons_append,clo,List.length_cons]
   by_cases h23 : t.k = 23
   ·have e1 : isO t = true := by simp [isO,h23]
    simp only [e1,Bool.true_or,if_true] at h
    rw [if_neg (by omega),if_pos (.inl h23),ih _ _ h];omega
   ·by_cases h18 : t.k = 18
    ·have e1 : isX t = true := by simp [isX,h18]
     simp only [e1,Bool.or_true,if_true] at h
     rw [if_neg (by omega),if_pos (.inr h18),ih _ _ h];omega
    ·have e1 : isO t = false := by simp [isO,h23]
     have e2 : isX t = false := by simp [isX,h18]
     simp only [e1,e2,Bool.or_false,Bool.false_eq_true,if_false] at h
     by_cases h24 : t.k = 24
     ·have e3 : isC t = true := by simp [isC,h24]
      simp only [e3,if_true] at h
      cases d with
      | zero => simp at h
      | succ d =>
        simp only at h
        rw [if_pos h24,if_neg (by omega),Nat.add_sub_cancel,ih _ _ h];omega
     ·have e3 : isC t = false := by simp [isC,h24]
      simp only [e3,Bool.false_eq_true,if_false] at h
      rw [if_neg h24,if_neg (by omega),ih _ _ h];omega
theorem clo_at {P M R : List Tk} (h : dep 0 M = some 0) : P.length + clo 0 ((P ++ oB :: (M ++ cB :: R)).drop P.length) = P.length + 1 + M.length := by
 have : (P ++ oB :: (M ++ cB :: R)).drop P.length = oB :: (M ++ cB :: R) := by simp
 rw [this,clo,if_neg (by decide),if_pos (.inl rfl),clo_dep _ M 0 0 h,clo,if_pos (show cB.k = 24 from rfl),if_pos (by omega)]
 omega
set_option maxRecDepth 100000 in
theorem closing_any (l : List Tk) (b cap i z n0 : Nat) (w : World) (hn0 : n0 = l.length) (hl : l.length <= 100000) (hc : l.length <= cap) (hr : SR w b (l.map wt)) (hg : ∀ t ∈ l,gw t) (hz : i + clo 0 (l.drop i) = z) (hzl : z < l.length) (hi : (l[i]?.map Tk.k) = some 23) :
 Calls Tryz.prog 71 #[.slice (some ⟨b,0,none⟩) n0 cap,.int .i64 i] w fun e w' => e = .returned (.int .i64 z) /\ w' = w := by
 subst hn0
 have HR : Hid (SR w b (l.map wt)) := hr
 have HK : Hid (∀ t ∈ l,gw t) := hg
 have HZ : Hid (i + clo 0 (l.drop i) = z) := hz
 have HI : Hid ((l[i]?.map Tk.k) = some 23) := hi
 have hiz : i <= z := by omega
 clear hr hg hz hi
 go_enter Tryz.func71,Tryz.ntmps71
 go_wp2_with fail
 go_loop [5,6] (fun u v => ∃ n j : Nat,i <= j /\ j <= z /\ n <= j /\ (1 <= n \/ j = i) /\ j + clo n (l.drop j) = z /\ u = .int .i64 n /\ v = .int .i64 j) (fun _ v => l.length - (intOf v).toNat)
 case atStart => exact ⟨0,i,Nat.le_refl _,hiz,Nat.zero_le _,.inr rfl,HZ.out,rfl,rfl⟩
 case round =>
  obtain ⟨n,j,hij,hjz,hnj,hor,hs,rfl,rfl⟩ := hrel
  have HS : Hid (j + clo n (l.drop j) = z) := hs
  have HO : Hid (1 <= n \/ j = i) := hor
  clear hs hor
  have hlt : j < l.length := by omega
  have c1 := HR.out j (by simpa using hlt)
  rw [List.getElem_map] at c1
  have hgt := HK.out l[j] (by simp)
  have q23 := gw23 hgt
  have q18 := gw18 hgt
  have q24 := gw24 hgt
  have HST : Hid (clo n (l.drop j) = if l[j].k = 24 then (if n <= 1 then 0 else 1 + clo (n - 1) (l.drop (j + 1))) else 1 + clo (if l[j].k = 23 \/ l[j].k = 18 then n + 1 else n) (l.drop (j + 1))) := by
   show _ = _
   rw [List.drop_eq_getElem_cons hlt,clo]
  have HJI : Hid (l[j].k ≠ 23 -> 1 <= n) := fun h => by
   rcases HO.out with h' | h'
   ·exact h'
   ·exfalso
    subst h'
    have := HI.out
    rw [List.getElem?_eq_getElem hlt] at this
    simp at this
    omega
  obtain ⟨tx,htx⟩ : ∃ tx,wt l[j] = tx := ⟨_,rfl⟩
  obtain ⟨kk,hkk⟩ : ∃ kk,l[j].k = kk := ⟨_,rfl⟩
  rw [htx] at c1 q23 q18 q24
  rw [hkk] at q23 q18 q24 HST HJI
  clear htx hkk hgt
  by_cases h24 : kk = 24
  ·have e24 : (tx.toList == [41]) = true := by rw [q24];simpa using h24
   have e23 : (tx.toList == [40]) = false := by rw [q23];simp;omega
   have e18 : (tx.toList == [46,40]) = false := by rw [q18];simp;omega
   have hn1 := HJI.out (by omega)
   have HS2 := HS.out
   rw [HST.out,if_pos h24] at HS2
   clear q23 q18 q24 h24
   by_cases h1 : n = 1
   ·subst h1
    rw [if_pos (by omega)] at HS2
    have hjz' : j = z := by omega
    clear HS2
    subst hjz'
    go_wp2_with fail
    go_ret
    exact ⟨rfl,rfl⟩
   ·rw [if_neg (by omega)] at HS2
    have HS3 : Hid (j + (1 + clo (n - 1) (l.drop (j + 1))) = z) := HS2
    clear HS2
    obtain ⟨n',rfl⟩ : ∃ n',n = n' + 1 := ⟨n - 1,by omega⟩
    have hnb : (((n' + 1 : Nat) : Int) - 1 == 0) = false := by simp;omega
    go_wp2_with fail
    go_round
    case rel => exact ⟨n',j + 1,by omega,by have := HS3.out;omega,by omega,.inl (by omega),(by have := HS3.out;simp only [Nat.add_sub_cancel] at this;omega),by go_num,by go_num⟩
    case measure => simp [intOf];omega
  ·have e24 : (tx.toList == [41]) = false := by rw [q24];simpa using h24
   have HS2 := HS.out
   rw [HST.out,if_neg h24] at HS2
   by_cases ho : kk = 23 \/ kk = 18
   ·rw [if_pos ho] at HS2
    have HS3 : Hid (j + (1 + clo (n + 1) (l.drop (j + 1))) = z) := HS2
    clear HS2
    by_cases h23 : kk = 23
    ·have e23 : (tx.toList == [40]) = true := by rw [q23];simpa using h23
     clear q23 q18 q24 h24 ho h23
     go_wp2_with fail
     go_round
     case rel => exact ⟨n + 1,j + 1,by omega,by have := HS3.out;omega,by omega,.inl (by omega),(by have := HS3.out;omega),by go_num,by go_num⟩
     case measure => simp [intOf];omega
    ·have h18 : kk = 18 := by omega
     have e23 : (tx.toList == [40]) = false := by rw [q23];simpa using h23
     have e18 : (tx.toList == [46,40]) = true := by rw [q18];simpa using h18
     clear q23 q18 q24 h24 ho h23 h18
     go_wp2_with fail
     go_round
     case rel => exact ⟨n + 1,j + 1,by omega,by have := HS3.out;omega,by omega,.inl (by omega),(by have := HS3.out;omega),by go_num,by go_num⟩
     case measure => simp [intOf];omega
   ·rw [if_neg ho] at HS2
    have HS3 : Hid (j + (1 + clo n (l.drop (j + 1))) = z) := HS2
    have HN1 : Hid (1 <= n) := HJI.out (by omega)
    have e23 : (tx.toList == [40]) = false := by rw [q23];simp;omega
    have e18 : (tx.toList == [46,40]) = false := by rw [q18];simp;omega
    clear HS2 q23 q18 q24 h24 ho
    go_wp2_with fail
    go_round
    case rel => exact ⟨n,j + 1,by omega,by have := HS3.out;omega,by omega,.inl HN1.out,(by have := HS3.out;omega),rfl,by go_num⟩
    case measure => simp [intOf];omega
def lesF {α : Type} (i j : Nat) : Nat -> List α -> List α
 | _,[] => []
 | k,x :: r => if k ≠ i /\ k ≠ j then x :: lesF i j (k + 1) r else lesF i j (k + 1) r
theorem lesF_out {α : Type} (i j : Nat) : ∀ (x : List α) (k : Nat),(∀ q,k <= q -> q < k + x.length -> q ≠ i /\ q ≠ j) -> lesF i j k x = x := by
 intro x
 induction x with
 | nil => intro k _;rfl
 | cons t r ih =>
   intro k h
   rw [lesF,if_pos (h k (Nat.le_refl _) (by simp)),ih (k + 1) (fun q h1 h2 => h q (by omega) (by simp;omega))]
theorem lesF_app {α : Type} (i j : Nat) (y : List α) : ∀ (x : List α) (k : Nat),lesF i j k (x ++ y) = lesF i j k x ++ lesF i j (k + x.length) y := by
 intro x
 induction x with
 | nil => intro k;simp [lesF]
 | cons t r ih =>
   intro k
   rw [List.cons_append,lesF,lesF,ih]
   rw [show k + 1 + r.length = k + (t :: r).length by simp;omega]
   split <;> rfl
theorem lesF_at {α : Type} {P M R : List α} {a b : α} : lesF P.length (P.length + 1 + M.length) 0 (P ++ a :: (M ++ b :: R)) = P ++ (M ++ R) := by
 rw [lesF_app,lesF_out _ _ P 0 (fun q _ h => by omega),Nat.zero_add,lesF,if_neg (by omega),lesF_app,lesF_out _ _ M _ (fun q h1 h2 => by omega),lesF,if_neg (by omega),lesF_out _ _ R _ (fun q h1 h2 => by omega)]
set_option maxRecDepth 100000 in
theorem less_any (xs : List ByteArray) (b cap i j n0 : Nat) (w : World) (hn0 : n0 = xs.length) (hl : xs.length <= 100000) (hc : xs.length <= cap) (hb : b < w.heap.size) (hr : SR w b xs) (hi : i <= 100000) (hj : j <= 100000) :
 Calls Tryz.prog 72 #[.slice (some ⟨b,0,none⟩) n0 cap,.int .i64 i,.int .i64 j] w fun e w' => ∃ v,e = .returned v /\ w'.ownsRow w.heap.size 9 1 v (lesF i j 0 xs).length ((lesF i j 0 xs).map Value.string) /\ Below w.heap.size w w' := by
 subst hn0
 obtain ⟨i0,hi0,hz0,hz1,hz2⟩ := info_parts Tryz.info9
 have HR : Hid (SR w b xs) := hr
 clear hr
 go_enter Tryz.func72,Tryz.ntmps72
 go_wp2_with fail
 go_loopw [7,8] (fun v q wr => ∃ (k m : Nat) (acc : List ByteArray),k <= xs.length /\ acc.length = m /\ m <= k /\ acc ++ lesF i j k (xs.drop k) = lesF i j 0 xs /\ q = .int .i64 k /\ wr.ownsRow w.heap.size 9 1 v m (acc.map Value.string) /\ Below w.heap.size w wr) (fun _ q _ => xs.length - (intOf q).toNat)
 case atStart => exact ⟨0,0,[],Nat.zero_le _,rfl,Nat.le_refl _,by simp,rfl,World.ownsRow_nil _ _ _ _,Below.refl _ _⟩
 case round =>
  obtain ⟨k,m,acc,hk,hal,hm,hds,rfl,hown,hbw⟩ := hrel
  have HD : Hid (acc ++ lesF i j k (xs.drop k) = lesF i j 0 xs) := hds
  have HA : Hid (acc.length = m) := hal
  clear hds hal
  have hsz := hbw.size
  by_cases hlt : k < xs.length
  ·have c1 := (HR.out.below hbw hb) k hlt
   have hstep : Hid (lesF i j k (xs.drop k) = if k ≠ i /\ k ≠ j then xs[k] :: lesF i j (k + 1) (xs.drop (k + 1)) else lesF i j (k + 1) (xs.drop (k + 1))) := by
    show _ = _
    rw [List.drop_eq_getElem_cons hlt,lesF]
   obtain ⟨tt,htt⟩ : ∃ tt,xs[k] = tt := ⟨_,rfl⟩
   rw [htt] at c1 hstep
   clear htt
   by_cases h1 : k = i
   ·have HC : Hid (¬ (k ≠ i /\ k ≠ j)) := fun h => h.1 h1
    have e1 : ((k : Int) != (i : Int)) = false := by simp [h1]
    clear h1
    go_wp2_with fail
    go_roundw
    case rel => exact ⟨k + 1,m,acc,by omega,HA.out,by omega,(by rw [<- HD.out,hstep.out,if_neg HC.out]),by go_num,hown,hbw⟩
    case measure => simp [intOf];omega
   ·have e1 : ((k : Int) != (i : Int)) = true := by simp;omega
    by_cases h2 : k = j
    ·have HC : Hid (¬ (k ≠ i /\ k ≠ j)) := fun h => h.2 h2
     have e2 : ((k : Int) != (j : Int)) = false := by simp [h2]
     clear h1 h2
     go_wp2_with fail
     go_roundw
     case rel => exact ⟨k + 1,m,acc,by omega,HA.out,by omega,(by rw [<- HD.out,hstep.out,if_neg HC.out]),by go_num,hown,hbw⟩
     case measure => simp [intOf];omega
    ·have e2 : ((k : Int) != (j : Int)) = true := by simp;omega
     have HC : Hid (k ≠ i /\ k ≠ j) := ⟨h1,h2⟩
     clear h1 h2
     go_wp2_with (at_builtin;refine wpList_append_own _ rfl (.tmp 23) (.tmp 28) 114 rfl w.heap.size 9 i0 _ 1 16 Tryz.underlying114 hi0 hz0 hz1 hz2 rfl (by decide) _ _ _ rfl (hown.alloc _) _ 1 1 [.string tt] rfl rfl (cells_new _ _ _ _ rfl) ?_ ?_ ?_ ?_ ?_;(intro u hu;simp at hu;subst hu;rfl);(unfold maxLen;omega);omega;(simp;omega);intro v' w3 hown3 hg3 _;have hbw3 := below_app hbw hsz _ hg3 (own_ge hown))
     go_roundw
     case rel => exact ⟨k + 1,m + 1,acc ++ [tt],by omega,by simp [HA.out],by omega,(by rw [<- HD.out,hstep.out,if_pos HC.out];simp),by go_num,by simpa using hown3,hbw3⟩
     case measure => simp [intOf];omega
  ·have HF : Hid (acc = lesF i j 0 xs) := by
    show _ = _
    have := HD.out
    rw [List.drop_eq_nil_of_le (by omega),lesF] at this
    simpa using this
   go_wp2_with fail
   go_ret
   refine ⟨_,rfl,?_,hbw⟩
   rw [<- HF.out,HA.out];exact hown
theorem dig_nat (m : Nat) (h : m < 10) : ((UInt8.ofNat (48 + m)).toNat : Int) = 48 + (m : Int) := by
 have : (UInt8.ofNat (48 + m)).toNat = (48 + m) % 256 := rfl
 omega
theorem cell_one (w : World) (u : UInt8) (x : Int) (b : Nat) (e : TypeId) (hb : b = w.heap.size) (hx : x = (u.toNat : Int)) : ∀ j (hj : j < [u].length),(w.alloc (.cells #[.int .u8 x] e (0,0))).cell? ((⟨b,0,none⟩ : Addr).add j) = some (.int .u8 ([u][j].toNat : Int)) := by
 intro j hj
 have hj0 : j = 0 := by simp at hj;exact hj
 subst hj0 hb hx
 rw [addr_add]
 exact (cells_of_block (blk_new w _) 0).1
theorem decL_step (n : Nat) (h : 10 <= n) : decL n = decL (n / 10) ++ [UInt8.ofNat (48 + n % 10)] := by rw [decL,if_neg (by omega)]
theorem decL_end (n : Nat) (h : n < 10) : decL n = [UInt8.ofNat (48 + n)] := by rw [decL,if_pos h]
set_option maxRecDepth 100000 in
theorem decimal_any (n : Nat) (w : World) (hn : n <= 4611686018427387903) :
 Calls Tryz.prog 120 #[.int .i64 n] w fun e w' => e = .returned (.string (dec n)) /\ Below w.heap.size w w' := by
 go_enter Tryz.func120,Tryz.ntmps120
 go_wp2_with fail
 go_loopw [0,3] (fun v s wr => ∃ (m : Nat) (t : List UInt8),t.length + m <= n /\ decL m ++ t = decL n /\ v = .int .i64 m /\ s = .string ⟨t.toArray⟩ /\ Below w.heap.size w wr) (fun v _ _ => (intOf v).toNat)
 case atStart => exact ⟨n,[],by simp,by simp,rfl,rfl,Below.refl _ _⟩
 case round =>
  obtain ⟨m,t,hm,hd,rfl,rfl,hbw⟩ := hrel
  have HD : Hid (decL m ++ t = decL n) := hd
  clear hd
  have hsz := hbw.size
  have htl : 1 + t.length <= 9223372036854775807 := by omega
  by_cases h9 : 9 < m
  ·have hgt : (9 : Int) < (m : Int) := by omega
   obtain ⟨u,hu⟩ : ∃ u,u = UInt8.ofNat (48 + m % 10) := ⟨_,rfl⟩
   have HU : Hid (u = UInt8.ofNat (48 + m % 10)) := hu
   have HX : Hid (48 + ((m % 10 : Nat) : Int) = (u.toNat : Int)) := by
    show _ = _
    rw [hu,dig_nat (m % 10) (by omega)]
   clear hu
   go_wp2_with (refine wpList_string_of _ rfl (.tmp 13) 182 9 5 rfl [u] _ _ _ rfl rfl Tryz.underlying182 Tryz.underlying5 Tryz.underlying9 ?_ ?_;(refine cell_one wr _ _ _ _ rfl ?_;exact HX.out))
   go_roundw
   case rel => exact ⟨m / 10,u :: t,by simp;omega,(by rw [<- HD.out,decL_step m (by omega),HU.out];simp),by go_num,by simp;rfl,hbw.alloc hsz _⟩
   case measure => simp [intOf];omega
  ·have hgt : ¬ (9 : Int) < (m : Int) := by omega
   obtain ⟨u,hu⟩ : ∃ u,u = UInt8.ofNat (48 + m) := ⟨_,rfl⟩
   have HU : Hid (u = UInt8.ofNat (48 + m)) := hu
   have HX : Hid (48 + (m : Int) = (u.toNat : Int)) := by
    show _ = _
    rw [hu,dig_nat m (by omega)]
   clear hu
   go_wp2_with (refine wpList_string_of _ rfl (.tmp 23) 182 9 5 rfl [u] _ _ _ rfl rfl Tryz.underlying182 Tryz.underlying5 Tryz.underlying9 ?_ ?_;(refine cell_one wr _ _ _ _ rfl ?_;exact HX.out))
   go_ret
   refine ⟨?_,hbw.alloc hsz _⟩
   have : dec n = (⟨#[u]⟩ : ByteArray) ++ ⟨t.toArray⟩ := by
    unfold dec
    rw [<- HD.out,decL_end m (by omega),<- HU.out]
    simp
    rfl
   rw [this];rfl
def SRo (w : World) (b off : Nat) (xs : List ByteArray) : Prop := ∀ i (h : i < xs.length),w.cell? ⟨b,off + i,none⟩ = some (.string xs[i])
theorem SRo.below {w w' : World} {B b off : Nat} {xs : List ByteArray} (h : SRo w b off xs) (hb : Below B w w') (hB : b < B) : SRo w' b off xs := fun i hi => (hb.cell (p := ⟨b,off + i,none⟩) hB).trans (h i hi)
theorem sro_row {w : World} {B n g off m cap : Nat} {xs : List ByteArray} (h : RowAt w B n (.slice (some ⟨g,off,none⟩) m cap) (xs.map Value.string)) (hx : 1 <= xs.length) : SRo w g off xs /\ m = xs.length /\ m <= cap /\ g < n := by
 rcases h with ⟨h,_⟩ | ⟨g',off',cap',h1,h2,h3,h4,h5⟩
 ·rw [List.map_eq_nil_iff] at h;subst h;simp at hx
 ·simp only [Value.slice.injEq,Option.some.injEq,Addr.mk.injEq,List.length_map] at h1 h4
  obtain ⟨⟨rfl,rfl,_⟩,rfl,rfl⟩ := h1
  exact ⟨fun i hi => h5 i _ (by simp [hi]),rfl,h4,h3⟩
def rowT : List ByteArray -> List ByteArray
 | [] => []
 | x :: r => x :: r.flatMap (fun y => [⟨#[44]⟩,y])
def rowN (i : Nat) (xs : List ByteArray) : List ByteArray := if i = 0 then rowT xs else xs.flatMap (fun y => [⟨#[44]⟩,y])
theorem rowT_commas : ∀ xs : List ByteArray,rowT xs = (commas xs).map wt
 | [] => rfl
 | [x] => rfl
 | x :: y :: r => by
   have ih := rowT_commas (y :: r)
   rw [commas,List.map_cons,List.map_cons,<- ih]
   simp only [rowT,List.flatMap_cons]
   rfl
theorem rowT_len : ∀ xs : List ByteArray,(rowT xs).length <= 2 * xs.length
 | [] => by simp [rowT]
 | x :: r => by
   simp only [rowT,List.length_cons]
   have : (r.flatMap (fun y => [(⟨#[44]⟩ : ByteArray),y])).length = 2 * r.length := by
    induction r with
    | nil => rfl
    | cons a b ih => simp only [List.flatMap_cons,List.length_append,ih,List.length_cons,List.length_nil];omega
   omega
set_option maxRecDepth 100000 in
theorem row_any (xs : List ByteArray) (b off cap n0 : Nat) (w : World) (hn0 : n0 = xs.length) (hl : xs.length <= 1000) (hc : xs.length <= cap) (hb : b < w.heap.size) (hr : SRo w b off xs) :
 Calls Tryz.prog 121 #[.slice (some ⟨b,off,none⟩) n0 cap,.string ⟨#[44]⟩] w fun e w' => ∃ v,e = .returned v /\ w'.ownsRow w.heap.size 9 1 v (rowT xs).length ((rowT xs).map Value.string) /\ Below w.heap.size w w' := by
 subst hn0
 obtain ⟨i0,hi0,hz0,hz1,hz2⟩ := info_parts Tryz.info9
 have HR : Hid (SRo w b off xs) := hr
 clear hr
 go_enter Tryz.func121,Tryz.ntmps121
 go_wp2_with fail
 go_loopw [5,6] (fun v q wr => ∃ (k m : Nat) (acc : List ByteArray),k <= xs.length /\ acc.length = m /\ m <= 2 * k /\ acc ++ rowN k (xs.drop k) = rowT xs /\ q = .int .i64 k /\ wr.ownsRow w.heap.size 9 1 v m (acc.map Value.string) /\ Below w.heap.size w wr) (fun _ q _ => xs.length - (intOf q).toNat)
 case atStart => exact ⟨0,0,[],Nat.zero_le _,rfl,Nat.le_refl _,by simp [rowN],rfl,World.ownsRow_nil _ _ _ _,Below.refl _ _⟩
 case round =>
  obtain ⟨k,m,acc,hk,hal,hm,hds,rfl,hown,hbw⟩ := hrel
  have HD : Hid (acc ++ rowN k (xs.drop k) = rowT xs) := hds
  have HA : Hid (acc.length = m) := hal
  clear hds hal
  have hsz := hbw.size
  by_cases hlt : k < xs.length
  ·have c1 := (HR.out.below hbw hb) k hlt
   have hdr : Hid (xs.drop k = xs[k] :: xs.drop (k + 1)) := List.drop_eq_getElem_cons hlt
   obtain ⟨tt,htt⟩ : ∃ tt,xs[k] = tt := ⟨_,rfl⟩
   rw [htt] at c1 hdr
   clear htt
   by_cases h0 : k = 0
   ·subst h0
    simp only [Nat.add_zero] at c1
    have HN : Hid (acc ++ [tt] ++ rowN (0 + 1) (xs.drop (0 + 1)) = rowT xs) := by
     show _ = _
     rw [<- HD.out,hdr.out]
     simp [rowN,rowT]
    go_wp2_with (at_builtin;refine wpList_append_own _ rfl (.tmp 23) (.tmp 28) 114 rfl w.heap.size 9 i0 _ 1 16 Tryz.underlying114 hi0 hz0 hz1 hz2 rfl (by decide) _ _ _ rfl (hown.alloc _) _ 1 1 [.string tt] rfl rfl (cells_new _ _ _ _ rfl) ?_ ?_ ?_ ?_ ?_;(intro u hu;simp at hu;subst hu;rfl);(unfold maxLen;omega);omega;(simp;omega);intro v' w3 hown3 hg3 _;have hbw3 := below_app hbw hsz _ hg3 (own_ge hown))
    go_roundw
    case rel => exact ⟨0 + 1,m + 1,acc ++ [tt],by omega,by simp [HA.out],by omega,HN.out,by go_num,by simpa using hown3,hbw3⟩
    case measure => simp [intOf];omega
   ·have hkpos : (0 : Int) < (k : Int) := by omega
    have HN : Hid (acc ++ [⟨#[44]⟩] ++ [tt] ++ rowN (k + 1) (xs.drop (k + 1)) = rowT xs) := by
     show _ = _
     rw [<- HD.out,hdr.out]
     simp [rowN,h0]
    clear h0
    go_wp2_with (first
     | (at_builtin;refine wpList_append_own _ rfl (.tmp 19) (.tmp 21) 114 rfl w.heap.size 9 i0 _ 1 16 Tryz.underlying114 hi0 hz0 hz1 hz2 rfl (by decide) _ _ _ rfl (hown.alloc _) _ 1 1 [.string ⟨#[44]⟩] rfl rfl (cells_new _ _ _ _ rfl) ?_ ?_ ?_ ?_ ?_;(intro u hu;simp at hu;subst hu;rfl);(unfold maxLen;omega);omega;(simp;omega);intro v2 w2 hown2 hg2 _;have hbw2 := below_app hbw hsz _ hg2 (own_ge hown);have hsz2 := hbw2.size;have c2 := (HR.out.below hbw2 hb) k hlt;rw [Hid.out (show Hid (xs[k] = tt) from (by have := hdr.out;rw [List.drop_eq_getElem_cons hlt] at this;exact (List.cons.inj this).1))] at c2)
     | (at_builtin;refine wpList_append_own _ rfl (.tmp 23) (.tmp 28) 114 rfl w.heap.size 9 i0 _ 1 16 Tryz.underlying114 hi0 hz0 hz1 hz2 rfl (by decide) _ _ _ rfl (hown2.alloc _) _ 1 1 [.string tt] rfl rfl (cells_new _ _ _ _ rfl) ?_ ?_ ?_ ?_ ?_;(intro u hu;simp at hu;subst hu;rfl);(unfold maxLen;omega);omega;(simp;omega);intro v3 w3 hown3 hg3 _;have hbw3 := below_app hbw2 hsz2 _ hg3 (own_ge hown2)))
    go_roundw
    case rel => exact ⟨k + 1,m + 1 + 1,acc ++ [⟨#[44]⟩] ++ [tt],by omega,by simp [HA.out],by omega,HN.out,by go_num,by simpa using hown3,hbw3⟩
    case measure => simp [intOf];omega
  ·have HF : Hid (acc = rowT xs) := by
    show _ = _
    have := HD.out
    rw [List.drop_eq_nil_of_le (by omega)] at this
    unfold rowN rowT at this
    simp at this
    exact this
   go_wp2_with fail
   go_ret
   refine ⟨_,rfl,?_,hbw⟩
   rw [<- HF.out,HA.out];exact hown
section
variable {P : Program} (w : World)
theorem run_append_none (t ty e : TypeId) (i : TypeInfo) (ht : P.underlying t = some (.slice e)) (hi : P.info? e = some i) (a a' : Option Addr) (n cap c' : Nat) (hnc : n <= cap) (hn : n <= 9223372036854775807) : (Builtin.append_ #[t,t] ty #[.slice a n cap,.slice a' 0 c']).run P w = .ok (.slice a n cap) w := by
 cases a <;> cases a' <;> simp [Builtin.append_,run_underlying ht,sizeOf,typeInfo,hi,Builtin.lenOf,Builtin.firstCells,loadCells,loadCellsFrom,storeCells,hnc,hn]
theorem wpList_append_none {ops : Array Oper} {rest : List Oper} {o : Oper} {a : Act} {Q : Exit -> Act -> World -> Prop} (hgd : o.guard = none) (s x : Operand) (t : TypeId)
 (ho : o.op = .call { callee := .builtin .append,args := #[s,x],argTypes := #[t,t] }) (e : TypeId) (i : TypeInfo) (ht : P.underlying t = some (.slice e)) (hi : P.info? e = some i) (ad ad' : Option Addr) (n cap c' : Nat)
 (hs : a.eval s = .slice ad n cap) (hx : a.eval x = .slice ad' 0 c') (hnc : n <= cap) (hn : n <= 9223372036854775807)
 (h : wpList P ops Q rest (a.put o.dst (.slice ad n cap)) w) : wpList P ops Q (o :: rest) a w := by
 refine wpList_plain hgd fun K hK => ?_
 have hr := run_append_none (P := P) w t o.type e i ht hi ad ad' n cap c' hnc hn
 unfold Oper.wp execOp
 simp only [ho,resolve,invoke,builtin,Sem.run_bind,Sem.run_pure,Result.andThen_ok,List.map_toArray,List.map_cons,List.map_nil,hs,hx,hr]
 exact hK _ _ h
end
def jn : List ByteArray -> List (List ByteArray) -> List ByteArray
 | _,[] => []
 | [],x :: xs => x ++ jn [] xs
 | s :: ss,x :: xs => (if s.size = 0 then [] else [s]) ++ (x ++ jn ss xs)
def FullOK (w : World) (v : Value) (xs : List ByteArray) : Prop := ∀ W,Below w.heap.size w W -> Calls Tryz.prog 70 #[v] W fun e w' => ∃ v',e = .returned v' /\ w'.ownsRow W.heap.size 9 1 v' xs.length (xs.map Value.string) /\ Below W.heap.size W w'
def FullAll (w : World) : List Value -> List (List ByteArray) -> Prop
 | [],[] => True
 | v :: vs,x :: xs => (FullOK w v x /\ 1 <= x.length /\ ∃ b,v = .pointer (some ⟨b,0,none⟩)) /\ FullAll w vs xs
 | _,_ => False
theorem FullAll.len {w : World} : ∀ {vs : List Value} {xs : List (List ByteArray)},FullAll w vs xs -> vs.length = xs.length := by
 intro vs
 induction vs with
 | nil => intro xs h;cases xs with | nil => rfl | cons => exact h.elim
 | cons v vs ih => intro xs h;cases xs with | nil => exact h.elim | cons x xs => simp [ih h.2]
theorem FullAll.at {w : World} : ∀ {vs : List Value} {xs : List (List ByteArray)},FullAll w vs xs -> ∀ i (h : i < vs.length) (h' : i < xs.length),FullOK w vs[i] xs[i] /\ 1 <= xs[i].length /\ ∃ b,vs[i] = .pointer (some ⟨b,0,none⟩) := by
 intro vs
 induction vs with
 | nil => intro xs _ i h;simp at h
 | cons v vs ih =>
   intro xs h i hi hi'
   cases xs with
   | nil => exact h.elim
   | cons x xs =>
     cases i with
     | zero => exact h.1
     | succ i => exact ih h.2 i (by simpa using hi) (by simpa using hi')
theorem own_lit {W : World} {base blk : Nat} {e : TypeId} {xs : List ByteArray} (h : W.heap[blk]? = some (.cells (xs.map Value.string).toArray e (0,0))) (hb : base <= blk) {n : Nat} (hn : n = xs.length) (hm : xs.length <= 1000) : W.ownsRow base e 1 (.slice (some ⟨blk,0,none⟩) n n) n (xs.map Value.string) := by
 subst hn
 refine ⟨by simp,.inr ⟨blk,xs.length,(xs.map Value.string).toArray,rfl,hb,h,Nat.le_refl _,by unfold maxLen;omega,by simp,?_⟩⟩
 rw [Nat.mul_one,List.take_of_length_le (by simp)]
theorem al_old {w : World} {o : Obj} {k : Nat} {X : Obj} (h : w.heap[k]? = some X) : (w.alloc o).heap[k]? = some X := (Below.heap_alloc w o k (lt_of_block h)).trans h
theorem jn_step {ss : List ByteArray} {wss : List (List ByteArray)} {i : Nat} (h1 : i < ss.length) (h2 : i < wss.length) : jn (ss.drop i) (wss.drop i) = (if ss[i].size = 0 then [] else [ss[i]]) ++ (wss[i] ++ jn (ss.drop (i + 1)) (wss.drop (i + 1))) := by
 rw [List.drop_eq_getElem_cons h1,List.drop_eq_getElem_cons h2,jn]
theorem kids_row {w : World} {B n : Nat} {kv : Value} {ps : List Value} (h : RowAt w B n kv ps) (hp : 1 <= ps.length) : ∃ g off cap,kv = .slice (some ⟨g,off,none⟩) ps.length cap /\ g < n /\ ps.length <= cap /\ ∀ i u,ps[i]? = some u -> w.cell? ⟨g,off + i,none⟩ = some u := by
 rcases h with ⟨h,_⟩ | ⟨g,off,cap,h1,h2,h3,h4,h5⟩
 ·subst h;simp at hp
 ·exact ⟨g,off,cap,h1,h3,h4,h5⟩
theorem own_cells {w : World} {B g n cap : Nat} {xs : List ByteArray} (h : w.ownsRow B 9 1 (.slice (some ⟨g,0,none⟩) n cap) n (xs.map Value.string)) : ∀ j u,(xs.map Value.string)[j]? = some u -> w.cell? ((⟨g,0,none⟩ : Addr).add j) = some u := h.cells rfl
theorem str_one (xs : List ByteArray) : ∀ u ∈ xs.map Value.string,u.oneCell' = true := by
 intro u hu
 rw [List.mem_map] at hu
 obtain ⟨x,_,rfl⟩ := hu
 rfl
theorem row_ne {v v' : Value} {sb n : Nat} (h : v.ownBlock ≠ some sb) (hr : v'.ownBlock = v.ownBlock \/ v'.ownBlock = some n) (hs : sb < n) : v'.ownBlock ≠ some sb := by
 rcases hr with hr | hr
 ·rw [hr];exact h
 ·rw [hr];intro e;simp at e;omega
theorem own_blk_lt {w : World} {B m : Nat} {e : TypeId} {v : Value} {xs : List Value} (h : w.ownsRow B e 1 v m xs) {n : Nat} (hn : w.heap.size <= n) : v.ownBlock ≠ some n := fun e => by have := (h.lt _ e).2;omega
theorem empty_str {s : ByteArray} (h : s.size = 0) : s.toList.isEmpty = true := by
 rw [ByteArray.toList_eq]
 have : s.data.toList.length = 0 := by have := len_data s;omega
 rw [List.eq_nil_of_length_eq_zero this];rfl
theorem al2_size (w : World) (o1 o2 : Obj) : w.heap.size + 1 + 1 = ((w.alloc o1).alloc o2).heap.size := by simp
theorem al2_le (w : World) (o1 o2 : Obj) : w.heap.size <= ((w.alloc o1).alloc o2).heap.size := by simp;omega
theorem sro_cells {w : World} {g off : Nat} {xs : List ByteArray} (h : SRo w g off xs) : ∀ j u,(xs.map Value.string)[j]? = some u -> w.cell? ((⟨g,off,none⟩ : Addr).add j) = some u := by
 intro j u hu
 rw [addr_add']
 rw [List.getElem?_map] at hu
 by_cases hj : j < xs.length
 ·rw [List.getElem?_eq_getElem hj] at hu
  simp at hu
  rw [<- hu];exact h j hj
 ·rw [List.getElem?_eq_none (by omega)] at hu;simp at hu
end Go.Proofs.YtmkdoejpgkgpbaaGreatDoor
