import Derived.Test.YtmkdoejpgkgpbaaGreatDoorS12
set_option linter.unusedVariables false
set_option linter.unusedSimpArgs false
set_option maxHeartbeats 20000000
namespace Go.Proofs.YtmkdoejpgkgpbaaGreatDoor
open Go.RowKit Sl
def idsF (l : List Tok) : List ByteArray := (l.filter (fun t => t.k == 2)).map Tok.t
theorem idsF_len (l : List Tok) : (idsF l).length <= l.length := by
 unfold idsF;rw [List.length_map];exact List.length_filter_le _ _
theorem idsF_cons (t : Tok) (r : List Tok) : idsF (t :: r) = if t.k = 2 then t.t :: idsF r else idsF r := by
 unfold idsF
 by_cases h : t.k = 2 <;> simp [h]
set_option maxRecDepth 100000 in
theorem texts_any (L : List Tok) (b off cap : Nat) (w : World) (hL : L.length <= 100000) (hc : L.length <= cap) (hb : b < w.heap.size) (hr : RW w b off L) (hok : ∀ t ∈ L,okTok t) :
 Calls Tryz.prog 117 #[.slice (some ⟨b,off,none⟩) L.length cap] w fun e w' => ∃ v,e = .returned v /\ w'.ownsRow w.heap.size 9 1 v (idsF L).length ((idsF L).map Value.string) /\ Below w.heap.size w w' := by
 obtain ⟨i0,hi0,hz0,hz1,hz2⟩ := info_parts Tryz.info9
 have HR : Hid (RW w b off L) := hr
 have HK : Hid (∀ t ∈ L,okTok t) := hok
 clear hr hok
 go_enter Tryz.func117,Tryz.ntmps117
 go_wp2_with fail
 go_loopw [3,4] (fun v j wr => ∃ (i m : Nat) (acc : List ByteArray),i <= L.length /\ acc.length = m /\ m <= i /\ acc ++ idsF (L.drop i) = idsF L /\ j = .int .i64 i /\ wr.ownsRow w.heap.size 9 1 v m (acc.map Value.string) /\ Below w.heap.size w wr) (fun _ j _ => L.length - (intOf j).toNat)
 case atStart => exact ⟨0,0,[],Nat.zero_le _,rfl,Nat.le_refl _,by simp,rfl,World.ownsRow_nil _ _ _ _,Below.refl _ _⟩
 case round =>
  obtain ⟨i,m,acc,hi,hal,hm,hds,rfl,hown,hbw⟩ := hrel
  have HD : Hid (acc ++ idsF (L.drop i) = idsF L) := hds
  have HA : Hid (acc.length = m) := hal
  clear hds hal
  have hsz := hbw.size
  by_cases hlt : i < L.length
  ·obtain ⟨c1,c2,_⟩ := (HR.out.below hbw hb) i hlt
   obtain ⟨hkn,hk35⟩ := HK.out L[i] (by simp)
   rw [hkn] at c1
   have q2 := nk2 hk35
   have hstep : Hid (idsF (L.drop i) = if L[i].k = 2 then L[i].t :: idsF (L.drop (i + 1)) else idsF (L.drop (i + 1))) := by
    show _ = _
    rw [List.drop_eq_getElem_cons hlt,idsF_cons]
   obtain ⟨kk,hkk⟩ : ∃ kk,L[i].k = kk := ⟨_,rfl⟩
   obtain ⟨tt,htt⟩ : ∃ tt,L[i].t = tt := ⟨_,rfl⟩
   rw [hkk] at c1 q2
   rw [htt] at c2
   have HKK : Hid (L[i].k = kk) := hkk
   have HTT : Hid (L[i].t = tt) := htt
   clear hkn hkk htt hk35
   by_cases h2 : kk = 2
   ·have e2 : ((nameK kk).toList == [105,100]) = true := by rw [q2];simpa using h2
    have H2 : Hid (kk = 2) := h2
    clear q2 h2
    go_wp2_with (at_builtin;refine wpList_append_own _ rfl (.tmp 17) (.tmp 23) 114 rfl w.heap.size 9 i0 _ 1 16 Tryz.underlying114 hi0 hz0 hz1 hz2 rfl (by decide) _ _ _ rfl (hown.alloc _) _ 1 1 [.string tt] rfl rfl (cells_new _ _ _ _ rfl) ?_ ?_ ?_ ?_ ?_;(intro u hu;simp at hu;subst hu;rfl);(unfold maxLen;omega);omega;(simp;omega);intro v' w3 hown3 hg3 _;have hbw3 := below_app hbw hsz _ hg3 (own_ge hown))
    go_roundw
    case rel => exact ⟨i + 1,m + 1,acc ++ [tt],by omega,by simp [HA.out],by omega,(by rw [<- HD.out,hstep.out,HKK.out,if_pos H2.out,HTT.out];simp),by go_num,by simpa using hown3,hbw3⟩
    case measure => simp [intOf];omega
   ·have e2 : ((nameK kk).toList == [105,100]) = false := by rw [q2];simpa using h2
    have H2 : Hid (¬ kk = 2) := h2
    clear q2 h2
    go_wp2_with fail
    go_roundw
    case rel => exact ⟨i + 1,m,acc,by omega,HA.out,by omega,(by rw [<- HD.out,hstep.out,HKK.out,if_neg H2.out]),by go_num,hown,hbw⟩
    case measure => simp [intOf];omega
  ·have HF : Hid (acc = idsF L) := by
    show _ = _
    have := HD.out
    rw [List.drop_eq_nil_of_le (by omega)] at this
    simpa [idsF] using this
   go_wp2_with fail
   go_ret
   refine ⟨_,rfl,?_,hbw⟩
   rw [<- HF.out,HA.out];exact hown
def hitO (L : List Tok) (i : Nat) : Prop := i = L.length \/ (ddAt L i = 0 /\ kdAt L i ≠ 24 /\ kdAt L i ≠ 18)
instance (L : List Tok) (i : Nat) : Decidable (hitO L i) := by unfold hitO;exact inferInstance
def opN (L : List Tok) : Nat -> Nat -> Nat -> List (Nat × Nat)
 | 0,_,_ => []
 | m + 1,i,f => if hitO L i then (f,i) :: opN L m (i + 1) i else opN L m (i + 1) f
def cutV (b off cap : Nat) (p : Nat × Nat) : Value := .slice (some ⟨b,off + p.1 * 3,none⟩) (p.2 - p.1) (cap - p.1)
theorem Tryz.info109 : (Tryz.prog.info? 109).map (fun i => (i.zero,i.size,i.bytes)) = some (some (.slice none 0 0),1,24) := by kernel_rfl
theorem own_mono {wr : World} {B B' m sz : Nat} {e : TypeId} {v : Value} {xs : List Value} (h : wr.ownsRow B' e sz v m xs) (hB : B <= B') : wr.ownsRow B e sz v m xs := by
 refine ⟨h.1,?_⟩
 rcases h.2 with h0 | ⟨g,cap,cur,h1,h2,h3⟩
 ·exact Or.inl h0
 ·exact Or.inr ⟨g,cap,cur,h1,Nat.le_trans hB h2,h3⟩
set_option maxRecDepth 100000 in
theorem operands_any (L : List Tok) (b off cap : Nat) (w : World) (hL : L.length <= 100000) (hL1 : 1 <= L.length) (hc : L.length <= cap) (hb : b < w.heap.size) (hr : RW w b off L) (hok : ∀ t ∈ L,okTok t) :
 Calls Tryz.prog 188 #[.slice (some ⟨b,off,none⟩) L.length cap] w fun e w' => ∃ v,e = .returned v /\ w'.ownsRow w.heap.size 109 1 v (opN L L.length 1 0).length ((opN L L.length 1 0).map (cutV b off cap)) /\ Below w.heap.size w w' := by
 obtain ⟨i0,hi0,hz0,hz1,hz2⟩ := info_parts Tryz.info109
 have HR : Hid (RW w b off L) := hr
 have HK : Hid (∀ t ∈ L,okTok t) := hok
 clear hr hok
 obtain ⟨z,hz⟩ : ∃ z,z = opN L L.length 1 0 := ⟨_,rfl⟩
 rw [<- hz]
 have HZ : Hid (z = opN L L.length 1 0) := hz
 clear hz
 go_enter Tryz.func188,Tryz.ntmps188
 go_wp2_with (go_at_call 186;refine (depths_any L b off cap w hL hc hb HR.out HK.out).mono ?_;rintro e w1 ⟨v,rfl,hv,hb1⟩;obtain ⟨gd,dcap,rfl,hd1,hd2,hd3,hd4⟩ := own_shapeP hv hL1)
 have HV : Hid (w1.ownsRow w.heap.size 3 1 (.slice (some ⟨gd,0,none⟩) L.length dcap) L.length ((dsF 0 L).map (Value.int .i64))) := hv
 have HRW : Hid (RW w1 b off L) := HR.out.below hb1 hb
 have hs1 := hb1.size
 clear hv hd4
 go_loopw [4,5,6] (fun v u j wr => ∃ (m f i : Nat) (acc : List (Nat × Nat)),1 <= i /\ i <= L.length + 1 /\ f < i /\ f <= L.length /\ m < i /\ acc.length = m /\ acc ++ opN L (L.length + 1 - i) i f = z /\ u = .int .i64 f /\ j = .int .i64 i /\ wr.ownsRow w1.heap.size 109 1 v m (acc.map (cutV b off cap)) /\ Below w1.heap.size w1 wr) (fun _ _ j _ => L.length + 1 - (intOf j).toNat)
 case atStart => exact ⟨0,0,1,[],Nat.le_refl _,by omega,by omega,by omega,by omega,rfl,(by rw [HZ.out];simp),rfl,rfl,World.ownsRow_nil _ _ _ _,Below.refl _ _⟩
 case round =>
  obtain ⟨m,f,i,acc,hi1,hi,hf,hfL,hm,hal,hds,rfl,rfl,hown,hbw⟩ := hrel
  have HD : Hid (acc ++ opN L (L.length + 1 - i) i f = z) := hds
  have HA : Hid (acc.length = m) := hal
  clear hds hal
  have hsz := hbw.size
  by_cases hle : i <= L.length
  ·have hstep : Hid (opN L (L.length + 1 - i) i f = if hitO L i then (f,i) :: opN L (L.length + 1 - (i + 1)) (i + 1) i else opN L (L.length + 1 - (i + 1)) (i + 1) f) := by
    show _ = _
    rw [show L.length + 1 - i = (L.length + 1 - (i + 1)) + 1 by omega,opN]
   by_cases hil : i = L.length
   ·have hilb : ((i : Int) == (L.length : Int)) = true := by simp [hil]
    have HH : Hid (hitO L i) := Or.inl hil
    have HIL : Hid (i = L.length) := hil
    clear hil
    go_wp2_with (at_builtin;refine wpList_append_own _ rfl (.tmp 47) (.tmp 49) 306 rfl w1.heap.size 109 i0 _ 1 24 Tryz.underlying306 hi0 hz0 hz1 hz2 rfl (by decide) _ _ _ rfl (hown.alloc _) _ 1 1 [cutV b off cap (f,i)] rfl rfl (cells_new _ _ _ _ rfl) ?_ ?_ ?_ ?_ ?_;(intro u hu;simp at hu;subst hu;rfl);(unfold maxLen;omega);omega;(simp;omega);intro v' w3 hown3 hg3 _;have hbw3 := below_app hbw hsz _ hg3 (own_ge hown))
    go_roundw
    case rel => exact ⟨m + 1,i,i + 1,acc ++ [(f,i)],by omega,by omega,by omega,by omega,by omega,by simp [HA.out],(by rw [<- HD.out,hstep.out,if_pos HH.out];simp),rfl,by go_num,by simpa using hown3,hbw3⟩
    case measure => simp [intOf];omega
   ·have hlt : i < L.length := by omega
    have hilb : ((i : Int) == (L.length : Int)) = false := by simp;omega
    obtain ⟨c1,_,_⟩ := (HRW.out.below hbw (by omega)) i hlt
    obtain ⟨hkn,hk35⟩ := HK.out L[i] (by simp)
    have hdd := (hbw.cell (p := ⟨gd,i,none⟩) hd2).trans (ddAt_cell HV.out i hlt)
    rw [hkn] at c1
    have q24 := nk24 hk35
    have q18 := nk18 hk35
    have HIL : Hid (¬ i = L.length) := hil
    have HKA : Hid (kdAt L i = L[i].k) := kdAt_eq L i hlt
    obtain ⟨kk,hkk⟩ : ∃ kk,L[i].k = kk := ⟨_,rfl⟩
    obtain ⟨dv,hdv⟩ : ∃ dv,ddAt L i = dv := ⟨_,rfl⟩
    rw [hkk] at c1 q24 q18
    rw [hdv] at hdd
    have HKK : Hid (kdAt L i = kk) := HKA.out.trans hkk
    have HDV : Hid (ddAt L i = dv) := hdv
    clear hkn hkk hdv hil hk35
    by_cases hd0 : dv = 0
    ·rw [hd0] at hdd
     have HD0 : Hid (dv = 0) := hd0
     clear hd0
     by_cases h24 : kk = 24
     ·have e24 : ((nameK kk).toList == [41]) = true := by rw [q24];simpa using h24
      have HH : Hid (¬ hitO L i) := by
       show ¬ _
       unfold hitO;rw [HKK.out];intro h;rcases h with h | h
       ·exact HIL.out h
       ·exact h.2.1 h24
      clear q24 q18 h24
      go_wp2_with fail
      go_roundw
      case rel => exact ⟨m,f,i + 1,acc,by omega,by omega,by omega,by omega,by omega,HA.out,(by rw [<- HD.out,hstep.out,if_neg HH.out]),rfl,by go_num,hown,hbw⟩
      case measure => simp [intOf];omega
     ·have e24 : ((nameK kk).toList == [41]) = false := by rw [q24];simpa using h24
      have H24 : Hid (¬ kk = 24) := h24
      clear h24
      by_cases h18 : kk = 18
      ·have e18 : ((nameK kk).toList == [46,40]) = true := by rw [q18];simpa using h18
       have HH : Hid (¬ hitO L i) := by
        show ¬ _
        unfold hitO;rw [HKK.out];intro h;rcases h with h | h
        ·exact HIL.out h
        ·exact h.2.2 h18
       clear q24 q18 h18
       go_wp2_with fail
       go_roundw
       case rel => exact ⟨m,f,i + 1,acc,by omega,by omega,by omega,by omega,by omega,HA.out,(by rw [<- HD.out,hstep.out,if_neg HH.out]),rfl,by go_num,hown,hbw⟩
       case measure => simp [intOf];omega
      ·have e18 : ((nameK kk).toList == [46,40]) = false := by rw [q18];simpa using h18
       have HH : Hid (hitO L i) := by
        show hitO L i
        unfold hitO;rw [HKK.out,HDV.out];exact Or.inr ⟨HD0.out,H24.out,h18⟩
       clear q24 q18 h18
       go_wp2_with (at_builtin;refine wpList_append_own _ rfl (.tmp 47) (.tmp 49) 306 rfl w1.heap.size 109 i0 _ 1 24 Tryz.underlying306 hi0 hz0 hz1 hz2 rfl (by decide) _ _ _ rfl (hown.alloc _) _ 1 1 [cutV b off cap (f,i)] rfl rfl (cells_new _ _ _ _ rfl) ?_ ?_ ?_ ?_ ?_;(intro u hu;simp at hu;subst hu;rfl);(unfold maxLen;omega);omega;(simp;omega);intro v' w3 hown3 hg3 _;have hbw3 := below_app hbw hsz _ hg3 (own_ge hown))
       go_roundw
       case rel => exact ⟨m + 1,i,i + 1,acc ++ [(f,i)],by omega,by omega,by omega,by omega,by omega,by simp [HA.out],(by rw [<- HD.out,hstep.out,if_pos HH.out];simp),rfl,by go_num,by simpa using hown3,hbw3⟩
       case measure => simp [intOf];omega
    ·have hd0' : (dv == 0) = false := by simpa using hd0
     have HH : Hid (¬ hitO L i) := by
      show ¬ _
      unfold hitO;rw [HDV.out];intro h;rcases h with h | h
      ·exact HIL.out h
      ·exact hd0 h.1
     clear q24 q18 hd0
     go_wp2_with fail
     go_roundw
     case rel => exact ⟨m,f,i + 1,acc,by omega,by omega,by omega,by omega,by omega,HA.out,(by rw [<- HD.out,hstep.out,if_neg HH.out]),rfl,by go_num,hown,hbw⟩
     case measure => simp [intOf];omega
  ·have HF : Hid (acc = z) := by
    show _ = _
    have := HD.out
    rw [show L.length + 1 - i = 0 by omega,opN] at this
    simpa using this
   go_wp2_with fail
   go_ret
   refine ⟨_,rfl,?_,hb1.trans (hbw.mono hs1)⟩
   rw [<- HF.out,HA.out];exact own_mono hown hs1
inductive G where
 | nd (form : ByteArray) (pos num : Int) (name : ByteArray) (names : List ByteArray) (kids : List G)
def Held (B n : Nat) (w w' : World) : Prop := ∀ b,B <= b -> b < n -> w'.heap[b]? = w.heap[b]?
def RowAt (w : World) (B n : Nat) (v : Value) (xs : List Value) : Prop :=
 (xs = [] /\ ∃ a cap,v = .slice a 0 cap) \/ ∃ g off cap,v = .slice (some ⟨g,off,none⟩) xs.length cap /\ B <= g /\ g < n /\ xs.length <= cap /\ ∀ i u,xs[i]? = some u -> w.cell? ⟨g,off + i,none⟩ = some u
mutual
inductive HT (w : World) (B n : Nat) : Value -> G -> Prop
 | nd {b : Nat} {form name : ByteArray} {pos num : Int} {names : List ByteArray} {kids : List G} {nv kv : Value} {ps : List Value} :
   B <= b -> b < n -> w.heap[b]? = some (.cells #[.string form,.int .i64 pos,.int .i64 num,.string name,nv,kv] 205 (0,0)) ->
   RowAt w B n nv (names.map Value.string) -> RowAt w B n kv ps -> HTs w B n ps kids -> HT w B n (.pointer (some ⟨b,0,none⟩)) (.nd form pos num name names kids)
inductive HTs (w : World) (B n : Nat) : List Value -> List G -> Prop
 | nil : HTs w B n [] []
 | cons {v : Value} {g : G} {vs : List Value} {gs : List G} : HT w B n v g -> HTs w B n vs gs -> HTs w B n (v :: vs) (g :: gs)
end
theorem RowAt.keep {w w' : World} {B n : Nat} {v : Value} {xs : List Value} (h : RowAt w B n v xs) (hk : Held B n w w') : RowAt w' B n v xs := by
 rcases h with h | ⟨g,off,cap,h1,h2,h3,h4,h5⟩
 ·exact Or.inl h
 ·refine Or.inr ⟨g,off,cap,h1,h2,h3,h4,fun i u hu => ?_⟩
  rw [<- h5 i u hu]
  exact World.cell?_of_block (w := w) (a := ⟨g,off + i,none⟩) (hk g h2 h3)
theorem RowAt.wide {w : World} {B n B' n' : Nat} {v : Value} {xs : List Value} (h : RowAt w B n v xs) (hB : B' <= B) (hn : n <= n') : RowAt w B' n' v xs := by
 rcases h with h | ⟨g,off,cap,h1,h2,h3,h4,h5⟩
 ·exact Or.inl h
 ·exact Or.inr ⟨g,off,cap,h1,by omega,by omega,h4,h5⟩
mutual
theorem HT.keep {w w' : World} {B n : Nat} {v : Value} {g : G} (h : HT w B n v g) (hk : Held B n w w') : HT w' B n v g := by
 cases h with
 | nd h1 h2 h3 h4 h5 h6 => exact .nd h1 h2 (by rw [hk _ h1 h2];exact h3) (h4.keep hk) (h5.keep hk) (HTs.keep h6 hk)
theorem HTs.keep {w w' : World} {B n : Nat} {v : List Value} {g : List G} (h : HTs w B n v g) (hk : Held B n w w') : HTs w' B n v g := by
 cases h with
 | nil => exact .nil
 | cons h1 h2 => exact .cons (HT.keep h1 hk) (HTs.keep h2 hk)
end
mutual
theorem HT.wide {w : World} {B n B' n' : Nat} {v : Value} {g : G} (h : HT w B n v g) (hB : B' <= B) (hn : n <= n') : HT w B' n' v g := by
 cases h with
 | nd h1 h2 h3 h4 h5 h6 => exact .nd (by omega) (by omega) h3 (h4.wide hB hn) (h5.wide hB hn) (HTs.wide h6 hB hn)
theorem HTs.wide {w : World} {B n B' n' : Nat} {v : List Value} {g : List G} (h : HTs w B n v g) (hB : B' <= B) (hn : n <= n') : HTs w B' n' v g := by
 cases h with
 | nil => exact .nil
 | cons h1 h2 => exact .cons (HT.wide h1 hB hn) (HTs.wide h2 hB hn)
end
theorem HTs.len {w : World} {B n : Nat} : ∀ {v : List Value} {g : List G},HTs w B n v g -> v.length = g.length := by
 intro v
 induction v with
 | nil => intro g h;cases h;rfl
 | cons a r ih => intro g h;cases h with | cons h1 h2 => simp [ih h2]
theorem HTs.app {w : World} {B n : Nat} : ∀ {v v' : List Value} {g g' : List G},HTs w B n v g -> HTs w B n v' g' -> HTs w B n (v ++ v') (g ++ g') := by
 intro v
 induction v with
 | nil => intro v' g g' h h';cases h;exact h'
 | cons a r ih => intro v' g g' h h';cases h with | cons h1 h2 => exact .cons h1 (ih h2 h')
theorem belowHeld {B : Nat} {w w' : World} (h : Below B w w') (A : Nat) : Held A B w w' := fun b _ hb => h.block b hb
theorem rowAt_own {w : World} {B m : Nat} {e : TypeId} {v : Value} {xs : List Value} (h : w.ownsRow B e 1 v m xs) : RowAt w B w.heap.size v xs := by
 have hl := h.1
 rcases h.2 with ⟨h1,h2⟩ | ⟨g,cap,cur,h1,h2,h3,h4,h5,h6,h7⟩
 ·refine Or.inl ⟨List.length_eq_zero_iff.mp (by omega),_,_,h1⟩
 ·have hm : m = xs.length := by omega
  subst hm
  subst h1
  refine Or.inr ⟨g,0,cap,rfl,h2,lt_of_block h3,h4,fun i u hu => ?_⟩
  have hi : i < xs.length := by
   rcases Nat.lt_or_ge i xs.length with h | h
   ·exact h
   ·rw [List.getElem?_eq_none h] at hu;simp at hu
  rw [Nat.zero_add]
  exact (h.cellAt i (by omega)).trans hu
abbrev f_num : ByteArray := ⟨#[110,117,109]⟩
abbrev f_bool : ByteArray := ⟨#[98,111,111,108]⟩
abbrev f_unit : ByteArray := ⟨#[117,110,105,116]⟩
abbrev f_var : ByteArray := ⟨#[118,97,114]⟩
abbrev f_read : ByteArray := ⟨#[114,101,97,100]⟩
abbrev f_neg : ByteArray := ⟨#[110,101,103]⟩
abbrev f_not : ByteArray := ⟨#[110,111,116]⟩
abbrev f_op : ByteArray := ⟨#[111,112]⟩
abbrev f_if : ByteArray := ⟨#[105,102]⟩
abbrev f_let : ByteArray := ⟨#[108,101,116]⟩
abbrev f_pair : ByteArray := ⟨#[112,97,105,114]⟩
abbrev f_rec : ByteArray := ⟨#[114,101,99]⟩
abbrev f_fun : ByteArray := ⟨#[102,117,110]⟩
abbrev f_call : ByteArray := ⟨#[99,97,108,108]⟩
abbrev f_tuple : ByteArray := ⟨#[116,117,112,108,101]⟩
abbrev f_get : ByteArray := ⟨#[103,101,116]⟩
abbrev f_put : ByteArray := ⟨#[112,117,116]⟩
abbrev f_array : ByteArray := ⟨#[97,114,114,97,121]⟩
abbrev f_len : ByteArray := ⟨#[108,101,110]⟩
abbrev f_print : ByteArray := ⟨#[112,114,105,110,116]⟩
abbrev f_seq : ByteArray := ⟨#[115,101,113]⟩
abbrev f_0 : ByteArray := ⟨#[]⟩
def cutL (L : List Tok) (i j : Nat) : List Tok := (L.drop i).take (j - i)
theorem cutL_len (L : List Tok) {i j : Nat} (h : i <= j) (hj : j <= L.length) : (cutL L i j).length = j - i := by
 unfold cutL;rw [List.length_take,List.length_drop];omega
def mtL (L : List Tok) (i op cl : Nat) : Nat := i + mt op cl 0 (tks (L.drop i))
def spl (cls : Nat) (L : List Tok) : Nat := splN cls L (L.length - 1) 1 0
def ixN (L : List Tok) : Nat -> Nat -> Nat -> Nat
 | 0,_,a => a
 | m + 1,i,a => ixN L m (i + 1) (if ddAt L i = 0 /\ kdAt L i = 18 then i else a)
def ixL (L : List Tok) : Nat := ixN L (L.length - 1) 1 0
def cmN (L : List Tok) : Nat -> Nat -> Nat -> List (Nat × Nat) × Nat
 | 0,_,f => ([],f)
 | m + 1,i,f => if ddAt L i = 0 /\ kdAt L i = 25 then ((f,i) :: (cmN L m (i + 1) (i + 1)).1,(cmN L m (i + 1) (i + 1)).2) else cmN L m (i + 1) f
def cmL (L : List Tok) : List (Nat × Nat) × Nat := cmN L L.length 0 0
def opL (L : List Tok) : List (Nat × Nat) := opN L L.length 1 0
def wordK (k : Nat) : Bool := k == 14 || k == 15 || k == 16 || k == 17
def tokAt (L : List Tok) (i : Nat) : Tok := L[i]?.getD ⟨0,0,0,⟨#[]⟩⟩
def G.pos : G -> Int
 | .nd _ p _ _ _ _ => p
mutual
inductive TG : Nat -> Int -> List Tok -> G -> Prop
 | lt {p : Int} {L : List Tok} {a b : G} {e i : Nat} : kdAt L 0 = 3 -> mtL L 1 99 27 = e -> mtL L 1 3 5 = i -> 1 <= e -> e < i -> i + 1 < L.length -> e + 1 < i -> (idsF (cutL L 1 e)).length ≠ 0 -> kdAt L 1 ≠ 4 -> kdAt L 1 ≠ 23 ->
  TG 0 0 (cutL L (e + 1) i) a -> TG 0 0 (L.drop (i + 1)) b -> TG 0 p L (.nd f_let (tokAt L 0).p 0 ((idsF (cutL L 1 e)).headD ⟨#[]⟩) [] [a,b])
 | rc {p : Int} {L : List Tok} {a b : G} {e i : Nat} : kdAt L 0 = 3 -> mtL L 1 99 27 = e -> mtL L 1 3 5 = i -> 1 <= e -> e < i -> i + 1 < L.length -> e + 1 < i -> 2 <= (idsF (cutL L 1 e)).length -> kdAt L 1 = 4 ->
  TG 0 0 (cutL L (e + 1) i) a -> TG 0 0 (L.drop (i + 1)) b -> TG 0 p L (.nd f_rec (tokAt L 0).p 0 ((idsF (cutL L 1 e)).headD ⟨#[]⟩) (idsF (cutL L 1 e)).tail [a,b])
 | pr {p : Int} {L : List Tok} {a b : G} {e i : Nat} : kdAt L 0 = 3 -> mtL L 1 99 27 = e -> mtL L 1 3 5 = i -> 1 <= e -> e < i -> i + 1 < L.length -> e + 1 < i -> (idsF (cutL L 1 e)).length ≠ 0 -> kdAt L 1 = 23 ->
  TG 0 0 (cutL L (e + 1) i) a -> TG 0 0 (L.drop (i + 1)) b -> TG 0 p L (.nd f_pair (tokAt L 0).p 0 f_0 (idsF (cutL L 1 e)) [a,b])
 | iff {p : Int} {L : List Tok} {a b c : G} {i j : Nat} : kdAt L 0 = 6 -> mtL L 1 6 7 = i -> mtL L (i + 1) 6 8 = j -> 1 < i -> i + 1 < j -> j + 1 < L.length ->
  TG 0 0 (cutL L 1 i) a -> TG 0 0 (cutL L (i + 1) j) b -> TG 0 0 (L.drop (j + 1)) c -> TG 0 p L (.nd f_if (tokAt L 0).p 0 f_0 [] [a,b,c])
 | fn {p : Int} {L : List Tok} {b : G} {i : Nat} : kdAt L 0 = 9 -> mtL L 1 99 22 = i -> 1 <= i -> i + 1 < L.length ->
  TG 0 0 (L.drop (i + 1)) b -> TG 0 p L (.nd f_fun (tokAt L 0).p 0 f_0 (idsF (cutL L 1 i)) [b])
 | sq {p : Int} {L : List Tok} {a b : G} {i : Nat} : kdAt L 0 ≠ 3 -> kdAt L 0 ≠ 6 -> kdAt L 0 ≠ 9 -> spl 26 L = i -> 0 < i -> i + 1 < L.length ->
  TG 0 0 (cutL L 0 i) a -> TG 0 0 (L.drop (i + 1)) b -> TG 0 p L (.nd f_seq (tokAt L i).p 0 f_0 [] [a,b])
 | cm {p : Int} {L : List Tok} {a b : G} {i : Nat} : kdAt L 0 ≠ 3 -> kdAt L 0 ≠ 6 -> kdAt L 0 ≠ 9 -> spl 26 L = 0 -> spl 27 L = i -> 0 < i -> i + 1 < L.length ->
  TG 0 0 (cutL L 0 i) a -> TG 0 0 (L.drop (i + 1)) b -> TG 0 p L (.nd f_op (tokAt L i).p 0 (tokAt L i).t [] [a,b])
 | su {p : Int} {L : List Tok} {a b : G} {i : Nat} : kdAt L 0 ≠ 3 -> kdAt L 0 ≠ 6 -> kdAt L 0 ≠ 9 -> spl 26 L = 0 -> spl 27 L = 0 -> spl 30 L = i -> 0 < i -> i + 1 < L.length ->
  TG 0 0 (cutL L 0 i) a -> TG 0 0 (L.drop (i + 1)) b -> TG 0 p L (.nd f_op (tokAt L i).p 0 (tokAt L i).t [] [a,b])
 | po {p : Int} {L : List Tok} {a b : G} {i : Nat} : kdAt L 0 ≠ 3 -> kdAt L 0 ≠ 6 -> kdAt L 0 ≠ 9 -> spl 26 L = 0 -> spl 27 L = 0 -> spl 30 L = 0 -> spl 32 L = i -> 0 < i -> i + 1 < L.length ->
  TG 0 0 (cutL L 0 i) a -> TG 0 0 (L.drop (i + 1)) b -> TG 0 p L (.nd f_op (tokAt L i).p 0 (tokAt L i).t [] [a,b])
 | ng {p : Int} {L : List Tok} {a : G} : kdAt L 0 = 31 -> spl 26 L = 0 -> spl 27 L = 0 -> spl 30 L = 0 -> spl 32 L = 0 -> 1 < L.length -> TG 0 0 (L.drop 1) a -> TG 0 p L (.nd f_neg (tokAt L 0).p 0 f_0 [] [a])
 | nt {p : Int} {L : List Tok} {a : G} : kdAt L 0 = 10 -> spl 26 L = 0 -> spl 27 L = 0 -> spl 30 L = 0 -> spl 32 L = 0 -> 1 < L.length -> TG 0 0 (L.drop 1) a -> TG 0 p L (.nd f_not (tokAt L 0).p 0 f_0 [] [a])
 | ca {p : Int} {L : List Tok} {g : G} : kdAt L 0 ≠ 3 -> kdAt L 0 ≠ 6 -> kdAt L 0 ≠ 9 -> kdAt L 0 ≠ 31 -> kdAt L 0 ≠ 10 -> spl 26 L = 0 -> spl 27 L = 0 -> spl 30 L = 0 -> spl 32 L = 0 -> 0 < L.length -> TG 1 (tokAt L 0).p L g -> TG 0 p L g
 | wd {p : Int} {L : List Tok} {gs : List G} : wordK (kdAt L 0) = true -> 1 < L.length -> TGs 2 ((opL (L.drop 1)).map (fun q => cutL (L.drop 1) q.1 q.2)) gs -> TG 1 p L (.nd (nameK (kdAt L 0)) p 0 f_0 [] gs)
 | o1 {p : Int} {L : List Tok} {g : G} : wordK (kdAt L 0) = false -> 0 < L.length -> (opL L).length = 1 -> TG 2 p L g -> TG 1 p L g
 | cl {p : Int} {L : List Tok} {g : G} {gs : List G} : wordK (kdAt L 0) = false -> 0 < L.length -> (opL L).length ≠ 1 -> TGs 2 ((opL L).map (fun q => cutL L q.1 q.2)) (g :: gs) -> TG 1 p L (.nd f_call g.pos 0 f_0 [] (g :: gs))
 | gt {p : Int} {L : List Tok} {a b : G} {i : Nat} : ixL L = i -> 0 < i -> i + 2 < L.length -> TG 2 (tokAt L 0).p (cutL L 0 i) a -> TG 0 0 (cutL L (i + 1) (L.length - 1)) b -> TG 2 p L (.nd f_get (tokAt L i).p 0 f_0 [] [a,b])
 | nu {p : Int} {L : List Tok} : ixL L = 0 -> 0 < L.length -> kdAt L 0 = 1 -> numV (tokAt L 0).t = some (tokAt L 0).n -> (tokAt L 0).t.size <= 1000 -> TG 2 p L (.nd f_num p (tokAt L 0).n f_0 [] [])
 | tr {p : Int} {L : List Tok} : ixL L = 0 -> 0 < L.length -> kdAt L 0 = 11 -> TG 2 p L (.nd f_bool p 1 f_0 [] [])
 | fa {p : Int} {L : List Tok} : ixL L = 0 -> 0 < L.length -> kdAt L 0 = 12 -> TG 2 p L (.nd f_bool p 0 f_0 [] [])
 | rd {p : Int} {L : List Tok} : ixL L = 0 -> 0 < L.length -> kdAt L 0 = 13 -> TG 2 p L (.nd f_read p 0 f_0 [] [])
 | vr {p : Int} {L : List Tok} : ixL L = 0 -> 0 < L.length -> kdAt L 0 = 2 -> TG 2 p L (.nd f_var p 0 (tokAt L 0).t [] [])
 | bk {p : Int} {L : List Tok} {g : G} : ixL L = 0 -> 1 < L.length -> kdAt L 0 = 23 -> TG 3 p (cutL L 1 (L.length - 1)) g -> TG 2 p L g
 | un {p : Int} : TG 3 p [] (.nd f_unit p 0 f_0 [] [])
 | on {p : Int} {L : List Tok} {g : G} : 0 < L.length -> cmL L = ([],0) -> TG 0 0 L g -> TG 3 p L g
 | tu {p : Int} {L : List Tok} {g : G} {gs : List G} : 0 < L.length -> (cmL L).2 ≠ 0 -> (cmL L).2 < L.length -> TGs 0 ((cmL L).1.map (fun q => cutL L q.1 q.2)) gs -> TG 0 0 (L.drop (cmL L).2) g -> TG 3 p L (.nd f_tuple p 0 f_0 [] (gs ++ [g]))
inductive TGs : Nat -> List (List Tok) -> List G -> Prop
 | nil {m : Nat} : TGs m [] []
 | cons {m : Nat} {L : List Tok} {r : List (List Tok)} {g : G} {gs : List G} : 0 < L.length -> TG m (tokAt L 0).p L g -> TGs m r gs -> TGs m (L :: r) (g :: gs)
end
def cu (d : Int) (k : Nat) : Int := if k = 24 then d - 1 else d
def nxd (d : Int) (k : Nat) : Int := if k = 23 \/ k = 18 then cu d k + 1 else cu d k
def hits (P : Nat -> Nat -> Bool) : Int -> Nat -> Nat -> List Tok -> List Nat
 | _,_,_,[] => []
 | d,p,i,t :: r =>
   (if (cu d t.k) = 0 /\ P p t.k = true then [i] else []) ++ hits P (nxd d t.k) t.k (i + 1) r
theorem hits_pos (P : Nat -> Nat -> Bool) : ∀ (L : List Tok) (d p i : Nat),dep d (tks L) ≠ none -> hits P (d : Int) p i L = pos P d p i (tks L) := by
 intro L
 induction L with
 | nil => intro d p i _;rfl
 | cons t r ih =>
   intro d p i h
   show _ = pos P d p i (t.tk :: tks r)
   have h' : dep d (t.tk :: tks r) ≠ none := h
   simp only [dep] at h'
   rw [hits,pos]
   unfold nxd cu
   have kk : t.tk.k = t.k := rfl
   by_cases h23 : t.k = 23
   ·have e1 : isO t.tk = true := by simp [isO,kk,h23]
    have e2 : isC t.tk = false := by simp [isC,kk,h23]
    simp only [e1,e2,Bool.true_or,if_true] at h' ⊢
    have := ih (d + 1) t.k (i + 1) h'
    have h24 : ¬ t.k = 24 := by omega
    simp only [if_neg h24,if_pos (Or.inl h23 : t.k = 23 \/ t.k = 18)]
    simp only [Bool.false_eq_true,if_false,kk]
    rw [<- this]
    simp
   ·by_cases h18 : t.k = 18
    ·have e1 : isX t.tk = true := by simp [isX,kk,h18]
     have e2 : isC t.tk = false := by simp [isC,kk,h18]
     simp only [e1,e2,Bool.or_true,if_true] at h' ⊢
     have := ih (d + 1) t.k (i + 1) h'
     have h24 : ¬ t.k = 24 := by omega
     simp only [if_neg h24,if_pos (Or.inr h18 : t.k = 23 \/ t.k = 18)]
     simp only [Bool.false_eq_true,if_false,kk]
     rw [<- this]
     simp
    ·have e1 : isO t.tk = false := by simp [isO,kk,h23]
     have e3 : isX t.tk = false := by simp [isX,kk,h18]
     have hor : ¬ (t.k = 23 \/ t.k = 18) := by omega
     by_cases h24 : t.k = 24
     ·have e2 : isC t.tk = true := by simp [isC,kk,h24]
      simp only [e1,e2,e3,Bool.or_false,Bool.false_eq_true,if_false,if_true] at h' ⊢
      rw [if_pos h24,if_neg hor]
      cases d with
      | zero => simp at h'
      | succ d =>
        have := ih d t.k (i + 1) h'
        simp only [kk]
        have ec : ((d + 1 : Nat) : Int) - 1 = (d : Int) := by omega
        rw [ec,this]
        simp
     ·have e2 : isC t.tk = false := by simp [isC,kk,h24]
      simp only [e1,e2,e3,Bool.or_false,Bool.false_eq_true,if_false] at h' ⊢
      rw [if_neg h24,if_neg hor]
      have := ih d t.k (i + 1) h'
      simp only [kk]
      rw [this]
      simp
theorem ds_drop (L : List Tok) {i : Nat} {d : Int} {t : Tok} {R : List Tok} (hR : L.drop i = t :: R) (hd : (dsF 0 L).drop i = dsF d (t :: R)) :
 ddAt L i = (cu d t.k) /\ kdAt L i = t.k /\ L.drop (i + 1) = R /\ (dsF 0 L).drop (i + 1) = dsF (nxd d t.k) R := by
 have h1 : L[i]? = some t := by
  have := congrArg List.head? hR
  simpa using this
 have h2 : (dsF 0 L)[i]? = some (cu d t.k) := by
  have := congrArg List.head? hd
  rw [dsF] at this
  simpa [cu] using this
 refine ⟨by simp [ddAt,h2],by simp [kdAt,h1],?_,?_⟩
 ·have := congrArg List.tail hR
  simpa using this
 ·have := congrArg List.tail hd
  rw [dsF] at this
  simpa [cu,nxd] using this
def stp (cls : Nat) (a i : Nat) : Nat := if (cls = 26 -> a = 0) then i else a
theorem splN_hits (cls : Nat) (L : List Tok) : ∀ (R : List Tok) (i a : Nat) (d : Int),L.drop i = R -> (dsF 0 L).drop i = dsF d R -> splN cls L R.length i a = (hits (hitS cls) d (kdAt L (i - 1)) i R).foldl (stp cls) a := by
 intro R
 induction R with
 | nil => intro i a d _ _;rfl
 | cons t R ih =>
   intro i a d hR hd
   obtain ⟨h1,h2,h3,h4⟩ := ds_drop L hR hd
   rw [List.length_cons,splN,hits,ih (i + 1) _ _ h3 h4,List.foldl_append,Nat.add_sub_cancel,h1,h2]
   congr 1
   by_cases hc : (cu d t.k) = 0 /\ hitS cls (kdAt L (i - 1)) t.k = true
   ·rw [if_pos hc]
    show _ = stp cls a i
    unfold stp
    by_cases h26 : cls = 26 -> a = 0
    ·rw [if_pos ⟨hc.1,hc.2,h26⟩,if_pos h26]
    ·rw [if_neg (fun h => h26 h.2.2),if_neg h26]
   ·rw [if_neg hc,if_neg (fun h => hc ⟨h.1,h.2.1⟩)]
    rfl
theorem ixN_hits (L : List Tok) : ∀ (R : List Tok) (i a p : Nat) (d : Int),L.drop i = R -> (dsF 0 L).drop i = dsF d R -> ixN L R.length i a = (hits (fun _ k => k == 18) d p i R).foldl (fun _ j => j) a := by
 intro R
 induction R with
 | nil => intro i a p d _ _;rfl
 | cons t R ih =>
   intro i a p d hR hd
   obtain ⟨h1,h2,h3,h4⟩ := ds_drop L hR hd
   rw [List.length_cons,ixN,hits,ih (i + 1) _ t.k _ h3 h4,List.foldl_append,h1,h2]
   congr 1
   by_cases hc : (cu d t.k) = 0 /\ t.k = 18
   ·rw [if_pos hc,if_pos ⟨hc.1,by simp [hc.2]⟩];rfl
   ·rw [if_neg hc,if_neg (fun h => hc ⟨h.1,by simpa using h.2⟩)];rfl
def prs : Nat -> List Nat -> Nat -> List (Nat × Nat)
 | f,[],e => [(f,e)]
 | f,h :: r,e => (f,h) :: prs h r e
theorem opN_hits (L : List Tok) : ∀ (R : List Tok) (i f p : Nat) (d : Int),L.drop i = R -> i <= L.length -> (dsF 0 L).drop i = dsF d R -> opN L (R.length + 1) i f = prs f (hits pOpd d p i R) L.length := by
 intro R
 induction R with
 | nil =>
   intro i f p d hR hi _
   have hL : i = L.length := by
    have := congrArg List.length hR
    simp at this;omega
   rw [hits,prs]
   show opN L (0 + 1) i f = _
   rw [opN,if_pos (show hitO L i from Or.inl hL),opN,hL]
 | cons t R ih =>
   intro i f p d hR hi hd
   obtain ⟨h1,h2,h3,h4⟩ := ds_drop L hR hd
   have hlt : i < L.length := by
    have := congrArg List.length hR
    simp at this;omega
   rw [List.length_cons,opN,hits]
   by_cases hc : (cu d t.k) = 0 /\ pOpd p t.k = true
   ·have hh : hitO L i := Or.inr ⟨by rw [h1];exact hc.1,by have := hc.2;simp [pOpd] at this;rw [h2];exact this⟩
    rw [if_pos hh,if_pos hc,ih (i + 1) i t.k _ h3 (by omega) h4]
    rfl
   ·have hh : ¬ hitO L i := fun h => by
     rcases h with h | h
     ·omega
     ·refine hc ⟨by rw [<- h1];exact h.1,?_⟩
      have := h.2
      rw [h2] at this
      simp [pOpd,this]
    rw [if_neg hh,if_neg hc,ih (i + 1) f t.k _ h3 (by omega) h4]
    rfl
def cms : Nat -> List Nat -> List (Nat × Nat) × Nat
 | f,[] => ([],f)
 | f,h :: r => ((f,h) :: (cms (h + 1) r).1,(cms (h + 1) r).2)
theorem cmN_hits (L : List Tok) : ∀ (R : List Tok) (i f p : Nat) (d : Int),L.drop i = R -> (dsF 0 L).drop i = dsF d R -> cmN L R.length i f = cms f (hits (fun _ k => k == 25) d p i R) := by
 intro R
 induction R with
 | nil => intro i f p d _ _;rfl
 | cons t R ih =>
   intro i f p d hR hd
   obtain ⟨h1,h2,h3,h4⟩ := ds_drop L hR hd
   rw [List.length_cons,cmN,hits,h1,h2]
   by_cases hc : (cu d t.k) = 0 /\ t.k = 25
   ·rw [if_pos hc,if_pos ⟨hc.1,by simp [hc.2]⟩,ih (i + 1) (i + 1) t.k _ h3 h4];rfl
   ·rw [if_neg hc,if_neg (fun h => hc ⟨h.1,by simpa using h.2⟩),ih (i + 1) f t.k _ h3 h4];rfl
theorem hits_tail (P : Nat -> Nat -> Bool) (t : Tok) (R : List Tok) (p : Nat) (hd : dep 0 (tks (t :: R)) ≠ none) :
 pos P 0 p 0 (tks (t :: R)) = (if (cu 0 t.k) = 0 /\ P p t.k = true then [0] else []) ++ hits P (nxd 0 t.k) t.k 1 R := by
 rw [<- hits_pos P (t :: R) 0 p 0 hd]
 rfl
theorem ne_nil_tail {P : Nat -> Nat -> Bool} {t : Tok} {R : List Tok} {p : Nat} {hs : List Nat} (hd : dep 0 (tks (t :: R)) ≠ none) (hh : pos P 0 p 0 (tks (t :: R)) = hs) (h1 : ∀ h ∈ hs,1 <= h) :
 hits P (nxd 0 t.k) t.k 1 R = hs := by
 rw [hits_tail P t R p hd] at hh
 split at hh
 ·exfalso
  have := h1 0 (by rw [<- hh];simp)
  omega
 ·simpa using hh
theorem spl_pos {cls : Nat} {L : List Tok} {x : List Tk} {hs : List Nat} (hx : tks L = x) (hb : dep 0 x = some 0) (hh : pos (hitS cls) 0 0 0 x = hs) (h1 : ∀ h ∈ hs,1 <= h) : spl cls L = hs.foldl (stp cls) 0 := by
 subst hx
 cases L with
 | nil => simp [tks,pos] at hh;subst hh;rfl
 | cons t R =>
   have ht := ne_nil_tail (by rw [hb];simp) hh h1
   unfold spl
   have := splN_hits cls (t :: R) R 1 0 (nxd 0 t.k) rfl rfl
   rw [show (t :: R).length - 1 = R.length by simp,this,<- ht]
   rfl
theorem ix_pos {L : List Tok} {x : List Tk} {hs : List Nat} (hx : tks L = x) (hb : dep 0 x = some 0) (hh : pos (fun _ k => k == 18) 0 0 0 x = hs) (h1 : ∀ h ∈ hs,1 <= h) : ixL L = hs.foldl (fun _ j => j) 0 := by
 subst hx
 cases L with
 | nil => simp [tks,pos] at hh;subst hh;rfl
 | cons t R =>
   have ht := ne_nil_tail (by rw [hb];simp) hh h1
   unfold ixL
   have := ixN_hits (t :: R) R 1 0 t.k (nxd 0 t.k) rfl rfl
   rw [show (t :: R).length - 1 = R.length by simp,this,<- ht]
theorem op_pos {L : List Tok} {x : List Tk} {hs : List Nat} (hx : tks L = x) (hb : dep 0 x = some 0) (hh : pos pOpd 0 0 0 x = 0 :: hs) (h1 : ∀ h ∈ hs,1 <= h) : opL L = prs 0 hs L.length := by
 subst hx
 cases L with
 | nil => simp [tks,pos] at hh
 | cons t R =>
   have hd := hh
   rw [hits_tail pOpd t R 0 (by rw [hb];simp)] at hd
   have ht : hits pOpd (nxd 0 t.k) t.k 1 R = hs := by
    split at hd
    ·simpa using hd
    ·exfalso
     simp only [List.nil_append] at hd
     have : ∀ (R : List Tok) (d : Int) (p i : Nat),1 <= i -> ∀ h ∈ hits pOpd d p i R,1 <= h := by
      intro R
      induction R with
      | nil => intro d p i _ h hh;simp [hits] at hh
      | cons t R ih =>
        intro d p i hi h hh
        rw [hits,List.mem_append] at hh
        rcases hh with hh | hh
        ·split at hh
         ·simp at hh;omega
         ·simp at hh
        ·exact ih _ _ (i + 1) (by omega) h hh
     have := this R _ _ 1 (Nat.le_refl _) 0 (by rw [hd];simp)
     omega
   unfold opL
   have := opN_hits (t :: R) R 1 0 t.k (nxd 0 t.k) rfl (by simp) rfl
   rw [show (t :: R).length = R.length + 1 by simp,this,<- ht]
   simp
theorem cm_pos {L : List Tok} {x : List Tk} {hs : List Nat} (hx : tks L = x) (hb : dep 0 x = some 0) (hh : pos (fun _ k => k == 25) 0 0 0 x = hs) : cmL L = cms 0 hs := by
 subst hx
 unfold cmL
 rw [cmN_hits L L 0 0 0 0 rfl rfl,<- hh,<- hits_pos _ L 0 0 0 (by rw [hb];simp)]
 rfl
def treeB (p : Int) : Obj := .cells #[.string f_0,.int .i64 p,.int .i64 0,.string f_0,.slice none 0 0,.slice none 0 0] 205 (0,0)
def TreeOK (L : List Tok) (g : G) : Prop := ∀ (n b off cap : Nat) (w : World),n = L.length -> L.length <= 100000 -> L.length <= cap -> b < w.heap.size -> RW w b off L -> (∀ t ∈ L,okTok t) ->
 Calls Tryz.prog 69 #[.slice (some ⟨b,off,none⟩) n cap] w fun e w' => ∃ v,e = .returned v /\ HT w' w.heap.size w'.heap.size v g /\ Below w.heap.size w w'
def SubOK (F : Nat) (p : Int) (L : List Tok) (g : G) : Prop := ∀ (n b off cap bt : Nat) (w : World),n = L.length -> L.length <= 100000 -> L.length <= cap -> b < bt -> bt < w.heap.size -> w.heap[bt]? = some (treeB p) -> RW w b off L -> (∀ t ∈ L,okTok t) ->
 Calls Tryz.prog F #[.slice (some ⟨b,off,none⟩) n cap,.pointer (some ⟨bt,0,none⟩)] w fun e w' => ∃ v,e = .returned v /\ HT w' bt w'.heap.size v g /\ Below bt w w'
theorem RW.cut {w : World} {b off : Nat} {L : List Tok} (h : RW w b off L) (i j : Nat) : RW w b (off + i * 3) (cutL L i j) := by
 intro k hk
 unfold cutL at hk
 have hk' := hk
 rw [List.length_take,List.length_drop] at hk'
 have hh := h (i + k) (by omega)
 have he : (cutL L i j)[k] = L[i + k]'(by omega) := by simp [cutL]
 rw [he]
 have e : off + (i + k) * 3 = off + i * 3 + k * 3 := by omega
 rw [e] at hh
 exact hh
theorem RW.drop {w : World} {b off : Nat} {L : List Tok} (h : RW w b off L) (i : Nat) : RW w b (off + i * 3) (L.drop i) := by
 intro k hk
 have hk' := hk
 rw [List.length_drop] at hk'
 have hh := h (i + k) (by omega)
 have he : (L.drop i)[k] = L[i + k]'(by omega) := by simp
 rw [he]
 have e : off + (i + k) * 3 = off + i * 3 + k * 3 := by omega
 rw [e] at hh
 exact hh
theorem ok_cut {L : List Tok} (h : ∀ t ∈ L,okTok t) (i j : Nat) : ∀ t ∈ cutL L i j,okTok t := fun t ht => h t (List.mem_of_mem_drop (List.mem_of_mem_take ht))
theorem ok_drop {L : List Tok} (h : ∀ t ∈ L,okTok t) (i : Nat) : ∀ t ∈ L.drop i,okTok t := fun t ht => h t (List.mem_of_mem_drop ht)
theorem kdAt_cell {w : World} {b off : Nat} {L : List Tok} (h : RW w b off L) (hok : ∀ t ∈ L,okTok t) {i : Nat} (hi : i < L.length) : w.cell? ⟨b,off + i * 3,none⟩ = some (.string (nameK (kdAt L i))) := by
 rw [(h i hi).1,(hok L[i] (by simp)).1,kdAt_eq L i hi]
theorem tokAt_eq {L : List Tok} {i : Nat} (hi : i < L.length) : tokAt L i = L[i] := by simp [tokAt,hi]
theorem posAt_cell {w : World} {b off : Nat} {L : List Tok} (h : RW w b off L) {i : Nat} (hi : i < L.length) : w.cell? ⟨b,off + i * 3 + 2,none⟩ = some (.int .i64 (tokAt L i).p) := by
 rw [(h i hi).2.2,tokAt_eq hi]
theorem txtAt_cell {w : World} {b off : Nat} {L : List Tok} (h : RW w b off L) {i : Nat} (hi : i < L.length) : w.cell? ⟨b,off + i * 3 + 1,none⟩ = some (.string (tokAt L i).t) := by
 rw [(h i hi).2.1,tokAt_eq hi]
theorem nk_ne {k : Nat} (hk : k < 35) : ((nameK k).toList == (⟨#[]⟩ : ByteArray).toList) = decide (k = 99) := by
 have : ∀ k : Fin 35,((nameK k.val).toList == (⟨#[]⟩ : ByteArray).toList) = decide (k.val = 99) := by
  intro k
  rw [ByteArray.toList_eq,ByteArray.toList_eq]
  revert k
  decide
 exact this ⟨k,hk⟩
theorem cells_of_block {w : World} {b : Nat} {a : Array Value} {t : TypeId} (h : w.heap[b]? = some (.cells a t (0,0))) (i : Nat) : w.cell? ⟨b,i,none⟩ = a[i]? /\ w.frozen? ⟨b,i,none⟩ = false := by
 constructor <;> simp [World.cell?,World.frozen?,h]
theorem block_setCell {w : World} {b : Nat} {a : Array Value} {t : TypeId} (h : w.heap[b]? = some (.cells a t (0,0))) (i : Nat) (u : Value) : (w.setCell ⟨b,i,none⟩ u).heap[b]? = some (.cells (a.setIfInBounds i u) t (0,0)) := by
 have hlt := lt_of_block h
 have h' : w.heap[b] = .cells a t (0,0) := by simpa [Array.getElem?_eq_getElem hlt] using h
 show (w.heap.modify b _)[b]? = _
 rw [Array.getElem?_eq_getElem (by simpa using hlt),Array.getElem_modify_self,h']
 rfl
theorem RW.alloc {w : World} {b off : Nat} {L : List Tok} (h : RW w b off L) (hb : b < w.heap.size) (o : Obj) : RW (w.alloc o) b off L :=
 h.below ((Below.refl w.heap.size w).alloc (Nat.le_refl _) o) hb
theorem HT.ptr {w : World} {B n : Nat} {v : Value} {g : G} (h : HT w B n v g) : ∃ b,v = .pointer (some ⟨b,0,none⟩) /\ B <= b /\ b < n := by
 cases h with | nd h1 h2 => exact ⟨_,rfl,h1,h2⟩
theorem toL (l : List UInt8) : (⟨l.toArray⟩ : ByteArray).toList = l := by rw [ByteArray.toList_eq]
theorem match_at {L : List Tok} {b off cap i0 op cl i : Nat} {z : Int} {ob cb : ByteArray} {w : World} (hz : z = (i0 : Int)) (hL : L.length <= 100000) (hc : L.length <= cap) (hr : RW w b off L) (hok : ∀ t ∈ L,okTok t) (hi0 : i0 <= L.length)
 (hop : ∀ k,k < 35 -> ((nameK k).toList == ob.toList) = decide (k = op)) (hcl : ∀ k,k < 35 -> ((nameK k).toList == cb.toList) = decide (k = cl)) (hne : op ≠ cl) (hm : mtL L i0 op cl = i) :
 Calls Tryz.prog 116 #[.slice (some ⟨b,off,none⟩) L.length cap,.int .i64 z,.string ob,.string cb] w fun e w' => e = .returned (.int .i64 (i : Nat)) /\ w' = w := by
 have := match_any L b off cap i0 op cl ob cb w hL hc hr hok hi0 hop hcl hne
 subst hm hz
 exact this
theorem nkB6 : ∀ k,k < 35 -> ((nameK k).toList == (⟨#[105,102]⟩ : ByteArray).toList) = decide (k = 6) := fun k hk => (congrArg (fun q => (nameK k).toList == q) (toL [105,102])).trans (nk6 hk)
theorem nkB7 : ∀ k,k < 35 -> ((nameK k).toList == (⟨#[116,104,101,110]⟩ : ByteArray).toList) = decide (k = 7) := fun k hk => (congrArg (fun q => (nameK k).toList == q) (toL [116,104,101,110])).trans (nk7 hk)
theorem nkB8 : ∀ k,k < 35 -> ((nameK k).toList == (⟨#[101,108,115,101]⟩ : ByteArray).toList) = decide (k = 8) := fun k hk => (congrArg (fun q => (nameK k).toList == q) (toL [101,108,115,101])).trans (nk8 hk)
theorem blk_below {w w' : World} {b B : Nat} {o : Obj} (h : w.heap[b]? = some o) (hb : Below B w w') (hB : b < B) : w'.heap[b]? = some o := (hb.block b hB).trans h
theorem blk_new (w : World) (o : Obj) : (w.alloc o).heap[w.heap.size]? = some o := by
 show (w.heap.push o)[w.heap.size]? = _
 simp
theorem blk_cell {w : World} {b : Nat} {a : Array Value} {t : TypeId} {v : Value} (h : w.heap[b]? = some (.cells a t (0,0))) (i : Nat) (hv : a[i]? = some v) : ∀ o,(w.alloc o).cell? ⟨b,i,none⟩ = some v := fun o => by
 have := Below.heap_alloc w o b (lt_of_block h)
 rw [World.cell?_of_block (w := w) (a := ⟨b,i,none⟩) this,(cells_of_block h i).1,hv]
theorem blk_free {w : World} {b : Nat} {a : Array Value} {t : TypeId} (h : w.heap[b]? = some (.cells a t (0,0))) (i : Nat) : ∀ o,(w.alloc o).frozen? ⟨b,i,none⟩ = false := fun o => by
 have := Below.heap_alloc w o b (lt_of_block h)
 rw [World.frozen?_of_block (w := w) (a := ⟨b,i,none⟩) this,(cells_of_block h i).2]
theorem below_first {w w1 : World} {o : Obj} (h : Below (w.alloc o).heap.size (w.alloc o) w1) : Below w.heap.size w w1 :=
 ((Below.refl w.heap.size w).alloc (Nat.le_refl _) o).trans (h.mono (by simp))
theorem held_fin {B n bt i : Nat} {wa w3 : World} (h : Below n wa w3) (hn : n <= w3.heap.size) (hB : bt < B) (o : Obj) (u : Value) : Held B n wa ((w3.alloc o).setCell ⟨bt,i,none⟩ u) := fun b h1 h2 => by
 rw [Below.heap_setCell _ _ _ _ (by show b ≠ bt;omega),Below.heap_alloc _ _ _ (by omega)]
 exact h.block b h2
theorem ht_fin {w3 : World} {B bt N : Nat} {form name : ByteArray} {pos num : Int} {names : List ByteArray} {nv : Value} {ps : List Value} {gs : List G} {e : TypeId}
 (hblk : w3.heap[bt]? = some (.cells #[.string form,.int .i64 pos,.int .i64 num,.string name,nv,.slice none 0 0] 205 (0,0)))
 (hB : B <= bt) (hN : N = ps.length)
 (hnames : RowAt w3 (bt + 1) w3.heap.size nv (names.map Value.string)) (hk : HTs w3 (bt + 1) w3.heap.size ps gs) :
 HT ((w3.alloc (.cells ps.toArray e (0,0))).setCell ⟨bt,5,none⟩ (.slice (some ⟨w3.heap.size,0,none⟩) N N)) B ((w3.alloc (.cells ps.toArray e (0,0))).setCell ⟨bt,5,none⟩ (.slice (some ⟨w3.heap.size,0,none⟩) N N)).heap.size
  (.pointer (some ⟨bt,0,none⟩)) (.nd form pos num name names gs) := by
 have hlt := lt_of_block hblk
 have hsz : ((w3.alloc (.cells ps.toArray e (0,0))).setCell ⟨bt,5,none⟩ (.slice (some ⟨w3.heap.size,0,none⟩) N N)).heap.size = w3.heap.size + 1 := by simp [World.setCell]
 have hh := block_setCell (w := w3.alloc (.cells ps.toArray e (0,0))) ((Below.heap_alloc _ _ _ hlt).trans hblk) 5 (.slice (some ⟨w3.heap.size,0,none⟩) N N)
 have hheld : Held (bt + 1) w3.heap.size w3 ((w3.alloc (.cells ps.toArray e (0,0))).setCell ⟨bt,5,none⟩ (.slice (some ⟨w3.heap.size,0,none⟩) N N)) := held_fin (Below.refl _ _) (Nat.le_refl _) (by omega) _ _
 rw [hsz]
 refine .nd hB (by omega) hh ((hnames.keep hheld).wide (by omega) (by omega)) (ps := ps) (Or.inr ⟨w3.heap.size,0,N,by rw [hN],by omega,by omega,by omega,fun i u hu => ?_⟩) ((hk.keep hheld).wide (by omega) (by omega))
 rw [World.cell?_of_block (w := w3.alloc (.cells ps.toArray e (0,0))) (a := ⟨w3.heap.size,0 + i,none⟩) (Below.heap_setCell _ _ _ _ (by show w3.heap.size ≠ bt;omega)),(cells_of_block (blk_new w3 (.cells ps.toArray e (0,0))) (0 + i)).1,Nat.zero_add]
 simpa using hu
set_option maxRecDepth 100000 in
theorem tree_iff {L : List Tok} {a b c : G} {i j : Nat} (h0 : kdAt L 0 = 6) (hi : mtL L 1 6 7 = i) (hj : mtL L (i + 1) 6 8 = j) (h1 : 1 < i) (h2 : i + 1 < j) (h3 : j + 1 < L.length)
 (ha : TreeOK (cutL L 1 i) a) (hb : TreeOK (cutL L (i + 1) j) b) (hc : TreeOK (L.drop (j + 1)) c) : TreeOK L (.nd f_if (tokAt L 0).p 0 f_0 [] [a,b,c]) := by
 intro n bl off cap w hn hL hcap hbl hr hok
 subst hn
 have hk := kdAt_cell hr hok (i := 0) (by omega)
 have hp := posAt_cell hr (i := 0) (by omega)
 rw [h0] at hk
 simp only [Nat.zero_mul,Nat.add_zero] at hk hp
 have HR : Hid (RW w bl off L) := hr
 have HK : Hid (∀ t ∈ L,okTok t) := hok
 have HI : Hid (mtL L 1 6 7 = i) := hi
 have HJ : Hid (mtL L (i + 1) 6 8 = j) := hj
 have e1 : ((nameK 6).toList == [108,101,116]) = false := by rw [nk3 (by decide)];decide
 have e2 : ((nameK 6).toList == [105,102]) = true := by rw [nk6 (by decide)];decide
 obtain ⟨nm,hnm⟩ : ∃ nm,nameK 6 = nm := ⟨_,rfl⟩
 rw [hnm] at hk e1 e2
 have HA : Hid (TreeOK (cutL L 1 i) a) := ha
 have HB : Hid (TreeOK (cutL L (i + 1) j) b) := hb
 have HC : Hid (TreeOK (L.drop (j + 1)) c) := hc
 clear hr hok hi hj h0 hnm ha hb hc
 obtain ⟨p0,hp0⟩ : ∃ p0 : Int,((tokAt L 0).p : Int) = p0 := ⟨_,rfl⟩
 rw [hp0] at hp ⊢
 clear hp0
 go_enter Tryz.func69,Tryz.ntmps69
 go_wp2_with (first
  | (go_at_call 116;refine (match_at (i0 := 1) (i := i) (op := 6) (cl := 7) (by omega) hL hcap (HR.out.alloc hbl _) HK.out (by omega) (by exact nkB6) (by exact nkB7) (by decide) HI.out).mono ?_;rintro e w' ⟨rfl,hw'⟩;subst hw')
  | (go_at_call 116;refine (match_at (i0 := i + 1) (i := j) (op := 6) (cl := 8) (by omega) hL hcap (HR.out.alloc hbl _) HK.out (by omega) (by exact nkB6) (by exact nkB8) (by decide) HJ.out).mono ?_;rintro e w' ⟨rfl,hw'⟩;subst hw')
  | (go_at_call 69;refine (HA.out _ bl _ _ _ (by rw [cutL_len _ (by omega) (by omega)]) (by rw [cutL_len _ (by omega) (by omega)];omega) (by rw [cutL_len _ (by omega) (by omega)];omega) (by simp;omega) (by exact (HR.out.alloc hbl _).cut 1 i) (ok_cut HK.out 1 i)).mono ?_;rintro e w1 ⟨v1,rfl,ht1,hb1⟩;obtain ⟨p1,rfl,hp1,hp1'⟩ := ht1.ptr;have hs1 := hb1.size;rw [World.size_alloc] at hs1;have HR1 : Hid (RW w1 bl off L) := (HR.out.alloc hbl _).below hb1 (by simp;omega))
  | (go_at_call 69;refine (HB.out _ bl _ _ _ (by rw [cutL_len _ (by omega) (by omega)]) (by rw [cutL_len _ (by omega) (by omega)];omega) (by rw [cutL_len _ (by omega) (by omega)];omega) (by omega) (by exact HR1.out.cut (i + 1) j) (ok_cut HK.out (i + 1) j)).mono ?_;rintro e w2 ⟨v2,rfl,ht2,hb2⟩;obtain ⟨p2,rfl,hp2,hp2'⟩ := ht2.ptr;have hs2 := hb2.size;have HR2 : Hid (RW w2 bl off L) := HR1.out.below hb2 (by omega))
  | (go_at_call 69;refine (HC.out _ bl _ _ _ (by rw [List.length_drop]) (by rw [List.length_drop];omega) (by rw [List.length_drop];omega) (by omega) (by exact HR2.out.drop (j + 1)) (ok_drop HK.out (j + 1))).mono ?_;rintro e w3 ⟨v3,rfl,ht3,hb3⟩;obtain ⟨p3,rfl,hp3,hp3'⟩ := ht3.ptr;have hs3 := hb3.size;have hblk := blk_below (blk_below (blk_below (blk_new w _) hb1 (by simp)) hb2 (by omega)) hb3 (by omega);have hc5 := blk_cell hblk 5 rfl;have hf5 := blk_free hblk 5))
 go_ret
 refine ⟨_,rfl,ht_fin (ps := [.pointer (some ⟨p1,0,none⟩),.pointer (some ⟨p2,0,none⟩),.pointer (some ⟨p3,0,none⟩)]) hblk (Nat.le_refl _) rfl (Or.inl ⟨rfl,_,_,rfl⟩) ?_,?_⟩
 ·have b13 : Below w1.heap.size w1 w3 := hb2.trans (hb3.mono hs2)
  refine .cons ((ht1.keep (belowHeld b13 _)).wide (by simp) (by omega)) (.cons ((ht2.keep (belowHeld hb3 _)).wide (by omega) (by omega)) (.cons (ht3.wide (by omega) (Nat.le_refl _)) .nil))
 ·exact (((below_first hb1).trans (hb2.mono (by omega))).trans (hb3.mono (by omega))).alloc (by omega) _ |>.setCell (Nat.le_refl _) _
theorem nkB22 : ∀ k,k < 35 -> ((nameK k).toList == (⟨#[45,62]⟩ : ByteArray).toList) = decide (k = 22) := fun k hk => (congrArg (fun q => (nameK k).toList == q) (toL [45,62])).trans (nk22 hk)
theorem RowAt.own_ptr {w : World} {B n : Nat} {v : Value} {xs : List Value} (h : RowAt w B n v xs) : ∃ a m cap,v = .slice a m cap := by
 rcases h with ⟨_,a,cap,rfl⟩ | ⟨g,off,cap,rfl,_⟩
 ·exact ⟨_,_,_,rfl⟩
 ·exact ⟨_,_,_,rfl⟩
theorem size_setCell (w : World) (a : Addr) (u : Value) : (w.setCell a u).heap.size = w.heap.size := by simp [World.setCell]
theorem below_set (w : World) (b i : Nat) (u : Value) : Below b w (w.setCell ⟨b,i,none⟩ u) := (Below.refl b w).setCell (Nat.le_refl _) u
theorem texts_at {L : List Tok} {n b off cap : Nat} {w : World} (hn : n = L.length) (hL : L.length <= 100000) (hc : L.length <= cap) (hb : b < w.heap.size) (hr : RW w b off L) (hok : ∀ t ∈ L,okTok t) :
 Calls Tryz.prog 117 #[.slice (some ⟨b,off,none⟩) n cap] w fun e w' => ∃ v,e = .returned v /\ w'.ownsRow w.heap.size 9 1 v (idsF L).length ((idsF L).map Value.string) /\ Below w.heap.size w w' := by
 subst hn
 exact texts_any L b off cap w hL hc hb hr hok
set_option maxRecDepth 100000 in
theorem tree_fn {L : List Tok} {b : G} {i : Nat} (h0 : kdAt L 0 = 9) (hi : mtL L 1 99 22 = i) (h1 : 1 <= i) (h3 : i + 1 < L.length)
 (hb : TreeOK (L.drop (i + 1)) b) : TreeOK L (.nd f_fun (tokAt L 0).p 0 f_0 (idsF (cutL L 1 i)) [b]) := by
 intro n bl off cap w hn hL hcap hbl hr hok
 subst hn
 have hk := kdAt_cell hr hok (i := 0) (by omega)
 have hp := posAt_cell hr (i := 0) (by omega)
 rw [h0] at hk
 simp only [Nat.zero_mul,Nat.add_zero] at hk hp
 have HR : Hid (RW w bl off L) := hr
 have HK : Hid (∀ t ∈ L,okTok t) := hok
 have HI : Hid (mtL L 1 99 22 = i) := hi
 have e1 : ((nameK 9).toList == [108,101,116]) = false := by rw [nk3 (by decide)];decide
 have e2 : ((nameK 9).toList == [105,102]) = false := by rw [nk6 (by decide)];decide
 have e3 : ((nameK 9).toList == [102,117,110]) = true := by rw [nk9 (by decide)];decide
 obtain ⟨nm,hnm⟩ : ∃ nm,nameK 9 = nm := ⟨_,rfl⟩
 rw [hnm] at hk e1 e2 e3
 have HB : Hid (TreeOK (L.drop (i + 1)) b) := hb
 clear hr hok hi h0 hnm hb
 obtain ⟨p0,hp0⟩ : ∃ p0 : Int,((tokAt L 0).p : Int) = p0 := ⟨_,rfl⟩
 rw [hp0] at hp ⊢
 clear hp0
 have hcl : Hid ((cutL L 1 i).length = i - 1) := cutL_len L h1 (by omega)
 go_enter Tryz.func69,Tryz.ntmps69
 go_wp2_with (first
  | (go_at_call 116;refine (match_at (i0 := 1) (i := i) (op := 99) (cl := 22) (by omega) hL hcap (HR.out.alloc hbl _) HK.out (by omega) (by exact fun k hk => nk_ne hk) (by exact nkB22) (by decide) HI.out).mono ?_;rintro e w' ⟨rfl,hw'⟩;subst hw')
  | (go_at_call 117;refine (texts_at (L := cutL L 1 i) (by rw [hcl.out]) (by rw [hcl.out];omega) (by rw [hcl.out];omega) (by simp;omega) (by exact (HR.out.alloc hbl _).cut 1 i) (ok_cut HK.out 1 i)).mono ?_;rintro e w1 ⟨v1,rfl,ho1,hb1⟩;have hr1 := rowAt_own ho1;obtain ⟨sa,sm,scap,rfl⟩ := hr1.own_ptr;have hs1 := hb1.size;rw [World.size_alloc] at hs1;have HR1 : Hid (RW w1 bl off L) := (HR.out.alloc hbl _).below hb1 (by simp;omega);have hblk := blk_below (blk_new w _) hb1 (by simp);have hc4 := (cells_of_block hblk 4).1;have hf4 := (cells_of_block hblk 4).2;simp only [List.getElem?_toArray] at hc4)
  | (go_at_call 69;refine (HB.out _ bl _ _ _ (by rw [List.length_drop]) (by rw [List.length_drop];omega) (by rw [List.length_drop];omega) (by rw [size_setCell];omega) (by exact (HR1.out.below (below_set w1 _ _ _) hbl).drop (i + 1)) (ok_drop HK.out (i + 1))).mono ?_;rintro e w2 ⟨v2,rfl,ht2,hb2⟩;obtain ⟨p2,rfl,hp2,hp2'⟩ := ht2.ptr;have hs2 := hb2.size;rw [size_setCell] at hs2;have hblk1 := block_setCell hblk 4 (.slice sa sm scap);have hblk2 := blk_below hblk1 hb2 (by rw [size_setCell];omega);have hc5 := blk_cell hblk2 5 rfl;have hf5 := blk_free hblk2 5))
 go_ret
 have hheld : Held (w.heap.size + 1) w1.heap.size w1 w2 := fun b h1 h2 => (hb2.block b (by rw [size_setCell];exact h2)).trans (Below.heap_setCell _ _ _ _ (by show b ≠ w.heap.size;omega))
 refine ⟨_,rfl,ht_fin (ps := [.pointer (some ⟨p2,0,none⟩)]) hblk2 (Nat.le_refl _) rfl ((hr1.wide (by simp) (Nat.le_refl _)).keep hheld |>.wide (Nat.le_refl _) hs2) (.cons (ht2.wide (by rw [size_setCell];omega) (Nat.le_refl _)) .nil),?_⟩
 exact (((below_first hb1).trans (below_set w1 _ _ _)).trans (hb2.mono (by rw [size_setCell];omega))).alloc (by omega) _ |>.setCell (Nat.le_refl _) _
theorem nkB27 : ∀ k,k < 35 -> ((nameK k).toList == (⟨#[61]⟩ : ByteArray).toList) = decide (k = 27) := fun k hk => (congrArg (fun q => (nameK k).toList == q) (toL [61])).trans (nk27 hk)
theorem nkB3 : ∀ k,k < 35 -> ((nameK k).toList == (⟨#[108,101,116]⟩ : ByteArray).toList) = decide (k = 3) := fun k hk => (congrArg (fun q => (nameK k).toList == q) (toL [108,101,116])).trans (nk3 hk)
theorem nkB5 : ∀ k,k < 35 -> ((nameK k).toList == (⟨#[105,110]⟩ : ByteArray).toList) = decide (k = 5) := fun k hk => (congrArg (fun q => (nameK k).toList == q) (toL [105,110])).trans (nk5 hk)
theorem blk_at {w : World} {b : Nat} {a : Array Value} {t : TypeId} {v : Value} (h : w.heap[b]? = some (.cells a t (0,0))) (i : Nat) (hv : a[i]? = some v) : w.cell? ⟨b,i,none⟩ = some v := (cells_of_block h i).1.trans hv
theorem blk_at_f {w : World} {b : Nat} {a : Array Value} {t : TypeId} (h : w.heap[b]? = some (.cells a t (0,0))) (i : Nat) : w.frozen? ⟨b,i,none⟩ = false := (cells_of_block h i).2
theorem kdAt_lt {L : List Tok} (hok : ∀ t ∈ L,okTok t) {i : Nat} (hi : i < L.length) : kdAt L i < 35 := by
 rw [kdAt_eq L i hi];exact (hok L[i] (by simp)).2
def Sole (bt : Nat) (w w' : World) : Prop := Below bt w w' /\ w'.heap.size = w.heap.size /\ ∀ b,b ≠ bt -> w'.heap[b]? = w.heap[b]?
theorem row_tail {w : World} {B n g off cap m : Nat} {x : Value} {xs : List Value} (h : RowAt w B n (.slice (some ⟨g,off,none⟩) (m + 1) cap) (x :: xs)) : RowAt w B n (.slice (some ⟨g,off + 1,none⟩) m (cap - 1)) xs := by
 rcases h with h | ⟨g',off',cap',h1,h2,h3,h4,h5⟩
 ·simp at h
 ·simp only [Value.slice.injEq,Option.some.injEq,Addr.mk.injEq,List.length_cons] at h1
  obtain ⟨⟨rfl,rfl,_⟩,hm,rfl⟩ := h1
  have hm' : m = xs.length := by omega
  subst hm'
  refine Or.inr ⟨g,off + 1,cap - 1,rfl,h2,h3,by simp only [List.length_cons] at h4;omega,fun i u hu => ?_⟩
  have := h5 (i + 1) u (by simpa using hu)
  rw [show off + 1 + i = off + (i + 1) by omega]
  exact this
theorem Sole.refl (bt : Nat) (w : World) : Sole bt w w := ⟨Below.refl _ _,rfl,fun _ _ => rfl⟩
theorem Sole.set {bt i : Nat} {w w' : World} (h : Sole bt w w') (u : Value) : Sole bt w (w'.setCell ⟨bt,i,none⟩ u) :=
 ⟨h.1.trans (below_set w' bt i u),(size_setCell w' _ u).trans h.2.1,fun b hb => (Below.heap_setCell _ _ _ _ hb).trans (h.2.2 b hb)⟩
theorem Sole.below {bt : Nat} {w w' : World} (h : Sole bt w w') : Below bt w w' := h.1
theorem sole_then {bt : Nat} {w W w2 : World} (hb : Below W.heap.size W w2) (h : Sole bt w W) (hbt : bt < w.heap.size) : w.heap.size <= w2.heap.size /\ Below bt w w2 /\ Held (bt + 1) w.heap.size w w2 := by
 have := hb.size
 have h2 := h.2.1
 refine ⟨by omega,⟨hb.os.trans h.1.os,hb.tape.trans h.1.tape,hb.output.trans h.1.output,by omega,fun k hk => ?_⟩,fun b h1 h3 => (hb.block b (by omega)).trans (h.2.2 b (by omega))⟩
 exact (hb.block k (by omega)).trans (h.1.block k hk)
theorem Sole.held {bt B n : Nat} {w w' : World} (h : Sole bt w w') (hB : bt < B) : Held B n w w' := fun b h1 _ => h.2.2 b (by omega)
set_option maxRecDepth 100000 in
theorem letTree_lt {L : List Tok} {a b : G} {e i : Nat} {p : Int} (he : mtL L 1 99 27 = e) (hi : mtL L 1 3 5 = i) (h1 : 1 <= e) (h2 : e + 1 < i) (h3 : i + 1 < L.length) (hne : (idsF (cutL L 1 e)).length ≠ 0) (h4 : kdAt L 1 ≠ 4) (h23 : kdAt L 1 ≠ 23)
 (ha : TreeOK (cutL L (e + 1) i) a) (hb : TreeOK (L.drop (i + 1)) b) : SubOK 115 p L (.nd f_let p 0 ((idsF (cutL L 1 e)).headD ⟨#[]⟩) [] [a,b]) := by
 intro n bl off cap bt w hn hL hcap hblt hbt hblk0 hr hok
 subst hn
 have HR : Hid (RW w bl off L) := hr
 have HK : Hid (∀ t ∈ L,okTok t) := hok
 have HE : Hid (mtL L 1 99 27 = e) := he
 have HI : Hid (mtL L 1 3 5 = i) := hi
 have HA : Hid (TreeOK (cutL L (e + 1) i) a) := ha
 have HB : Hid (TreeOK (L.drop (i + 1)) b) := hb
 have hk35 := kdAt_lt hok (i := 1) (by omega)
 have e4 : ((nameK (kdAt L 1)).toList == [114,101,99]) = false := by rw [nk4 hk35];simp;omega
 have e23 : ((nameK (kdAt L 1)).toList == [40]) = false := by rw [nk23 hk35];simp;omega
 have hk := kdAt_cell hr hok (i := 1) (by omega)
 obtain ⟨nm,hnm⟩ : ∃ nm,nameK (kdAt L 1) = nm := ⟨_,rfl⟩
 rw [hnm] at e4 e23 hk
 simp only [Nat.one_mul] at hk
 have hcl : Hid ((cutL L 1 e).length = e - 1) := cutL_len L h1 (by omega)
 obtain ⟨ids,hids⟩ : ∃ ids,idsF (cutL L 1 e) = ids := ⟨_,rfl⟩
 have HIDS : Hid (idsF (cutL L 1 e) = ids) := hids
 rw [hids] at hne ⊢
 have HBK : Hid (w.heap[bt]? = some (treeB p)) := hblk0
 clear hr hok he hi ha hb hnm hk35 hids hblk0
 obtain ⟨x0,ids',rfl⟩ : ∃ x r,ids = x :: r := by
  cases ids with
  | nil => simp at hne
  | cons x r => exact ⟨x,r,rfl⟩
 go_enter Tryz.func115,Tryz.ntmps115
 go_wp2_with (first
  | (go_at_call 116;refine (match_at (i0 := 1) (i := e) (op := 99) (cl := 27) (by omega) hL hcap HR.out HK.out (by omega) (by exact fun k hk => nk_ne hk) (by exact nkB27) (by decide) HE.out).mono ?_;rintro _ w' ⟨rfl,hw'⟩;subst hw')
  | (go_at_call 116;refine (match_at (i0 := 1) (i := i) (op := 3) (cl := 5) (by omega) hL hcap HR.out HK.out (by omega) (by exact nkB3) (by exact nkB5) (by decide) HI.out).mono ?_;rintro _ w' ⟨rfl,hw'⟩;subst hw')
  | (go_at_call 117;refine (texts_at (L := cutL L 1 e) (by rw [hcl.out]) (by rw [hcl.out];omega) (by rw [hcl.out];omega) (by omega) (by exact HR.out.cut 1 e) (ok_cut HK.out 1 e)).mono ?_;rintro _ w1 ⟨v1,rfl,ho1,hb1⟩;rw [HIDS.out] at ho1;have hr1 := rowAt_own ho1;obtain ⟨sg,scap,rfl,hg1,hg2,hg3,hg4⟩ := own_shapeP ho1 (by simp);have hcn := ho1.cellAt 0 (by simp);simp only [List.map_cons,List.getElem?_cons_zero] at hcn;have hs1 := hb1.size;have HR1 : Hid (RW w1 bl off L) := HR.out.below hb1 (by omega);have hk1 := (hb1.cell (p := ⟨bl,off + 3,none⟩) (by show bl < _;omega)).trans hk;have hblk := blk_below HBK.out hb1 hbt;have hc0 := blk_at hblk 0 rfl;have hc3 := blk_at hblk 3 rfl;have hc4 := blk_at hblk 4 rfl;have hf0 := blk_at_f hblk 0;have hf3 := blk_at_f hblk 3;have hf4 := blk_at_f hblk 4)
  | (go_at_call 69;refine (HA.out _ bl _ _ _ (by rw [cutL_len _ (by omega) (by omega)]) (by rw [cutL_len _ (by omega) (by omega)];omega) (by rw [cutL_len _ (by omega) (by omega)];omega) (by simp only [size_setCell];omega) (by exact (HR1.out.below (Sole.below (((Sole.refl bt w1).set _).set _)) hblt).cut (e + 1) i) (ok_cut HK.out (e + 1) i)).mono ?_;rintro _ w2 ⟨v2,rfl,ht2,hb2⟩;obtain ⟨p2,rfl,hp2,hp2'⟩ := ht2.ptr;obtain ⟨hs2,hb12,hh12⟩ := sole_then hb2 (((Sole.refl bt w1).set _).set _) (by omega);have hblk2 := blk_below (block_setCell (block_setCell hblk 0 _) 3 _) hb2 (by simp only [size_setCell];omega);have HR2 : Hid (RW w2 bl off L) := HR1.out.below hb12 hblt;simp only [size_setCell] at hp2)
  | (go_at_call 69;refine (HB.out _ bl _ _ _ (by rw [List.length_drop]) (by rw [List.length_drop];omega) (by rw [List.length_drop];omega) (by omega) (by exact HR2.out.drop (i + 1)) (ok_drop HK.out (i + 1))).mono ?_;rintro _ w3 ⟨v3,rfl,ht3,hb3⟩;obtain ⟨p3,rfl,hp3,hp3'⟩ := ht3.ptr;have hs3' := hb3.size;have hblk3 := blk_below hblk2 hb3 (by omega);have hc5 := blk_cell hblk3 5 rfl;have hf5 := blk_free hblk3 5))
 go_ret
 have hs3 : w1.heap.size <= w3.heap.size := by omega
 have hheld : Held (bt + 1) w1.heap.size w1 w3 := fun b h1 h2 => (hb3.block b (by omega)).trans (hh12 b h1 h2)
 refine ⟨_,rfl,ht_fin (ps := [.pointer (some ⟨p2,0,none⟩),.pointer (some ⟨p3,0,none⟩)]) hblk3 (Nat.le_refl _) rfl (Or.inl ⟨rfl,_,_,rfl⟩) (.cons ((ht2.keep (belowHeld hb3 _)).wide (by simp only [size_setCell];omega) (by omega)) (.cons (ht3.wide (by omega) (Nat.le_refl _)) .nil)),?_⟩
 exact ((((hb1.mono (by omega)).trans hb12)).trans (hb3.mono (by omega))).alloc (by omega) _ |>.setCell (Nat.le_refl _) _
set_option maxRecDepth 100000 in
theorem letTree_rc {L : List Tok} {a b : G} {e i : Nat} {p : Int} (he : mtL L 1 99 27 = e) (hi : mtL L 1 3 5 = i) (h1 : 1 <= e) (h2 : e + 1 < i) (h3 : i + 1 < L.length) (hne : 2 <= (idsF (cutL L 1 e)).length) (h4 : kdAt L 1 = 4)
 (ha : TreeOK (cutL L (e + 1) i) a) (hb : TreeOK (L.drop (i + 1)) b) : SubOK 115 p L (.nd f_rec p 0 ((idsF (cutL L 1 e)).headD ⟨#[]⟩) (idsF (cutL L 1 e)).tail [a,b]) := by
 intro n bl off cap bt w hn hL hcap hblt hbt hblk0 hr hok
 subst hn
 have HR : Hid (RW w bl off L) := hr
 have HK : Hid (∀ t ∈ L,okTok t) := hok
 have HE : Hid (mtL L 1 99 27 = e) := he
 have HI : Hid (mtL L 1 3 5 = i) := hi
 have HA : Hid (TreeOK (cutL L (e + 1) i) a) := ha
 have HB : Hid (TreeOK (L.drop (i + 1)) b) := hb
 have hk35 := kdAt_lt hok (i := 1) (by omega)
 have e4 : ((nameK (kdAt L 1)).toList == [114,101,99]) = true := by rw [nk4 hk35];simp;omega
 have e23 : ((nameK (kdAt L 1)).toList == [40]) = false := by rw [nk23 hk35];simp;omega
 have hk := kdAt_cell hr hok (i := 1) (by omega)
 obtain ⟨nm,hnm⟩ : ∃ nm,nameK (kdAt L 1) = nm := ⟨_,rfl⟩
 rw [hnm] at e4 e23 hk
 simp only [Nat.one_mul] at hk
 have hcl : Hid ((cutL L 1 e).length = e - 1) := cutL_len L h1 (by omega)
 obtain ⟨ids,hids⟩ : ∃ ids,idsF (cutL L 1 e) = ids := ⟨_,rfl⟩
 have HIDS : Hid (idsF (cutL L 1 e) = ids) := hids
 rw [hids] at hne ⊢
 have HBK : Hid (w.heap[bt]? = some (treeB p)) := hblk0
 clear hr hok he hi ha hb hnm hk35 hids hblk0
 obtain ⟨x0,ids',rfl⟩ : ∃ x r,ids = x :: r := by
  cases ids with
  | nil => simp at hne
  | cons x r => exact ⟨x,r,rfl⟩
 go_enter Tryz.func115,Tryz.ntmps115
 go_wp2_with (first
  | (go_at_call 116;refine (match_at (i0 := 1) (i := e) (op := 99) (cl := 27) (by omega) hL hcap HR.out HK.out (by omega) (by exact fun k hk => nk_ne hk) (by exact nkB27) (by decide) HE.out).mono ?_;rintro _ w' ⟨rfl,hw'⟩;subst hw')
  | (go_at_call 116;refine (match_at (i0 := 1) (i := i) (op := 3) (cl := 5) (by omega) hL hcap HR.out HK.out (by omega) (by exact nkB3) (by exact nkB5) (by decide) HI.out).mono ?_;rintro _ w' ⟨rfl,hw'⟩;subst hw')
  | (go_at_call 117;refine (texts_at (L := cutL L 1 e) (by rw [hcl.out]) (by rw [hcl.out];omega) (by rw [hcl.out];omega) (by omega) (by exact HR.out.cut 1 e) (ok_cut HK.out 1 e)).mono ?_;rintro _ w1 ⟨v1,rfl,ho1,hb1⟩;rw [HIDS.out] at ho1;have hr1 := rowAt_own ho1;obtain ⟨sg,scap,rfl,hg1,hg2,hg3,hg4⟩ := own_shapeP ho1 (by simp);have hcn := ho1.cellAt 0 (by simp);simp only [List.map_cons,List.getElem?_cons_zero] at hcn;have hs1 := hb1.size;have HR1 : Hid (RW w1 bl off L) := HR.out.below hb1 (by omega);have hk1 := (hb1.cell (p := ⟨bl,off + 3,none⟩) (by show bl < _;omega)).trans hk;have hblk := blk_below HBK.out hb1 hbt;have hc0 := blk_at hblk 0 rfl;have hc3 := blk_at hblk 3 rfl;have hc4 := blk_at hblk 4 rfl;have hf0 := blk_at_f hblk 0;have hf3 := blk_at_f hblk 3;have hf4 := blk_at_f hblk 4;have hrow := row_tail hr1;have hsc : ¬ scap = 1 := by (simp only [List.length_cons] at hne hg3;omega))
  | (go_at_call 69;refine (HA.out _ bl _ _ _ (by rw [cutL_len _ (by omega) (by omega)]) (by rw [cutL_len _ (by omega) (by omega)];omega) (by rw [cutL_len _ (by omega) (by omega)];omega) (by simp only [size_setCell];omega) (by exact (HR1.out.below (Sole.below (((((Sole.refl bt w1).set _).set _).set _).set _)) hblt).cut (e + 1) i) (ok_cut HK.out (e + 1) i)).mono ?_;rintro _ w2 ⟨v2,rfl,ht2,hb2⟩;obtain ⟨p2,rfl,hp2,hp2'⟩ := ht2.ptr;obtain ⟨hs2,hb12,hh12⟩ := sole_then hb2 (((((Sole.refl bt w1).set _).set _).set _).set _) (by omega);have hblk2 := blk_below (block_setCell (block_setCell (block_setCell (block_setCell hblk 0 _) 3 _) 0 _) 4 _) hb2 (by simp only [size_setCell];omega);have HR2 : Hid (RW w2 bl off L) := HR1.out.below hb12 hblt;simp only [size_setCell] at hp2)
  | (go_at_call 69;refine (HB.out _ bl _ _ _ (by rw [List.length_drop]) (by rw [List.length_drop];omega) (by rw [List.length_drop];omega) (by omega) (by exact HR2.out.drop (i + 1)) (ok_drop HK.out (i + 1))).mono ?_;rintro _ w3 ⟨v3,rfl,ht3,hb3⟩;obtain ⟨p3,rfl,hp3,hp3'⟩ := ht3.ptr;have hs3' := hb3.size;have hblk3 := blk_below hblk2 hb3 (by omega);have hc5 := blk_cell hblk3 5 rfl;have hf5 := blk_free hblk3 5))
 go_ret
 have hs3 : w1.heap.size <= w3.heap.size := by omega
 have hheld : Held (bt + 1) w1.heap.size w1 w3 := fun b h1 h2 => (hb3.block b (by omega)).trans (hh12 b h1 h2)
 refine ⟨_,rfl,ht_fin (ps := [.pointer (some ⟨p2,0,none⟩),.pointer (some ⟨p3,0,none⟩)]) hblk3 (Nat.le_refl _) rfl (((RowAt.wide (B' := bt + 1) hrow (by omega) (Nat.le_refl _)).keep hheld).wide (Nat.le_refl _) hs3) (.cons ((ht2.keep (belowHeld hb3 _)).wide (by simp only [size_setCell];omega) (by omega)) (.cons (ht3.wide (by omega) (Nat.le_refl _)) .nil)),?_⟩
 exact ((((hb1.mono (by omega)).trans hb12)).trans (hb3.mono (by omega))).alloc (by omega) _ |>.setCell (Nat.le_refl _) _
set_option maxRecDepth 100000 in
theorem letTree_pr {L : List Tok} {a b : G} {e i : Nat} {p : Int} (he : mtL L 1 99 27 = e) (hi : mtL L 1 3 5 = i) (h1 : 1 <= e) (h2 : e + 1 < i) (h3 : i + 1 < L.length) (hne : (idsF (cutL L 1 e)).length ≠ 0) (h23 : kdAt L 1 = 23)
 (ha : TreeOK (cutL L (e + 1) i) a) (hb : TreeOK (L.drop (i + 1)) b) : SubOK 115 p L (.nd f_pair p 0 f_0 (idsF (cutL L 1 e)) [a,b]) := by
 intro n bl off cap bt w hn hL hcap hblt hbt hblk0 hr hok
 subst hn
 have HR : Hid (RW w bl off L) := hr
 have HK : Hid (∀ t ∈ L,okTok t) := hok
 have HE : Hid (mtL L 1 99 27 = e) := he
 have HI : Hid (mtL L 1 3 5 = i) := hi
 have HA : Hid (TreeOK (cutL L (e + 1) i) a) := ha
 have HB : Hid (TreeOK (L.drop (i + 1)) b) := hb
 have hk35 := kdAt_lt hok (i := 1) (by omega)
 have e4 : ((nameK (kdAt L 1)).toList == [114,101,99]) = false := by rw [nk4 hk35];simp;omega
 have e23 : ((nameK (kdAt L 1)).toList == [40]) = true := by rw [nk23 hk35];simp;omega
 have hk := kdAt_cell hr hok (i := 1) (by omega)
 obtain ⟨nm,hnm⟩ : ∃ nm,nameK (kdAt L 1) = nm := ⟨_,rfl⟩
 rw [hnm] at e4 e23 hk
 simp only [Nat.one_mul] at hk
 have hcl : Hid ((cutL L 1 e).length = e - 1) := cutL_len L h1 (by omega)
 obtain ⟨ids,hids⟩ : ∃ ids,idsF (cutL L 1 e) = ids := ⟨_,rfl⟩
 have HIDS : Hid (idsF (cutL L 1 e) = ids) := hids
 rw [hids] at hne ⊢
 have HBK : Hid (w.heap[bt]? = some (treeB p)) := hblk0
 clear hr hok he hi ha hb hnm hk35 hids hblk0
 obtain ⟨x0,ids',rfl⟩ : ∃ x r,ids = x :: r := by
  cases ids with
  | nil => simp at hne
  | cons x r => exact ⟨x,r,rfl⟩
 go_enter Tryz.func115,Tryz.ntmps115
 go_wp2_with (first
  | (go_at_call 116;refine (match_at (i0 := 1) (i := e) (op := 99) (cl := 27) (by omega) hL hcap HR.out HK.out (by omega) (by exact fun k hk => nk_ne hk) (by exact nkB27) (by decide) HE.out).mono ?_;rintro _ w' ⟨rfl,hw'⟩;subst hw')
  | (go_at_call 116;refine (match_at (i0 := 1) (i := i) (op := 3) (cl := 5) (by omega) hL hcap HR.out HK.out (by omega) (by exact nkB3) (by exact nkB5) (by decide) HI.out).mono ?_;rintro _ w' ⟨rfl,hw'⟩;subst hw')
  | (go_at_call 117;refine (texts_at (L := cutL L 1 e) (by rw [hcl.out]) (by rw [hcl.out];omega) (by rw [hcl.out];omega) (by omega) (by exact HR.out.cut 1 e) (ok_cut HK.out 1 e)).mono ?_;rintro _ w1 ⟨v1,rfl,ho1,hb1⟩;rw [HIDS.out] at ho1;have hr1 := rowAt_own ho1;obtain ⟨sg,scap,rfl,hg1,hg2,hg3,hg4⟩ := own_shapeP ho1 (by simp);have hcn := ho1.cellAt 0 (by simp);simp only [List.map_cons,List.getElem?_cons_zero] at hcn;have hs1 := hb1.size;have HR1 : Hid (RW w1 bl off L) := HR.out.below hb1 (by omega);have hk1 := (hb1.cell (p := ⟨bl,off + 3,none⟩) (by show bl < _;omega)).trans hk;have hblk := blk_below HBK.out hb1 hbt;have hc0 := blk_at hblk 0 rfl;have hc3 := blk_at hblk 3 rfl;have hc4 := blk_at hblk 4 rfl;have hf0 := blk_at_f hblk 0;have hf3 := blk_at_f hblk 3;have hf4 := blk_at_f hblk 4;have hrow := hr1)
  | (go_at_call 69;refine (HA.out _ bl _ _ _ (by rw [cutL_len _ (by omega) (by omega)]) (by rw [cutL_len _ (by omega) (by omega)];omega) (by rw [cutL_len _ (by omega) (by omega)];omega) (by simp only [size_setCell];omega) (by exact (HR1.out.below (Sole.below ((((((Sole.refl bt w1).set _).set _).set _).set _).set _)) hblt).cut (e + 1) i) (ok_cut HK.out (e + 1) i)).mono ?_;rintro _ w2 ⟨v2,rfl,ht2,hb2⟩;obtain ⟨p2,rfl,hp2,hp2'⟩ := ht2.ptr;obtain ⟨hs2,hb12,hh12⟩ := sole_then hb2 ((((((Sole.refl bt w1).set _).set _).set _).set _).set _) (by omega);have hblk2 := blk_below (block_setCell (block_setCell (block_setCell (block_setCell (block_setCell hblk 0 _) 3 _) 0 _) 3 _) 4 _) hb2 (by simp only [size_setCell];omega);have HR2 : Hid (RW w2 bl off L) := HR1.out.below hb12 hblt;simp only [size_setCell] at hp2)
  | (go_at_call 69;refine (HB.out _ bl _ _ _ (by rw [List.length_drop]) (by rw [List.length_drop];omega) (by rw [List.length_drop];omega) (by omega) (by exact HR2.out.drop (i + 1)) (ok_drop HK.out (i + 1))).mono ?_;rintro _ w3 ⟨v3,rfl,ht3,hb3⟩;obtain ⟨p3,rfl,hp3,hp3'⟩ := ht3.ptr;have hs3' := hb3.size;have hblk3 := blk_below hblk2 hb3 (by omega);have hc5 := blk_cell hblk3 5 rfl;have hf5 := blk_free hblk3 5))
 go_ret
 have hs3 : w1.heap.size <= w3.heap.size := by omega
 have hheld : Held (bt + 1) w1.heap.size w1 w3 := fun b h1 h2 => (hb3.block b (by omega)).trans (hh12 b h1 h2)
 refine ⟨_,rfl,ht_fin (ps := [.pointer (some ⟨p2,0,none⟩),.pointer (some ⟨p3,0,none⟩)]) hblk3 (Nat.le_refl _) rfl (((RowAt.wide (B' := bt + 1) hrow (by omega) (Nat.le_refl _)).keep hheld).wide (Nat.le_refl _) hs3) (.cons ((ht2.keep (belowHeld hb3 _)).wide (by simp only [size_setCell];omega) (by omega)) (.cons (ht3.wide (by omega) (Nat.le_refl _)) .nil)),?_⟩
 exact ((((hb1.mono (by omega)).trans hb12)).trans (hb3.mono (by omega))).alloc (by omega) _ |>.setCell (Nat.le_refl _) _
set_option maxRecDepth 100000 in
theorem tree_let {L : List Tok} {g : G} (h0 : kdAt L 0 = 3) (hl : 0 < L.length) (hs : SubOK 115 (tokAt L 0).p L g) : TreeOK L g := by
 intro n bl off cap w hn hL hcap hbl hr hok
 subst hn
 have hk := kdAt_cell hr hok (i := 0) (by omega)
 have hp := posAt_cell hr (i := 0) (by omega)
 rw [h0] at hk
 simp only [Nat.zero_mul,Nat.add_zero] at hk hp
 have HR : Hid (RW w bl off L) := hr
 have HK : Hid (∀ t ∈ L,okTok t) := hok
 have e1 : ((nameK 3).toList == [108,101,116]) = true := by rw [nk3 (by decide)];decide
 obtain ⟨nm,hnm⟩ : ∃ nm,nameK 3 = nm := ⟨_,rfl⟩
 rw [hnm] at hk e1
 obtain ⟨p0,hp0⟩ : ∃ p0 : Int,((tokAt L 0).p : Int) = p0 := ⟨_,rfl⟩
 rw [hp0] at hp hs
 have HS : Hid (SubOK 115 p0 L g) := hs
 clear hr hok h0 hnm hp0 hs
 go_enter Tryz.func69,Tryz.ntmps69
 go_wp2_with (go_at_call 115;refine (HS.out _ bl off cap w.heap.size _ rfl hL hcap hbl (by simp) (by exact blk_new w _) (HR.out.alloc hbl _) HK.out).mono ?_;rintro e w1 ⟨v1,rfl,ht1,hb1⟩;obtain ⟨p1,rfl,hp1,hp1'⟩ := ht1.ptr)
 go_ret
 exact ⟨_,rfl,ht1,((Below.refl w.heap.size w).alloc (Nat.le_refl _) _).trans hb1⟩
def clsN : Nat -> Nat
 | 0 => 26
 | 1 => 27
 | 2 => 30
 | _ => 32
def clsB : Nat -> ByteArray
 | 0 => ⟨#[59]⟩
 | 1 => ⟨#[61]⟩
 | 2 => ⟨#[43]⟩
 | _ => ⟨#[42]⟩
abbrev clsO : Obj := .cells #[.string ⟨#[59]⟩,.string ⟨#[61]⟩,.string ⟨#[43]⟩,.string ⟨#[42]⟩] 9 (0,0)
theorem clsB_semi {c : Nat} (hc : c < 4) : ((clsB c).toList == [59]) = decide (c = 0) := by
 have : ∀ c : Fin 4,((clsB c.val).toList == [59]) = decide (c.val = 0) := by
  intro c
  rw [ByteArray.toList_eq]
  revert c
  decide
 exact this ⟨c,hc⟩
theorem split_cls (L : List Tok) {c b off cap i : Nat} {w : World} (hc4 : c < 4) (hL : L.length <= 100000) (hL1 : 1 <= L.length) (hc : L.length <= cap) (hb : b < w.heap.size) (hr : RW w b off L) (hok : ∀ t ∈ L,okTok t) (hi : spl (clsN c) L = i) :
 Calls Tryz.prog 118 #[.slice (some ⟨b,off,none⟩) L.length cap,.string (clsB c)] w fun e w' => e = .returned (.int .i64 (i : Nat)) /\ Below w.heap.size w w' := by
 subst hi
 match c,hc4 with
 | 0,_ => exact split_26 L b off cap w hL hL1 hc hb hr hok
 | 1,_ => exact split_27 L b off cap w hL hL1 hc hb hr hok
 | 2,_ => exact split_30 L b off cap w hL hL1 hc hb hr hok
 | 3,_ => exact split_32 L b off cap w hL hL1 hc hb hr hok
theorem split_cls' (L : List Tok) {c b off cap i : Nat} {w : World} {cb : ByteArray} (hcb : clsB c = cb) (hc4 : c < 4) (hL : L.length <= 100000) (hL1 : 1 <= L.length) (hc : L.length <= cap) (hb : b < w.heap.size) (hr : RW w b off L) (hok : ∀ t ∈ L,okTok t) (hi : spl (clsN c) L = i) :
 Calls Tryz.prog 118 #[.slice (some ⟨b,off,none⟩) L.length cap,.string cb] w fun e w' => e = .returned (.int .i64 (i : Nat)) /\ Below w.heap.size w w' := by
 subst hcb
 exact split_cls L hc4 hL hL1 hc hb hr hok hi
theorem cls_cell (w : World) (p0 : Int) {wr : World} (hb : Below (w.heap.size + 2) ((w.alloc (treeB p0)).alloc clsO) wr) (k : Nat) (hk : k < 4) : wr.cell? ⟨w.heap.size + 1,k,none⟩ = some (.string (clsB k)) := by
 rw [hb.cell (p := ⟨w.heap.size + 1,k,none⟩) (by show w.heap.size + 1 < _;omega)]
 have h : ((w.alloc (treeB p0)).alloc clsO).heap[w.heap.size + 1]? = some clsO := by
  have := blk_new (w.alloc (treeB p0)) clsO
  simpa using this
 rw [(cells_of_block h k).1]
 match k,hk with
 | 0,_ => rfl
 | 1,_ => rfl
 | 2,_ => rfl
 | 3,_ => rfl
end Go.Proofs.YtmkdoejpgkgpbaaGreatDoor
