import Derived.Test.YtjmgolahkgalbaaGreatDoorS06
import Derived.Lib.Hide
set_option linter.unusedVariables false
set_option linter.unusedSimpArgs false
set_option maxHeartbeats 20000000
namespace Go.Proofs.YtjmgolahkgalbaaGreatDoor
open Go.RowKit Li
variable {s : ByteArray} {w : World}
theorem Tryz.inf3 : (Tryz.prog.info? 3).map (fun i => (i.zero,i.size,i.bytes)) = some (some (.int .i64 0),1,8) := by kernel_rfl
theorem Tryz.info104 : (Tryz.prog.info? 104).map (fun i => (i.zero,i.size,i.bytes)) = some (some (.agg #[.int .i64 0,.int .i64 0,.int .i64 0,.int .i64 0,.int .i64 0]),5,40) := by kernel_rfl
theorem Tryz.info60 : (Tryz.prog.info? 60).map (fun i => (i.zero,i.size,i.bytes)) = some (some (.agg #[.int .i64 0,.int .i64 0,.int .i64 0,.int .i64 0,.int .i64 0]),5,40) := by kernel_rfl
theorem Tryz.und61 : Tryz.prog.underlying 61 = some (.slice 104) := by kernel_rfl
theorem Tryz.und62 : Tryz.prog.underlying 62 = some (.slice 60) := by kernel_rfl
theorem jc2 (h : 600000 < s.size) : res s = some (1,0) := by unfold res;rw [if_pos h]
theorem jc3 (h : s.size <= 600000) (h2 : hdB s = false) : res s = some (10,0) := by unfold res;rw [if_neg (by omega),if_pos h2]
theorem jee {k : Nat} (h : s.size <= 600000) (h2 : hdB s = true) (h3 : bad (jt s) (hF s) 0 = some k) : res s = some (10,8 + 6 * k) := by unfold res;rw [if_neg (by omega),if_neg (by rw [h2];decide),h3]
theorem jeg {k : Nat} (h : s.size <= 600000) (h2 : hdB s = true) (h3 : bad (jt s) (hF s) 0 = none) (h4 : bad (jX s) (hN s) 0 = some k) : res s = some (10,pN s k) := by unfold res;rw [if_neg (by omega),if_neg (by rw [h2];decide),h3,h4]
theorem jef (h : s.size <= 600000) (h2 : hdB s = true) (h3 : bad (jt s) (hF s) 0 = none) (h4 : bad (jX s) (hN s) 0 = none) : res s = none := by unfold res;rw [if_neg (by omega),if_neg (by rw [h2];decide),h3,h4]
def dF (s : ByteArray) (m i : Nat) : List Value := [.int .i64 (r0 s i),.int .i64 (r1 s i),.int .i64 (r2 s i),.int .i64 (r3 s i),.int .i64 ((if i + 1 < m then r0 s (i + 1) else hL s : Nat) : Int)]
def dN (s : ByteArray) (i : Nat) : List Value := [.int .i64 (kn s i)]
def dL (s : ByteArray) (i : Nat) : List Value := [.int .i64 (l0 s i),.int .i64 (l1 s i),.int .i64 (l2 s i),.int .i64 (l3 s i),.int .i64 (l4 s i)]
theorem jai (s : ByteArray) (m : Nat) : ∀ i,(dF s m i).length = 5 := fun _ => rfl
theorem dN_len (s : ByteArray) : ∀ i,(dN s i).length = 1 := fun _ => rfl
theorem jfr (s : ByteArray) : ∀ i,(dL s i).length = 5 := fun _ => rfl
theorem jk0 (s : ByteArray) (k : Nat) : (if k = 0 then ji (dF s k) k ++ dF s (k + 1) k else (ji (dF s k) k ++ dF s (k + 1) k).set ((k - 1) * 5 + 4) (.int .i64 (r0 s k))) = ji (dF s (k + 1)) (k + 1) := by
 cases k with
 | zero => rfl
 | succ m =>
   rw [if_neg (by omega),Nat.add_sub_cancel]
   have h1 : ji (dF s (m + 1)) m = ji (dF s (m + 1 + 1)) m := jea m fun i hi => by
    unfold dF
    rw [if_pos (by omega),if_pos (by omega)]
   have hl : (ji (dF s (m + 1 + 1)) m).length = m * 5 := jaC (jai s _) m
   have h2 : dF s (m + 1) m = [.int .i64 (r0 s m),.int .i64 (r1 s m),.int .i64 (r2 s m),.int .i64 (r3 s m),.int .i64 (hL s : Nat)] := by unfold dF;rw [if_neg (by omega)]
   have h3 : dF s (m + 1 + 1) m = [.int .i64 (r0 s m),.int .i64 (r1 s m),.int .i64 (r2 s m),.int .i64 (r3 s m),.int .i64 (r0 s (m + 1) : Nat)] := by unfold dF;rw [if_pos (by omega)]
   show (ji (dF s (m + 1)) m ++ dF s (m + 1) m ++ dF s (m + 1 + 1) (m + 1)).set _ _ = ji (dF s (m + 1 + 1)) m ++ dF s (m + 1 + 1) m ++ dF s (m + 1 + 1) (m + 1)
   rw [h1,h2,h3,List.append_assoc,List.append_assoc,List.set_append_right _ _ (by rw [hl];omega),hl,Nat.add_sub_cancel_left]
   rfl
theorem jk1 (s : ByteArray) (k : Nat) : dF s (k + 1) k = [.int .i64 (r0 s k),.int .i64 (r1 s k),.int .i64 (r2 s k),.int .i64 (r3 s k),.int .i64 (hL s : Nat)] := by unfold dF;rw [if_neg (by omega)]
def jfL (s : ByteArray) (w : World) (e : Ending) (w' : World) : Prop := ∃ er at' : Nat,res s = some (er,at') /\ e = .returned (.tuple #[.pointer none,.int .i64 er,.int .i64 at']) /\ Below w.heap.size w w'
structure J1 (s : ByteArray) (w : World) (p : Nat) (vF vN vL : Value) : Prop where
 blk : w.heap[p]? = some (prB vF vN vL)
 funs : w.ownsRow (p + 1) 104 5 vF (hF s) (ji (dF s (hF s)) (hF s))
 nums : w.ownsRow (p + 1) 3 1 vN (hN s) (ji (dN s) (hN s))
 lines : w.ownsRow (p + 1) 60 5 vL (hL s) (ji (dL s) (hL s))
def RdOk (s : ByteArray) (w : World) (e : Ending) (w' : World) : Prop := res s = none /\ ∃ p vF vN vL,e = .returned (.tuple #[.pointer (some ⟨p,0,none⟩),.int .i64 0,.int .i64 0]) /\ w.heap.size <= p /\ J1 s w' p vF vN vL /\ Below w.heap.size w w'
set_option maxRecDepth 100000 in
theorem jhD (hs : s.size <= 1073741824) (hd : 600000 < s.size \/ hdB s = false) :
 Calls Tryz.prog 24 #[.string s] w fun e w' => jfL s w e w' := by
 by_cases h1 : 600000 < s.size
 ·have HR : Hid (res s = some (1,0)) := jc2 h1
  clear hd
  go_enter Tryz.func24,Tryz.ntmps24
  go_wp2
  go_ret3
  exact ⟨1,0,HR.out,rfl,jB⟩
 ·have hd' : hdB s = false := hd.resolve_left h1
  have HR : Hid (res s = some (10,0)) := jc3 (by omega) hd'
  clear hd
  by_cases h8 : s.size < 8
  ·clear hd'
   go_enter Tryz.func24,Tryz.ntmps24
   go_wp2
   go_ret3
   exact ⟨10,0,HR.out,rfl,jB⟩
  ·have HD : Hid (hdB s = false) := hd'
   have HF : Hid (nV s 2 2 = ((hF s : Nat) : Int)) := j8 s 2
   have HN : Hid (nV s 4 2 = ((hN s : Nat) : Int)) := j8 s 4
   have HL : Hid (nV s 6 2 = ((hL s : Nat) : Int)) := j8 s 6
   obtain ⟨F,hF'⟩ : ∃ F,hF s = F := ⟨_,rfl⟩
   obtain ⟨N,hN'⟩ : ∃ N,hN s = N := ⟨_,rfl⟩
   obtain ⟨L,hL'⟩ : ∃ L,hL s = L := ⟨_,rfl⟩
   have hFl : F < 65536 := by rw [<- hF'];exact ju _ _
   have hNl : N < 65536 := by rw [<- hN'];exact ju _ _
   have hLl : L < 65536 := by rw [<- hL'];exact ju _ _
   rw [hF'] at HF
   rw [hN'] at HN
   rw [hL'] at HL
   have CF : Hid (∀ (z : Int) (w : World),z = 2 -> Calls Tryz.prog 48 #[.string s,.int .i64 z,.int .i64 2] w fun e w' => e = .returned (.int .i64 (F : Int)) /\ w' = w) := fun z w hz => by rw [<- HF.out,hz];exact J7 (a := 2) (n := 2) (by omega) (by omega)
   have CN : Hid (∀ (z : Int) (w : World),z = 4 -> Calls Tryz.prog 48 #[.string s,.int .i64 z,.int .i64 2] w fun e w' => e = .returned (.int .i64 (N : Int)) /\ w' = w) := fun z w hz => by rw [<- HN.out,hz];exact J7 (a := 4) (n := 2) (by omega) (by omega)
   have CL : Hid (∀ (z : Int) (w : World),z = 6 -> Calls Tryz.prog 48 #[.string s,.int .i64 z,.int .i64 2] w fun e w' => e = .returned (.int .i64 (L : Int)) /\ w' = w) := fun z w hz => by rw [<- HL.out,hz];exact J7 (a := 6) (n := 2) (by omega) (by omega)
   have E1 : Hid (hF s = F) := hF'
   have E2 : Hid (hN s = N) := hN'
   have E3 : Hid (hL s = L) := hL'
   clear hF' hN' hL' hd'
   go_enter Tryz.func24,Tryz.ntmps24
   go_wp2_with (first
    | (go_at_call 48;refine (CF.out _ _ (by omega)).mono ?_;rintro _ w1 ⟨rfl,hw1⟩;have hw2 := hw1.symm;subst hw2)
    | (go_at_call 48;refine (CN.out _ _ (by omega)).mono ?_;rintro _ w1 ⟨rfl,hw1⟩;have hw2 := hw1.symm;subst hw2)
    | (go_at_call 48;refine (CL.out _ _ (by omega)).mono ?_;rintro _ w1 ⟨rfl,hw1⟩;have hw2 := hw1.symm;subst hw2))
   all_goals first
    | (go_ret3;exact ⟨10,0,HR.out,rfl,jB⟩)
    | (exfalso
       have q1 : (s.extract 0 2).toList = [109,108] := by assumption
       have q3 : ((F : Int) == 0) = false /\ ((s.size : Int) != 8 + 6 * (F : Int) + 8 * (N : Int) + 8 * (L : Int)) = false := by assumption
       simp only [bne_eq_false_iff_eq,beq_eq_false_iff_ne,ne_eq] at q3
       have := jjQ (by omega) q1 (by rw [E1.out];omega) (by rw [E1.out,E2.out,E3.out];omega)
       rw [HD.out] at this;cases this)
set_option maxRecDepth 100000 in
theorem jen (hs : s.size <= 600000) (hd : hdB s = true) :
 Calls Tryz.prog 24 #[.string s] w fun e w' => jfL s w e w' \/ RdOk s w e w' := by
 obtain ⟨h8,hml,hF0,hsz⟩ := jco hd
 have HD : Hid (hdB s = true) := hd
 have HF : Hid (nV s 2 2 = ((hF s : Nat) : Int)) := j8 s 2
 have HN : Hid (nV s 4 2 = ((hN s : Nat) : Int)) := j8 s 4
 have HL : Hid (nV s 6 2 = ((hL s : Nat) : Int)) := j8 s 6
 obtain ⟨R1,hR1⟩ : ∃ R,bad (jt s) (hF s) 0 = R := ⟨_,rfl⟩
 obtain ⟨R2,hR2⟩ : ∃ R,bad (jX s) (hN s) 0 = R := ⟨_,rfl⟩
 have HR1 : Hid (bad (jt s) (hF s) 0 = R1) := hR1
 have HR2 : Hid (bad (jX s) (hN s) 0 = R2) := hR2
 obtain ⟨F,hF'⟩ : ∃ F,hF s = F := ⟨_,rfl⟩
 obtain ⟨N,hN'⟩ : ∃ N,hN s = N := ⟨_,rfl⟩
 obtain ⟨L,hL'⟩ : ∃ L,hL s = L := ⟨_,rfl⟩
 have hFl : F < 65536 := by rw [<- hF'];exact ju _ _
 have hNl : N < 65536 := by rw [<- hN'];exact ju _ _
 have hLl : L < 65536 := by rw [<- hL'];exact ju _ _
 rw [hF'] at HF hF0
 rw [hN'] at HN
 rw [hL'] at HL
 rw [hF',hN',hL'] at hsz
 have CF : Hid (∀ (z : Int) (w : World),z = 2 -> Calls Tryz.prog 48 #[.string s,.int .i64 z,.int .i64 2] w fun e w' => e = .returned (.int .i64 (F : Int)) /\ w' = w) := fun z w hz => by rw [<- HF.out,hz];exact J7 (a := 2) (n := 2) (by omega) (by omega)
 have CN : Hid (∀ (z : Int) (w : World),z = 4 -> Calls Tryz.prog 48 #[.string s,.int .i64 z,.int .i64 2] w fun e w' => e = .returned (.int .i64 (N : Int)) /\ w' = w) := fun z w hz => by rw [<- HN.out,hz];exact J7 (a := 4) (n := 2) (by omega) (by omega)
 have CL : Hid (∀ (z : Int) (w : World),z = 6 -> Calls Tryz.prog 48 #[.string s,.int .i64 z,.int .i64 2] w fun e w' => e = .returned (.int .i64 (L : Int)) /\ w' = w) := fun z w hz => by rw [<- HL.out,hz];exact J7 (a := 6) (n := 2) (by omega) (by omega)
 have E1 : Hid (hF s = F) := hF'
 have E2 : Hid (hN s = N) := hN'
 have E3 : Hid (hL s = L) := hL'
 have g1 : ((F : Int) == 0) = false := by simp;omega
 have g2 : ((s.size : Int) != 8 + 6 * (F : Int) + 8 * (N : Int) + 8 * (L : Int)) = false := by simp;omega
 have HSZ : Hid (s.size = 8 + 6 * F + 8 * N + 8 * L) := hsz
 rw [hF'] at HR1
 rw [hN'] at HR2
 clear hF' hN' hL' hd hsz hR1 hR2
 go_enter Tryz.func24,Tryz.ntmps24
 go_wp2_with (first
  | (go_at_call 48;refine (CF.out _ _ (by omega)).mono ?_;rintro _ w1 ⟨rfl,hw1⟩;have hw2 := hw1.symm;subst hw2)
  | (go_at_call 48;refine (CN.out _ _ (by omega)).mono ?_;rintro _ w1 ⟨rfl,hw1⟩;have hw2 := hw1.symm;subst hw2)
  | (go_at_call 48;refine (CL.out _ _ (by omega)).mono ?_;rintro _ w1 ⟨rfl,hw1⟩;have hw2 := hw1.symm;subst hw2))
 go_loopw [9,10] (fun a i wr => ∃ (k : Nat) (v : Value),k <= F /\ i = .int .i64 k /\ a = .int .i64 ((8 + 6 * k : Nat) : Int) /\ bad (jt s) (F - k) k = R1 /\ wr.heap[w.heap.size]? = some (prB v (.slice none 0 0) (.slice none 0 0)) /\ wr.ownsRow (w.heap.size + 1) 104 5 v k (ji (dF s k) k) /\ Below w.heap.size w wr /\ w.heap.size + 1 <= wr.heap.size) (fun _ i _ => F - (intOf i).toNat)
 case atStart =>
  refine ⟨0,.slice none 0 0,by omega,rfl,rfl,HR1.out,jg _ _,World.ownsRow_nil _ _ _ _,jB.alloc jN _,by rw [World.size_alloc];omega⟩
 case round =>
  obtain ⟨k,v,hk,rfl,rfl,hbad,hblk,hown,hbw,hsw⟩ := hrel
  by_cases hlt : k < F
  ·have HBAD : Hid (bad (jt s) (F - k) k = R1) := hbad
   have hkb : 8 + 6 * k + 6 <= s.size := by have := HSZ.out;omega
   obtain ⟨f0,hf0⟩ : ∃ f,r0 s k = f := ⟨_,rfl⟩
   obtain ⟨f3,hf3⟩ : ∃ f,r3 s k = f := ⟨_,rfl⟩
   have hf0l : f0 < 65536 := by rw [<- hf0];exact ju _ _
   have hf3l : f3 < 65536 := by rw [<- hf3];exact ju _ _
   have CA : Hid (∀ (z : Int) (w : World),z = 8 + 6 * (k : Int) -> Calls Tryz.prog 48 #[.string s,.int .i64 z,.int .i64 2] w fun e w' => e = .returned (.int .i64 (f0 : Int)) /\ w' = w) := fun z w hz => by
    have := J7 (s := s) (a := 8 + 6 * k) (n := 2) (w := w) hs (by omega)
    rw [j8,show n2 s (8 + 6 * k) = f0 from hf0,show ((8 + 6 * k : Nat) : Int) = z by omega] at this
    exact this
   have CB : Hid (∀ (z : Int) (w : World),z = 8 + 6 * (k : Int) + 4 -> Calls Tryz.prog 48 #[.string s,.int .i64 z,.int .i64 2] w fun e w' => e = .returned (.int .i64 (f3 : Int)) /\ w' = w) := fun z w hz => by
    have := J7 (s := s) (a := 8 + 6 * k + 4) (n := 2) (w := w) hs (by omega)
    rw [j8,show n2 s (8 + 6 * k + 4) = f3 from hf3,show ((8 + 6 * k + 4 : Nat) : Int) = z by omega] at this
    exact this
   have c0 := ja hblk 0 rfl
   have c0' : ∀ o,(wr.alloc o).cell? ⟨w.heap.size,0,none⟩ = some v := jT hblk 0 rfl
   have hz0 := je hblk 0
   simp only [List.getElem_toArray,List.getElem_cons_zero,List.getElem_cons_succ] at c0
   have HBK : Hid (wr.heap[w.heap.size]? = some (prB v (.slice none 0 0) (.slice none 0 0))) := hblk
   have HOW : Hid (wr.ownsRow (w.heap.size + 1) 104 5 v k (ji (dF s k) k)) := hown
   have HB1 : Hid (r1 s k = s[8 + 6 * k + 2].toNat) := jbj (by omega)
   have HB2 : Hid (r2 s k = s[8 + 6 * k + 3].toNat) := jbj (by omega)
   have E4 : Hid (r0 s k = f0) := hf0
   have E5 : Hid (r3 s k = f3) := hf3
   clear hf0 hf3 hbad hblk hown
   go_wp2_with (first
    | (go_at_call 48;refine (CA.out _ _ (by omega)).mono ?_;rintro _ w1 ⟨rfl,hw1⟩;have hw2 := hw1.symm;subst hw2)
    | (go_at_call 48;refine (CB.out _ _ (by omega)).mono ?_;rintro _ w1 ⟨rfl,hw1⟩;have hw2 := hw1.symm;subst hw2))
   obtain ⟨i0,hi0,hz1,hz2,hz3⟩ := info_parts Tryz.info104
   have y2 : IntKind.i64.wrap (8 + 6 * (k : Int) + 2) = 8 + 6 * (k : Int) + 2 := by rw [IntKind.wrap_i64];omega
   have y3 : IntKind.i64.wrap (8 + 6 * (k : Int) + 3) = 8 + 6 * (k : Int) + 3 := by rw [IntKind.wrap_i64];omega
   have z2 : 0 <= 8 + 6 * (k : Int) + 2 /\ 8 + 6 * (k : Int) + 2 < (s.size : Int) := by omega
   have z3 : 0 <= 8 + 6 * (k : Int) + 3 /\ 8 + 6 * (k : Int) + 3 < (s.size : Int) := by omega
   have t2 : (8 + 6 * (k : Int) + 2).toNat = 8 + 6 * k + 2 := by omega
   have t3 : (8 + 6 * (k : Int) + 3).toNat = 8 + 6 * k + 3 := by omega
   have u2 : IntKind.i64.wrap (s[8 + 6 * k + 2].toNat : Int) = (s[8 + 6 * k + 2].toNat : Int) := by rw [IntKind.wrap_i64];have := UInt8.toNat_lt s[8 + 6 * k + 2];omega
   have u3 : IntKind.i64.wrap (s[8 + 6 * k + 3].toNat : Int) = (s[8 + 6 * k + 3].toNat : Int) := by rw [IntKind.wrap_i64];have := UInt8.toNat_lt s[8 + 6 * k + 3];omega
   refine wp_region_any (by kernel_rfl) ?_
   change wpAny _ _ _ _ _ _ _ (World.drew _)
   refine wpAny_take (i := 0) (v := ?v1) rfl (by kernel_rfl) (by kernel_rfl) (by kernel_rfl) (fun _ _ _ h => h) (Or.inl ⟨by rfl,?hy1⟩) ?_
   case hy1 => (intro w;go_simp;all_goals with_reducible rfl)
   refine wpAny_take (i := 1) (v := ?v2) rfl (by kernel_rfl) (by kernel_rfl) (by kernel_rfl) (fun _ _ _ h => h) (Or.inl ⟨by rfl,?hy2⟩) ?_
   case hy2 => (intro w;go_simp;all_goals with_reducible rfl)
   refine wpAny_take (i := 2) (v := ?v3) rfl (by kernel_rfl) (by kernel_rfl) (by kernel_rfl) (fun _ _ _ h => h) (Or.inl ⟨by rfl,?hy3⟩) ?_
   case hy3 => (intro w;go_simp;all_goals with_reducible rfl)
   refine wpAny_take (i := 3) (v := ?v4) rfl (by kernel_rfl) (by kernel_rfl) (by kernel_rfl) (fun _ _ _ h => h) (Or.inl ⟨by rfl,?hy4⟩) ?_
   case hy4 => (intro w;go_simp;all_goals with_reducible rfl)
   refine wpAny_take (i := 5) (v := ?v5) rfl (by kernel_rfl) (by kernel_rfl) (by kernel_rfl) (fun _ _ _ h => h) (Or.inl ⟨by rfl,?hy5⟩) ?_
   case hy5 => (intro w;go_simp;all_goals with_reducible rfl)
   refine wpAny_take (i := 6) (v := ?v6) rfl (by kernel_rfl) (by kernel_rfl) (by kernel_rfl) (fun _ _ _ h => h) (Or.inl ⟨by rfl,?hy6⟩) ?_
   case hy6 => (intro w;go_simp;all_goals with_reducible rfl)
   refine wpAny_take (i := 7) (v := ?v7) rfl (by kernel_rfl) (by kernel_rfl) (by kernel_rfl) (fun _ _ _ h => h) (Or.inl ⟨by rfl,?hy7⟩) ?_
   case hy7 => (intro w;go_simp;all_goals with_reducible rfl)
   refine wpAny_take (i := 8) (v := ?v8) rfl (by kernel_rfl) (by kernel_rfl) (by kernel_rfl) (fun _ _ _ h => h) (Or.inl ⟨by rfl,?hy8⟩) ?_
   case hy8 => (intro w;go_simp;all_goals with_reducible rfl)
   refine wpAny_take (i := 9) (v := ?v9) rfl (by kernel_rfl) (by kernel_rfl) (by kernel_rfl) (fun _ _ _ h => h) (Or.inl ⟨by rfl,?hy9⟩) ?_
   case hy9 => (intro w;go_simp;all_goals with_reducible rfl)
   refine wpAny_take (i := 10) (v := ?v10) rfl (by kernel_rfl) (by kernel_rfl) (by kernel_rfl) (fun _ _ _ h => h) (Or.inl ⟨by rfl,?hy10⟩) ?_
   case hy10 => (intro w;go_simp;all_goals with_reducible rfl)
   refine wpAny_take (i := 11) (v := ?v11) rfl (by kernel_rfl) (by kernel_rfl) (by kernel_rfl) (fun _ _ _ h => h) (Or.inl ⟨by rfl,?hy11⟩) ?_
   case hy11 => (intro w;go_simp;all_goals with_reducible rfl)
   refine wpAny_take (i := 12) (v := ?v12) rfl (by kernel_rfl) (by kernel_rfl) (by kernel_rfl) (fun _ _ _ h => h) (Or.inl ⟨by rfl,?hy12⟩) ?_
   case hy12 => (intro w;go_simp;all_goals with_reducible rfl)
   refine wpAny_take (i := 13) (v := ?v13) rfl (by kernel_rfl) (by kernel_rfl) (by kernel_rfl) (fun _ _ _ h => h) (Or.inl ⟨by rfl,?hy13⟩) ?_
   case hy13 => (intro w;go_simp;all_goals with_reducible rfl)
   refine wpAny_take (i := 14) (v := ?v14) rfl (by kernel_rfl) (by kernel_rfl) (by kernel_rfl) (fun _ _ _ h => h) (Or.inl ⟨by rfl,?hy14⟩) ?_
   case hy14 => (intro w;go_simp;all_goals with_reducible rfl)
   refine wpAny_take (i := 15) (v := ?v15) rfl (by kernel_rfl) (by kernel_rfl) (by kernel_rfl) (fun _ _ _ h => h) (Or.inl ⟨by rfl,?hy15⟩) ?_
   case hy15 => (intro w;go_simp;all_goals with_reducible rfl)
   refine wpAny_take (i := 16) (v := ?v16) rfl (by kernel_rfl) (by kernel_rfl) (by kernel_rfl) (fun _ _ _ h => h) (Or.inl ⟨by rfl,?hy16⟩) ?_
   case hy16 => (intro w;go_simp;all_goals with_reducible rfl)
   refine wpAny_take (i := 17) (v := ?v17) rfl (by kernel_rfl) (by kernel_rfl) (by kernel_rfl) (fun _ _ _ h => h) (Or.inl ⟨by rfl,?hy17⟩) ?_
   case hy17 => (intro w;go_simp;all_goals with_reducible rfl)
   refine wpAny_take (i := 18) (v := ?v18) rfl (by kernel_rfl) (by kernel_rfl) (by kernel_rfl) (fun _ _ _ h => h) (Or.inl ⟨by rfl,?hy18⟩) ?_
   case hy18 => (intro w;go_simp;all_goals with_reducible rfl)
   refine wpAny_ready (rs := [4,19]) (by kernel_rfl) (by simp) ?_
   refine AllReady.cons rfl (fun K hK => ?A) ?B
   case' A =>
    go_simp
    refine hK _ _ ?_
    clear hK K
    refine wpAny_ready (rs := [19]) (by kernel_rfl) (by simp) ?_
    refine AllReady.cons rfl (fun K hK => ?_) AllReady.nil
    go_simp
    refine hK _ _ ?_
    clear hK K
    refine wpAny_ready (rs := [20]) (by kernel_rfl) (by simp) ?_
    refine AllReady.cons rfl (fun K hK => ?_) AllReady.nil
    (refine step_append_lies _ (by rfl) (.tmp 71) (.tmp 86) 61 (by rfl) (w.heap.size + 1) 104 i0 _ 5 40 Tryz.und61 hi0 hz1 hz2 hz3 rfl (by decide) v k (ji (dF s k) k) (by rfl) (HOW.out.alloc _) ⟨wr.heap.size,0,none⟩ 1 1 [.int .i64 f0,.int .i64 _,.int .i64 _,.int .i64 f3,.int .i64 L] (by rfl) (by rfl) (Ja _ _ _ _ (by simp)) (by intro u hu;simp at hu;rcases hu with rfl | rfl | rfl | rfl | rfl <;> rfl) (by decide) (by unfold maxLen;omega) (by omega) (by simp;omega) _ rfl ?_;intro g c w1 hown1 hgrow hat hlt1;obtain ⟨hh1,hs1,hb1⟩ := jan HOW.out ((jB.alloc jN _).drew) (by omega) hgrow;have hblk1 := (hh1 w.heap.size (by omega) (fun h => by have := (HOW.out.lt _ h).1;omega)).trans HBK.out;have d0 := ja hblk1 0 rfl;have q0 := je hblk1 0;simp only [List.getElem_toArray,List.getElem_cons_zero,List.getElem_cons_succ] at d0)
    refine hK _ _ ?_
    clear hK K
    refine wpAny_take (i := 21) (v := ?v19) rfl (by kernel_rfl) (by kernel_rfl) (by kernel_rfl) (fun _ _ _ h => h) (Or.inl ⟨by rfl,?hy19⟩) ?_
    case hy19 => (intro w;go_simp;all_goals with_reducible rfl)
    refine wpAny_take (i := 22) (v := ?v20) rfl (by kernel_rfl) (by kernel_rfl) (by kernel_rfl) (fun _ _ _ h => h) (Or.inl ⟨by rfl,?hy20⟩) ?_
    case hy20 => (intro w;go_simp;all_goals with_reducible rfl)
    refine wpAny_ready (rs := [23]) (by kernel_rfl) (by simp) ?_
    refine AllReady.cons rfl (fun K hK => ?_) AllReady.nil
    go_simp
    refine hK _ _ ?_
    clear hK K
    refine wpAny_done (by kernel_rfl) ?_ _
   case' B =>
    refine AllReady.cons rfl (fun K hK => ?_) AllReady.nil
    go_simp
    refine hK _ _ ?_
    clear hK K
    refine wpAny_ready (rs := [4]) (by kernel_rfl) (by simp) ?_
    refine AllReady.cons rfl (fun K hK => ?_) AllReady.nil
    go_simp
    refine hK _ _ ?_
    clear hK K
    refine wpAny_ready (rs := [20]) (by kernel_rfl) (by simp) ?_
    refine AllReady.cons rfl (fun K hK => ?_) AllReady.nil
    (refine step_append_lies _ (by rfl) (.tmp 71) (.tmp 86) 61 (by rfl) (w.heap.size + 1) 104 i0 _ 5 40 Tryz.und61 hi0 hz1 hz2 hz3 rfl (by decide) v k (ji (dF s k) k) (by rfl) (HOW.out.alloc _) ⟨wr.heap.size,0,none⟩ 1 1 [.int .i64 f0,.int .i64 _,.int .i64 _,.int .i64 f3,.int .i64 L] (by rfl) (by rfl) (Ja _ _ _ _ (by simp)) (by intro u hu;simp at hu;rcases hu with rfl | rfl | rfl | rfl | rfl <;> rfl) (by decide) (by unfold maxLen;omega) (by omega) (by simp;omega) _ rfl ?_;intro g c w1 hown1 hgrow hat hlt1;obtain ⟨hh1,hs1,hb1⟩ := jan HOW.out ((jB.alloc jN _).drew) (by omega) hgrow;have hblk1 := (hh1 w.heap.size (by omega) (fun h => by have := (HOW.out.lt _ h).1;omega)).trans HBK.out;have d0 := ja hblk1 0 rfl;have q0 := je hblk1 0;simp only [List.getElem_toArray,List.getElem_cons_zero,List.getElem_cons_succ] at d0)
    refine hK _ _ ?_
    clear hK K
    refine wpAny_take (i := 21) (v := ?v21) rfl (by kernel_rfl) (by kernel_rfl) (by kernel_rfl) (fun _ _ _ h => h) (Or.inl ⟨by rfl,?hy21⟩) ?_
    case hy21 => (intro w;go_simp;all_goals with_reducible rfl)
    refine wpAny_take (i := 22) (v := ?v22) rfl (by kernel_rfl) (by kernel_rfl) (by kernel_rfl) (fun _ _ _ h => h) (Or.inl ⟨by rfl,?hy22⟩) ?_
    case hy22 => (intro w;go_simp;all_goals with_reducible rfl)
    refine wpAny_ready (rs := [23]) (by kernel_rfl) (by simp) ?_
    refine AllReady.cons rfl (fun K hK => ?_) AllReady.nil
    go_simp
    refine hK _ _ ?_
    clear hK K
    refine wpAny_done (by kernel_rfl) ?_ _
   all_goals
    rename_i Q' K hK
    refine hK _ _ ?_
    clear hK
    clear K
    rw [<- HB1.out,<- HB2.out] at hown1
    have hblk2 := jf hblk1 0 (.slice (some ⟨g,0,none⟩) (k + 1) c)
    have hown2 := ownsRow_setCell_below (a := ⟨w.heap.size,0,none⟩) hown1 (by show w.heap.size < _;omega) (.slice (some ⟨g,0,none⟩) (k + 1) c)
    have hcap := jh9 hown2
    have hgl := hown2.lt g rfl
    have x0 := jbV (jai s k) k 0 [.int .i64 f0,.int .i64 (r1 s k),.int .i64 (r2 s k),.int .i64 f3,.int .i64 L]
    have x1 := jbV (jai s k) k 1 [.int .i64 f0,.int .i64 (r1 s k),.int .i64 (r2 s k),.int .i64 f3,.int .i64 L]
    have x2 := jbV (jai s k) k 2 [.int .i64 f0,.int .i64 (r1 s k),.int .i64 (r2 s k),.int .i64 f3,.int .i64 L]
    have x3 := jbV (jai s k) k 3 [.int .i64 f0,.int .i64 (r1 s k),.int .i64 (r2 s k),.int .i64 f3,.int .i64 L]
    have x4 := jbV (jai s k) k 4 [.int .i64 f0,.int .i64 (r1 s k),.int .i64 (r2 s k),.int .i64 f3,.int .i64 L]
    have hpf : 0 < k -> (ji (dF s k) k ++ [.int .i64 f0,.int .i64 (r1 s k),.int .i64 (r2 s k),.int .i64 f3,.int .i64 L])[(k - 1) * 5]? = some (.int .i64 (r0 s (k - 1))) := fun h0 => jmi (jai s k) (i := k - 1) (o := 0) _ (by omega) (by omega)
    have hrw : jt s k = rwB k f0 (r1 s k) (r2 s k) f3 L (r0 s (k - 1)) := by rw [jd8,E3.out,E4.out,E5.out]
    have HBB : Hid (Below w.heap.size w (w1.setCell ⟨w.heap.size,0,none⟩ (.slice (some ⟨g,0,none⟩) (k + 1) c))) := (hbw.trans (hb1.mono (by omega))).setCell (p := ⟨w.heap.size,0,none⟩) jN _
    have HROW : Hid (∀ R,jt s k = R -> Calls Tryz.prog 49 #[.pointer (some ⟨w.heap.size,0,none⟩),.int .i64 k,.int .i64 L] (w1.setCell ⟨w.heap.size,0,none⟩ (.slice (some ⟨g,0,none⟩) (k + 1) c)) fun e w' => e = .returned (.bool R) /\ Below (w.heap.size + 1) (w1.setCell ⟨w.heap.size,0,none⟩ (.slice (some ⟨g,0,none⟩) (k + 1) c)) w' /\ (∀ b,b < (w1.setCell ⟨w.heap.size,0,none⟩ (.slice (some ⟨g,0,none⟩) (k + 1) c)).heap.size -> b ≠ g -> w'.heap[b]? = (w1.setCell ⟨w.heap.size,0,none⟩ (.slice (some ⟨g,0,none⟩) (k + 1) c)).heap[b]?) /\
     (R = true -> w'.ownsRow (w.heap.size + 1) 104 5 (.slice (some ⟨g,0,none⟩) (k + 1) c) (k + 1) (ji (dF s (k + 1)) (k + 1)))) := fun R hR => by
     have h := jgY (hrw.symm.trans hR) (by omega) hblk2 (by omega) hown2 hcap x0 x1 x2 x3 x4 hpf
     have hn := jk0 s k
     rw [jk1,E3.out,E4.out,E5.out] at hn
     rw [hn] at h
     exact h
    have HBL : Hid ((w1.setCell ⟨w.heap.size,0,none⟩ (.slice (some ⟨g,0,none⟩) (k + 1) c)).heap[w.heap.size]? = some (prB (.slice (some ⟨g,0,none⟩) (k + 1) c) (.slice none 0 0) (.slice none 0 0))) := hblk2
    have hsz2 : w.heap.size + 1 <= (w1.setCell ⟨w.heap.size,0,none⟩ (.slice (some ⟨g,0,none⟩) (k + 1) c)).heap.size := by rw [jy];omega
    rw [jy] at hgl
    clear hblk1 hblk2 hown1 hown2 hgrow hat hh1 hb1 x0 x1 x2 x3 x4 hpf hrw d0 q0 hcap c0 c0' hz0
    generalize w1.setCell ⟨w.heap.size,0,none⟩ (.slice (some ⟨g,0,none⟩) (k + 1) c) = W2 at *
    by_cases hrb : jt s k = true
    ·have HC := jH (HROW.out true hrb)
     have HNX : Hid (bad (jt s) (F - (k + 1)) (k + 1) = R1) := by
      have h := HBAD.out
      rw [show F - k = (F - (k + 1)) + 1 by omega,bad,if_pos hrb] at h
      exact h
     clear hrb HROW
     go_wp2_with (go_at_call 49;refine HC.out.mono ?_;rintro _ w3 ⟨rfl,hb3,hh3,ho3⟩;have ho4 := jH (ho3 rfl);clear ho3)
     go_roundw
     case rel =>
      refine ⟨k + 1,.slice (some ⟨g,0,none⟩) (k + 1) c,by omega,by go_num,by go_num,HNX.out,(hh3 _ (by omega) (by omega)).trans HBL.out,ho4.out,HBB.out.trans (hb3.mono (by omega)),by have := hb3.size;omega⟩
     case measure => simp [intOf];omega
    ·have hrf : jt s k = false := by simpa using hrb
     have HC := jH (HROW.out false hrf)
     have HNX : Hid (R1 = some k) := by
      have h := HBAD.out
      rw [show F - k = (F - (k + 1)) + 1 by omega,bad,if_neg hrb] at h
      exact h.symm
     clear hrb hrf HROW
     go_wp2_with (go_at_call 49;refine HC.out.mono ?_;rintro _ w3 ⟨rfl,hb3,hh3,ho3⟩;clear ho3)
     go_ret3
     refine .inl ⟨10,8 + 6 * k,jee hs HD.out (by rw [E1.out,HR1.out];exact HNX.out),?_,HBB.out.trans (hb3.mono (by omega))⟩
     first | rfl | (simp;rfl)
  ·rw [show k = F by omega] at hown hbad ⊢
   rw [Nat.sub_self,bad] at hbad
   have HN1 : Hid (R1 = none) := hbad.symm
   have HFU : Hid (wr.ownsRow (w.heap.size + 1) 104 5 v F (ji (dF s F) F)) := hown
   have HBK0 : Hid (wr.heap[w.heap.size]? = some (prB v (.slice none 0 0) (.slice none 0 0))) := hblk
   clear hbad hown hblk hlt hk
   obtain ⟨W1,hW1⟩ : ∃ W,W = wr := ⟨_,rfl⟩
   subst hW1
   go_wp2_with fail
   go_loopw [9,14] (fun a i wr => ∃ (j : Nat) (vN : Value),j <= N /\ i = .int .i64 j /\ a = .int .i64 ((8 + 6 * F + 8 * j : Nat) : Int) /\ bad (jX s) (N - j) j = R2 /\ wr.heap[w.heap.size]? = some (prB v vN (.slice none 0 0)) /\ wr.ownsRow W1.heap.size 3 1 vN j (ji (dN s) j) /\ (∀ b,b < W1.heap.size -> b ≠ w.heap.size -> wr.heap[b]? = W1.heap[b]?) /\ Below w.heap.size w wr /\ W1.heap.size <= wr.heap.size) (fun _ i _ => N - (intOf i).toNat)
   case atStart => exact ⟨0,.slice none 0 0,by omega,rfl,by go_num,HR2.out,HBK0.out,World.ownsRow_nil _ _ _ _,fun _ _ _ => rfl,hbw,jN⟩
   case round =>
    obtain ⟨j,vN,hj,rfl,rfl,hbad,hblk,hown,hrest,hbq,hsq⟩ := hrel
    by_cases hlt : j < N
    ·have HBAD : Hid (bad (jX s) (N - j) j = R2) := hbad
     have hjb : 8 + 6 * F + 8 * j + 8 <= s.size := by have := HSZ.out;omega
     have hp : pN s j = 8 + 6 * F + 8 * j := by unfold pN;rw [E1.out]
     obtain ⟨x,hx⟩ : ∃ x,kn s j = x := ⟨_,rfl⟩
     have hxb : -9223372036854775808 <= x /\ x <= 9223372036854775807 := by rw [<- hx];exact jcc _ _ _
     have CV : Hid (∀ (z : Int) (w : World),z = 8 + 6 * (F : Int) + 8 * (j : Int) -> Calls Tryz.prog 48 #[.string s,.int .i64 z,.int .i64 8] w fun e w' => e = .returned (.int .i64 x) /\ w' = w) := fun z w hz => by
      have := J7 (s := s) (a := 8 + 6 * F + 8 * j) (n := 8) (w := w) hs (by omega)
      rw [show nV s (8 + 6 * F + 8 * j) 8 = x by rw [<- hp];exact hx,show ((8 + 6 * F + 8 * j : Nat) : Int) = z by omega] at this
      exact this
     have EP : Hid (pN s j = 8 + 6 * F + 8 * j) := hp
     have EX : Hid (kn s j = x) := hx
     have HNB : Hid (jX s j = (decide (-4611686018427387904 <= x) && decide (x <= 4611686018427387903))) := by show _ = _;unfold jX;rw [hx]
     clear hp hx hbad
     by_cases hnb : -4611686018427387904 <= x /\ x <= 4611686018427387903
     ·obtain ⟨hnb1,hnb2⟩ := hnb
      have HNX : Hid (bad (jX s) (N - (j + 1)) (j + 1) = R2) := by
       have h := HBAD.out
       rw [show N - j = (N - (j + 1)) + 1 by omega,bad,if_pos (by rw [HNB.out,decide_eq_true hnb1,decide_eq_true hnb2];rfl)] at h
       exact h
      have c1 := ja hblk 1 rfl
      have c1' : ∀ o,(wr.alloc o).cell? ⟨w.heap.size,1,none⟩ = some vN := jT hblk 1 rfl
      simp only [List.getElem_toArray,List.getElem_cons_zero,List.getElem_cons_succ] at c1
      have HBK : Hid (wr.heap[w.heap.size]? = some (prB v vN (.slice none 0 0))) := hblk
      have HOW : Hid (wr.ownsRow W1.heap.size 3 1 vN j (ji (dN s) j)) := hown
      have HRS : Hid (∀ b,b < W1.heap.size -> b ≠ w.heap.size -> wr.heap[b]? = W1.heap[b]?) := hrest
      clear hblk hown hrest
      obtain ⟨i0,hi0,hz1,hz2,hz3⟩ := info_parts Tryz.inf3
      go_wp2_with (first
       | (go_at_call 48;refine (CV.out _ _ (by omega)).mono ?_;rintro _ w1 ⟨rfl,hw1⟩;have hw2 := hw1.symm;subst hw2)
       | (at_builtin;refine JO _ rfl (.tmp 118) (.tmp 120) 22 rfl W1.heap.size 3 i0 _ 1 8 Tryz.underlying22 hi0 hz1 hz2 hz3 rfl (by decide) _ _ _ rfl (HOW.out.alloc _) _ 1 1 [.int .i64 x] rfl rfl (Ja _ _ _ _ (by simp)) ?_ ?_ ?_ ?_ ?_;(intro u hu;simp at hu;subst hu;rfl);(unfold maxLen;omega);omega;(simp;omega);intro v' w4 hown4 hg4 hrow4;clear hrow4;obtain ⟨hh4,hs4,hb4⟩ := jan HOW.out (jB.alloc jN _) (by omega) hg4;have hblk4 := (hh4 w.heap.size (by omega) (fun h => by have := (HOW.out.lt _ h).1;omega)).trans HBK.out;have d1 := ja hblk4 1 rfl;have q1 := je hblk4 1;simp only [List.getElem_toArray,List.getElem_cons_zero,List.getElem_cons_succ] at d1;obtain ⟨a4,c4,rfl⟩ := j5 hown4))
      go_roundw
      case rel =>
       refine ⟨j + 1,.slice a4 (j + 1) c4,by omega,by go_num,by go_num,HNX.out,jf hblk4 1 _,?_,fun b hb hbp => ?_,?_,by rw [jy];omega⟩
       ·have : ji (dN s) (j + 1) = ji (dN s) j ++ [.int .i64 x] := by rw [<- EX.out];rfl
        rw [this]
        exact ownsRow_setCell_below (a := ⟨w.heap.size,1,none⟩) hown4 (by show w.heap.size < _;omega) _
       ·rw [Below.heap_setCell _ _ _ _ hbp,hh4 b (by omega) (fun h => by have := (HOW.out.lt _ h).1;omega)]
        exact HRS.out b hb hbp
       ·exact (hbq.trans (hb4.mono (by omega))).setCell (p := ⟨w.heap.size,1,none⟩) jN _
      case measure => simp [intOf];omega
     ·have HNX : Hid (R2 = some j) := by
       have h := HBAD.out
       rw [show N - j = (N - (j + 1)) + 1 by omega,bad,if_neg (by rw [HNB.out];simp;omega)] at h
       exact h.symm
      have hor : x < -4611686018427387904 \/ 4611686018427387903 < x := by omega
      clear hnb
      go_wp2_with (go_at_call 48;refine (CV.out _ _ (by omega)).mono ?_;rintro _ w1 ⟨rfl,hw1⟩;have hw2 := hw1.symm;subst hw2)
      all_goals first
       | omega
       | (go_ret3
          refine .inl ⟨10,8 + 6 * F + 8 * j,?_,?_,hbq⟩
          ·rw [<- EP.out];exact jeg hs HD.out (by rw [E1.out,HR1.out];exact HN1.out) (by rw [E2.out,HR2.out];exact HNX.out)
          ·first | rfl | (simp;rfl))
    ·rw [show j = N by omega] at hown hbad ⊢
     rw [Nat.sub_self,bad] at hbad
     have HN2 : Hid (R2 = none) := hbad.symm
     have HNU : Hid (wr.ownsRow W1.heap.size 3 1 vN N (ji (dN s) N)) := hown
     have HBK1 : Hid (wr.heap[w.heap.size]? = some (prB v vN (.slice none 0 0))) := hblk
     have HRS : Hid (∀ b,b < W1.heap.size -> b ≠ w.heap.size -> wr.heap[b]? = W1.heap[b]?) := hrest
     clear hbad hown hblk hlt hj hrest
     obtain ⟨W2,hW2⟩ : ∃ W,W = wr := ⟨_,rfl⟩
     subst hW2
     go_wp2_with fail
     go_loopw [9,16] (fun a i wr => ∃ (m : Nat) (vL : Value),m <= L /\ i = .int .i64 m /\ a = .int .i64 ((8 + 6 * F + 8 * N + 8 * m : Nat) : Int) /\ wr.heap[w.heap.size]? = some (prB v vN vL) /\ wr.ownsRow W2.heap.size 60 5 vL m (ji (dL s) m) /\ (∀ b,b < W2.heap.size -> b ≠ w.heap.size -> wr.heap[b]? = W2.heap[b]?) /\ Below w.heap.size w wr /\ W2.heap.size <= wr.heap.size) (fun _ i _ => L - (intOf i).toNat)
     case atStart => exact ⟨0,.slice none 0 0,by omega,rfl,by go_num,HBK1.out,World.ownsRow_nil _ _ _ _,fun _ _ _ => rfl,hbq,jN⟩
     case round =>
      obtain ⟨m,vL,hm,rfl,rfl,hblk,hown,hrest,hbz,hsz'⟩ := hrel
      by_cases hlt : m < L
      ·have hmb : 8 + 6 * F + 8 * N + 8 * m + 8 <= s.size := by have := HSZ.out;omega
       have hp : pL s m = 8 + 6 * F + 8 * N + 8 * m := by unfold pL;rw [E1.out,E2.out]
       obtain ⟨x2,hx2⟩ : ∃ x,l2 s m = x := ⟨_,rfl⟩
       obtain ⟨x3,hx3⟩ : ∃ x,l3 s m = x := ⟨_,rfl⟩
       obtain ⟨x4,hx4⟩ : ∃ x,l4 s m = x := ⟨_,rfl⟩
       have C2 : Hid (∀ (z : Int) (w : World),z = 8 + 6 * (F : Int) + 8 * (N : Int) + 8 * (m : Int) + 2 -> Calls Tryz.prog 48 #[.string s,.int .i64 z,.int .i64 2] w fun e w' => e = .returned (.int .i64 (x2 : Int)) /\ w' = w) := fun z w hz => by
        have := J7 (s := s) (a := pL s m + 2) (n := 2) (w := w) hs (by omega)
        rw [j8,show n2 s (pL s m + 2) = x2 from hx2,show ((pL s m + 2 : Nat) : Int) = z by omega] at this
        exact this
       have C3 : Hid (∀ (z : Int) (w : World),z = 8 + 6 * (F : Int) + 8 * (N : Int) + 8 * (m : Int) + 4 -> Calls Tryz.prog 48 #[.string s,.int .i64 z,.int .i64 2] w fun e w' => e = .returned (.int .i64 (x3 : Int)) /\ w' = w) := fun z w hz => by
        have := J7 (s := s) (a := pL s m + 4) (n := 2) (w := w) hs (by omega)
        rw [j8,show n2 s (pL s m + 4) = x3 from hx3,show ((pL s m + 4 : Nat) : Int) = z by omega] at this
        exact this
       have C4 : Hid (∀ (z : Int) (w : World),z = 8 + 6 * (F : Int) + 8 * (N : Int) + 8 * (m : Int) + 6 -> Calls Tryz.prog 48 #[.string s,.int .i64 z,.int .i64 2] w fun e w' => e = .returned (.int .i64 (x4 : Int)) /\ w' = w) := fun z w hz => by
        have := J7 (s := s) (a := pL s m + 6) (n := 2) (w := w) hs (by omega)
        rw [j8,show n2 s (pL s m + 6) = x4 from hx4,show ((pL s m + 6 : Nat) : Int) = z by omega] at this
        exact this
       have HB0 : Hid (l0 s m = s[8 + 6 * F + 8 * N + 8 * m].toNat) := by show bt s _ = _;rw [hp];exact jbj (by omega)
       have HB1 : Hid (l1 s m = s[8 + 6 * F + 8 * N + 8 * m + 1].toNat) := by show bt s _ = _;rw [hp];exact jbj (by omega)
       have E6 : Hid (l2 s m = x2) := hx2
       have E7 : Hid (l3 s m = x3) := hx3
       have E8 : Hid (l4 s m = x4) := hx4
       have c0 := ja hblk 2 rfl
       have c0' : ∀ o,(wr.alloc o).cell? ⟨w.heap.size,2,none⟩ = some vL := jT hblk 2 rfl
       simp only [List.getElem_toArray,List.getElem_cons_zero,List.getElem_cons_succ] at c0
       have HBK : Hid (wr.heap[w.heap.size]? = some (prB v vN vL)) := hblk
       have HOL : Hid (wr.ownsRow W2.heap.size 60 5 vL m (ji (dL s) m)) := hown
       have HR3 : Hid (∀ b,b < W2.heap.size -> b ≠ w.heap.size -> wr.heap[b]? = W2.heap[b]?) := hrest
       obtain ⟨i2,hi2,hz4,hz5,hz6⟩ := info_parts Tryz.info60
       clear hx2 hx3 hx4 hblk hown hrest hp
       go_wp2_with (first
        | (go_at_call 48;refine (C2.out _ _ (by omega)).mono ?_;rintro _ w1 ⟨rfl,hw1⟩;have hw2 := hw1.symm;subst hw2)
        | (go_at_call 48;refine (C3.out _ _ (by omega)).mono ?_;rintro _ w1 ⟨rfl,hw1⟩;have hw2 := hw1.symm;subst hw2)
        | (go_at_call 48;refine (C4.out _ _ (by omega)).mono ?_;rintro _ w1 ⟨rfl,hw1⟩;have hw2 := hw1.symm;subst hw2))
       have y1 : IntKind.i64.wrap (8 + 6 * (F : Int) + 8 * (N : Int) + 8 * (m : Int) + 1) = 8 + 6 * (F : Int) + 8 * (N : Int) + 8 * (m : Int) + 1 := by rw [IntKind.wrap_i64];omega
       have z0 : 0 <= 8 + 6 * (F : Int) + 8 * (N : Int) + 8 * (m : Int) /\ 8 + 6 * (F : Int) + 8 * (N : Int) + 8 * (m : Int) < (s.size : Int) := by omega
       have z1 : 0 <= 8 + 6 * (F : Int) + 8 * (N : Int) + 8 * (m : Int) + 1 /\ 8 + 6 * (F : Int) + 8 * (N : Int) + 8 * (m : Int) + 1 < (s.size : Int) := by omega
       have t0 : (8 + 6 * (F : Int) + 8 * (N : Int) + 8 * (m : Int)).toNat = 8 + 6 * F + 8 * N + 8 * m := by omega
       have t1 : (8 + 6 * (F : Int) + 8 * (N : Int) + 8 * (m : Int) + 1).toNat = 8 + 6 * F + 8 * N + 8 * m + 1 := by omega
       have u0 : IntKind.i64.wrap (s[8 + 6 * F + 8 * N + 8 * m].toNat : Int) = (s[8 + 6 * F + 8 * N + 8 * m].toNat : Int) := by rw [IntKind.wrap_i64];have := UInt8.toNat_lt s[8 + 6 * F + 8 * N + 8 * m];omega
       have u1 : IntKind.i64.wrap (s[8 + 6 * F + 8 * N + 8 * m + 1].toNat : Int) = (s[8 + 6 * F + 8 * N + 8 * m + 1].toNat : Int) := by rw [IntKind.wrap_i64];have := UInt8.toNat_lt s[8 + 6 * F + 8 * N + 8 * m + 1];omega
       refine wp_region_any (by kernel_rfl) ?_
       change wpAny _ _ _ _ _ _ _ (World.drew _)
       refine wpAny_take (i := 0) (v := ?v101) rfl (by kernel_rfl) (by kernel_rfl) (by kernel_rfl) (fun _ _ _ h => h) (Or.inl ⟨by rfl,?hy101⟩) ?_
       case hy101 => (intro w;go_simp;all_goals with_reducible rfl)
       refine wpAny_take (i := 1) (v := ?v102) rfl (by kernel_rfl) (by kernel_rfl) (by kernel_rfl) (fun _ _ _ h => h) (Or.inl ⟨by rfl,?hy102⟩) ?_
       case hy102 => (intro w;go_simp;all_goals with_reducible rfl)
       refine wpAny_take (i := 2) (v := ?v103) rfl (by kernel_rfl) (by kernel_rfl) (by kernel_rfl) (fun _ _ _ h => h) (Or.inl ⟨by rfl,?hy103⟩) ?_
       case hy103 => (intro w;go_simp;all_goals with_reducible rfl)
       refine wpAny_take (i := 3) (v := ?v104) rfl (by kernel_rfl) (by kernel_rfl) (by kernel_rfl) (fun _ _ _ h => h) (Or.inl ⟨by rfl,?hy104⟩) ?_
       case hy104 => (intro w;go_simp;all_goals with_reducible rfl)
       refine wpAny_take (i := 5) (v := ?v105) rfl (by kernel_rfl) (by kernel_rfl) (by kernel_rfl) (fun _ _ _ h => h) (Or.inl ⟨by rfl,?hy105⟩) ?_
       case hy105 => (intro w;go_simp;all_goals with_reducible rfl)
       refine wpAny_take (i := 6) (v := ?v106) rfl (by kernel_rfl) (by kernel_rfl) (by kernel_rfl) (fun _ _ _ h => h) (Or.inl ⟨by rfl,?hy106⟩) ?_
       case hy106 => (intro w;go_simp;all_goals with_reducible rfl)
       refine wpAny_take (i := 7) (v := ?v107) rfl (by kernel_rfl) (by kernel_rfl) (by kernel_rfl) (fun _ _ _ h => h) (Or.inl ⟨by rfl,?hy107⟩) ?_
       case hy107 => (intro w;go_simp;all_goals with_reducible rfl)
       refine wpAny_take (i := 8) (v := ?v108) rfl (by kernel_rfl) (by kernel_rfl) (by kernel_rfl) (fun _ _ _ h => h) (Or.inl ⟨by rfl,?hy108⟩) ?_
       case hy108 => (intro w;go_simp;all_goals with_reducible rfl)
       refine wpAny_take (i := 9) (v := ?v109) rfl (by kernel_rfl) (by kernel_rfl) (by kernel_rfl) (fun _ _ _ h => h) (Or.inl ⟨by rfl,?hy109⟩) ?_
       case hy109 => (intro w;go_simp;all_goals with_reducible rfl)
       refine wpAny_take (i := 10) (v := ?v110) rfl (by kernel_rfl) (by kernel_rfl) (by kernel_rfl) (fun _ _ _ h => h) (Or.inl ⟨by rfl,?hy110⟩) ?_
       case hy110 => (intro w;go_simp;all_goals with_reducible rfl)
       refine wpAny_take (i := 11) (v := ?v111) rfl (by kernel_rfl) (by kernel_rfl) (by kernel_rfl) (fun _ _ _ h => h) (Or.inl ⟨by rfl,?hy111⟩) ?_
       case hy111 => (intro w;go_simp;all_goals with_reducible rfl)
       refine wpAny_take (i := 12) (v := ?v112) rfl (by kernel_rfl) (by kernel_rfl) (by kernel_rfl) (fun _ _ _ h => h) (Or.inl ⟨by rfl,?hy112⟩) ?_
       case hy112 => (intro w;go_simp;all_goals with_reducible rfl)
       refine wpAny_take (i := 13) (v := ?v113) rfl (by kernel_rfl) (by kernel_rfl) (by kernel_rfl) (fun _ _ _ h => h) (Or.inl ⟨by rfl,?hy113⟩) ?_
       case hy113 => (intro w;go_simp;all_goals with_reducible rfl)
       refine wpAny_take (i := 14) (v := ?v114) rfl (by kernel_rfl) (by kernel_rfl) (by kernel_rfl) (fun _ _ _ h => h) (Or.inl ⟨by rfl,?hy114⟩) ?_
       case hy114 => (intro w;go_simp;all_goals with_reducible rfl)
       refine wpAny_take (i := 15) (v := ?v115) rfl (by kernel_rfl) (by kernel_rfl) (by kernel_rfl) (fun _ _ _ h => h) (Or.inl ⟨by rfl,?hy115⟩) ?_
       case hy115 => (intro w;go_simp;all_goals with_reducible rfl)
       refine wpAny_take (i := 16) (v := ?v116) rfl (by kernel_rfl) (by kernel_rfl) (by kernel_rfl) (fun _ _ _ h => h) (Or.inl ⟨by rfl,?hy116⟩) ?_
       case hy116 => (intro w;go_simp;all_goals with_reducible rfl)
       refine wpAny_take (i := 17) (v := ?v117) rfl (by kernel_rfl) (by kernel_rfl) (by kernel_rfl) (fun _ _ _ h => h) (Or.inl ⟨by rfl,?hy117⟩) ?_
       case hy117 => (intro w;go_simp;all_goals with_reducible rfl)
       refine wpAny_ready (rs := [4,18]) (by kernel_rfl) (by simp) ?_
       refine AllReady.cons rfl (fun K hK => ?A118) ?B118
       case' A118 =>
        go_simp
        refine hK _ _ ?_
        clear hK K
        refine wpAny_ready (rs := [18]) (by kernel_rfl) (by simp) ?_
        refine AllReady.cons rfl (fun K hK => ?_) AllReady.nil
        go_simp
        refine hK _ _ ?_
        clear hK K
        refine wpAny_ready (rs := [19]) (by kernel_rfl) (by simp) ?_
        refine AllReady.cons rfl (fun K hK => ?_) AllReady.nil
        (refine step_append_lies _ (by rfl) (.tmp 147) (.tmp 161) 62 (by rfl) W2.heap.size 60 i2 _ 5 40 Tryz.und62 hi2 hz4 hz5 hz6 rfl (by decide) vL m (ji (dL s) m) (by rfl) (HOL.out.alloc _) ⟨wr.heap.size,0,none⟩ 1 1 [.int .i64 _,.int .i64 _,.int .i64 x2,.int .i64 x3,.int .i64 x4] (by rfl) (by rfl) (Ja _ _ _ _ (by simp)) (by intro u hu;simp at hu;rcases hu with rfl | rfl | rfl | rfl | rfl <;> rfl) (by decide) (by unfold maxLen;omega) (by omega) (by simp;omega) _ rfl ?_;intro g c w1 hown1 hgrow hat hlt1;obtain ⟨hh1,hs1,hb1⟩ := jan HOL.out ((jB.alloc jN _).drew) (by omega) hgrow;have hblk1 := (hh1 w.heap.size (by omega) (fun h => by have := (HOL.out.lt _ h).1;omega)).trans HBK.out;have d0 := ja hblk1 2 rfl;have q0 := je hblk1 2;simp only [List.getElem_toArray,List.getElem_cons_zero,List.getElem_cons_succ] at d0)
        refine hK _ _ ?_
        clear hK K
        refine wpAny_take (i := 20) (v := ?v119) rfl (by kernel_rfl) (by kernel_rfl) (by kernel_rfl) (fun _ _ _ h => h) (Or.inl ⟨by rfl,?hy119⟩) ?_
        case hy119 => (intro w;go_simp;all_goals with_reducible rfl)
        refine wpAny_take (i := 21) (v := ?v120) rfl (by kernel_rfl) (by kernel_rfl) (by kernel_rfl) (fun _ _ _ h => h) (Or.inl ⟨by rfl,?hy120⟩) ?_
        case hy120 => (intro w;go_simp;all_goals with_reducible rfl)
        refine wpAny_ready (rs := [22]) (by kernel_rfl) (by simp) ?_
        refine AllReady.cons rfl (fun K hK => ?_) AllReady.nil
        go_simp
        refine hK _ _ ?_
        clear hK K
        refine wpAny_done (by kernel_rfl) ?_ _
       case' B118 =>
        refine AllReady.cons rfl (fun K hK => ?_) AllReady.nil
        go_simp
        refine hK _ _ ?_
        clear hK K
        refine wpAny_ready (rs := [4]) (by kernel_rfl) (by simp) ?_
        refine AllReady.cons rfl (fun K hK => ?_) AllReady.nil
        go_simp
        refine hK _ _ ?_
        clear hK K
        refine wpAny_ready (rs := [19]) (by kernel_rfl) (by simp) ?_
        refine AllReady.cons rfl (fun K hK => ?_) AllReady.nil
        (refine step_append_lies _ (by rfl) (.tmp 147) (.tmp 161) 62 (by rfl) W2.heap.size 60 i2 _ 5 40 Tryz.und62 hi2 hz4 hz5 hz6 rfl (by decide) vL m (ji (dL s) m) (by rfl) (HOL.out.alloc _) ⟨wr.heap.size,0,none⟩ 1 1 [.int .i64 _,.int .i64 _,.int .i64 x2,.int .i64 x3,.int .i64 x4] (by rfl) (by rfl) (Ja _ _ _ _ (by simp)) (by intro u hu;simp at hu;rcases hu with rfl | rfl | rfl | rfl | rfl <;> rfl) (by decide) (by unfold maxLen;omega) (by omega) (by simp;omega) _ rfl ?_;intro g c w1 hown1 hgrow hat hlt1;obtain ⟨hh1,hs1,hb1⟩ := jan HOL.out ((jB.alloc jN _).drew) (by omega) hgrow;have hblk1 := (hh1 w.heap.size (by omega) (fun h => by have := (HOL.out.lt _ h).1;omega)).trans HBK.out;have d0 := ja hblk1 2 rfl;have q0 := je hblk1 2;simp only [List.getElem_toArray,List.getElem_cons_zero,List.getElem_cons_succ] at d0)
        refine hK _ _ ?_
        clear hK K
        refine wpAny_take (i := 20) (v := ?v121) rfl (by kernel_rfl) (by kernel_rfl) (by kernel_rfl) (fun _ _ _ h => h) (Or.inl ⟨by rfl,?hy121⟩) ?_
        case hy121 => (intro w;go_simp;all_goals with_reducible rfl)
        refine wpAny_take (i := 21) (v := ?v122) rfl (by kernel_rfl) (by kernel_rfl) (by kernel_rfl) (fun _ _ _ h => h) (Or.inl ⟨by rfl,?hy122⟩) ?_
        case hy122 => (intro w;go_simp;all_goals with_reducible rfl)
        refine wpAny_ready (rs := [22]) (by kernel_rfl) (by simp) ?_
        refine AllReady.cons rfl (fun K hK => ?_) AllReady.nil
        go_simp
        refine hK _ _ ?_
        clear hK K
        refine wpAny_done (by kernel_rfl) ?_ _
       all_goals
        rename_i Q' K hK
        refine hK _ _ ?_
        clear hK
        clear K
        rw [<- HB0.out,<- HB1.out] at hown1
        have hblk2 := jf hblk1 2 (.slice (some ⟨g,0,none⟩) (m + 1) c)
        have hown2 := ownsRow_setCell_below (a := ⟨w.heap.size,2,none⟩) hown1 (by show w.heap.size < _;omega) (.slice (some ⟨g,0,none⟩) (m + 1) c)
        go_wp2_with fail
        go_roundw
        case rel =>
         refine ⟨m + 1,.slice (some ⟨g,0,none⟩) (m + 1) c,by omega,by go_num,by go_num,hblk2,?_,fun b hb hbp => ?_,?_,by rw [jy];omega⟩
         ·have : ji (dL s) (m + 1) = ji (dL s) m ++ [.int .i64 (l0 s m),.int .i64 (l1 s m),.int .i64 x2,.int .i64 x3,.int .i64 x4] := by rw [<- E6.out,<- E7.out,<- E8.out];rfl
          rw [this]
          exact hown2
         ·rw [Below.heap_setCell _ _ _ _ hbp,hh1 b (by omega) (fun h => by have := (HOL.out.lt _ h).1;omega)]
          exact HR3.out b hb hbp
         ·exact (hbz.trans (hb1.mono (by omega))).setCell (p := ⟨w.heap.size,2,none⟩) jN _
        case measure => simp [intOf];omega
      ·rw [show m = L by omega] at hown
       have HBK : Hid (wr.heap[w.heap.size]? = some (prB v vN vL)) := hblk
       have HOL : Hid (wr.ownsRow W2.heap.size 60 5 vL L (ji (dL s) L)) := hown
       have HR3 : Hid (∀ b,b < W2.heap.size -> b ≠ w.heap.size -> wr.heap[b]? = W2.heap[b]?) := hrest
       clear hblk hown hrest
       go_wp2_with fail
       go_ret3
       refine .inr ⟨jef hs HD.out (by rw [E1.out,HR1.out];exact HN1.out) (by rw [E2.out,HR2.out];exact HN2.out),w.heap.size,v,vN,vL,rfl,jN,⟨HBK.out,?_,?_,?_⟩,hbz⟩
       ·rw [E1.out]
        refine j3 HFU.out fun b hb => ?_
        have := HFU.out.lt b hb
        rw [HR3.out b (by omega) (by omega),HRS.out b (by omega) (by omega)]
       ·rw [E2.out]
        refine j3 (Js HNU.out (by omega)) fun b hb => ?_
        have := HNU.out.lt b hb
        rw [HR3.out b (by omega) (by omega)]
       ·rw [E3.out]
        exact Js HOL.out (by omega)
theorem jhG {er at' : Nat} (hs : s.size <= 1073741824) (h : res s = some (er,at')) :
 Calls Tryz.prog 24 #[.string s] w fun e w' => e = .returned (.tuple #[.pointer none,.int .i64 er,.int .i64 at']) /\ Below w.heap.size w w' := by
 by_cases hh : 600000 < s.size \/ hdB s = false
 ·refine (jhD hs hh).mono ?_
  rintro e w' ⟨er',at'',h1,rfl,h2⟩
  rw [h] at h1
  injection h1 with h1
  injection h1 with h3 h4
  subst h3 h4
  exact ⟨rfl,h2⟩
 ·have h1 : ¬ 600000 < s.size := fun h => hh (.inl h)
  have h2 : hdB s = true := by
   cases hd : hdB s with
   | true => rfl
   | false => exact absurd (.inr hd) hh
  refine (jen (by omega) h2).mono ?_
  rintro e w' (⟨er',at'',h1,rfl,h2⟩ | ⟨h1,_⟩)
  ·rw [h] at h1
   injection h1 with h1
   injection h1 with h3 h4
   subst h3 h4
   exact ⟨rfl,h2⟩
  ·rw [h] at h1;cases h1
theorem jem (h : res s = none) :
 Calls Tryz.prog 24 #[.string s] w fun e w' => ∃ p vF vN vL,e = .returned (.tuple #[.pointer (some ⟨p,0,none⟩),.int .i64 0,.int .i64 0]) /\ w.heap.size <= p /\ J1 s w' p vF vN vL /\ Below w.heap.size w w' := by
 have h1 : ¬ 600000 < s.size := fun hl => by rw [jc2 hl] at h;cases h
 have h2 : hdB s = true := by
  cases hd : hdB s with
  | true => rfl
  | false => rw [jc3 (by omega) hd] at h;cases h
 refine (jen (by omega) h2).mono ?_
 rintro e w' (⟨er',at'',h1,_⟩ | ⟨_,h1⟩)
 ·rw [h] at h1;cases h1
 ·exact h1
end Go.Proofs.YtjmgolahkgalbaaGreatDoor
