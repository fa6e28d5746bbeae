import Derived.Test.YtmkdoejpgkgpbaaGreatDoorS10
set_option linter.unusedVariables false
set_option linter.unusedSimpArgs false
set_option maxHeartbeats 20000000
namespace Go.Proofs.YtmkdoejpgkgpbaaGreatDoor
namespace Sl
def hk : List Tok -> Nat
 | [] => 0
 | t :: _ => t.k
def fol (q h : Nat) : Prop := (q <= 6 -> h ≠ 18) /\ (q <= 5 -> isOpd h = false) /\ (q <= 3 -> isPro h = false) /\ (q <= 2 -> isSum h = false) /\ (q <= 1 -> isCmp h = false) /\ (q <= 0 -> h ≠ 26)
theorem fol.mono {q q' h : Nat} (hf : fol q h) (hq : q <= q') : fol q' h :=
 ⟨fun x => hf.1 (by omega),fun x => hf.2.1 (by omega),fun x => hf.2.2.1 (by omega),fun x => hf.2.2.2.1 (by omega),fun x => hf.2.2.2.2.1 (by omega),fun x => hf.2.2.2.2.2 (by omega)⟩
structure Cm (N : Nat) (c : T) (l r : List Tok) (o : Nat) : Prop where
 a7 : 7 <= rkT c -> Jb N .atom l o (.ok (.tr c) r o)
 a6 : 6 <= rkT c -> ∀ res,Jb N (.index c) r o res -> Jb N .operand l o res
 a5 : 5 <= rkT c -> fol 5 (hk r) -> Jb N .call l o (.ok (.tr c) r o)
 a4 : 4 <= rkT c -> fol 4 (hk r) -> Jb N .sign l o (.ok (.tr c) r o)
 a3 : 3 <= rkT c -> fol 4 (hk r) -> ∀ res,Jb N (.facs c) r o res -> Jb N .prod l o res
 a2 : 2 <= rkT c -> fol 3 (hk r) -> ∀ res,Jb N (.terms c) r o res -> Jb N .sum l o res
 a1 : 1 <= rkT c -> fol 1 (hk r) -> Jb N .cmp l o (.ok (.tr c) r o)
 a0 : fol 0 (hk r) -> Jb N .expr l o (.ok (.tr c) r o)
structure Fst (c : T) (h : Nat) : Prop where
 f1 : 1 <= rkT c -> h ≠ 3 /\ h ≠ 6 /\ h ≠ 9
 f5 : 5 <= rkT c -> h ≠ 31 /\ h ≠ 10
 f6 : 6 <= rkT c -> h ≠ 14 /\ h ≠ 15 /\ h ≠ 16 /\ h ≠ 17
section
variable {N : Nat} {c : T} {t t0 : Tok} {l r0 : List Tok} {o : Nat}
theorem idx_out (h : t0.k ≠ 18) : Jb N (.index c) (t0 :: r0) o (.ok (.tr c) (t0 :: r0) o) :=
 Jb.out (by simp only [expand];rw [if_neg h]) (Sq.nil _ _) rfl
theorem fac_out (h : isPro t0.k = false) : Jb N (.facs c) (t0 :: r0) o (.ok (.tr c) (t0 :: r0) o) :=
 Jb.out (by simp only [expand];rw [if_neg (by simp [h])]) (Sq.nil _ _) rfl
theorem ter_out (h : isSum t0.k = false) : Jb N (.terms c) (t0 :: r0) o (.ok (.tr c) (t0 :: r0) o) :=
 Jb.out (by simp only [expand];rw [if_neg (by simp [h])]) (Sq.nil _ _) rfl
theorem cmp_out (h : isCmp t0.k = false) : Jb N (.cmpd c) (t0 :: r0) o (.ok (.tr c) (t0 :: r0) o) :=
 Jb.out (by simp only [expand];rw [if_neg (by simp [h])]) (Sq.nil _ _) rfl
theorem rest_out (h : t0.k ≠ 26) : Jb N (.rest c) (t0 :: r0) o (.ok (.tr c) (t0 :: r0) o) :=
 Jb.out (by simp only [expand];rw [if_neg h]) (Sq.nil _ _) rfl
theorem args_out {m : Nat} {az : List T} (h : isOpd t0.k = false \/ m = 0) : Jb N (.args m az) (t0 :: r0) o (.ok (.tr (argsT az)) (t0 :: r0) o) :=
 Jb.out (by simp only [expand];rw [if_neg (by rcases h with h | h <;> simp [h])]) (Sq.nil _ _) rfl
theorem up76 {r : List Tok} (h : Jb N .atom (t :: l) o (.ok (.tr c) r o)) : ∀ res,Jb N (.index c) r o res -> Jb N .operand (t :: l) o res :=
 fun res hr => Jb.go rfl (Sq.jb h (Sq.nil _ _)) rfl hr
theorem up65 (hf : t.k ≠ 14 /\ t.k ≠ 15 /\ t.k ≠ 16 /\ t.k ≠ 17) (h : ∀ res,Jb N (.index c) (t0 :: r0) o res -> Jb N .operand (t :: l) o res) (h18 : t0.k ≠ 18) (ho : isOpd t0.k = false) :
 Jb N .call (t :: l) o (.ok (.tr c) (t0 :: r0) o) :=
 Jb.go (by simp only [expand];rw [if_neg hf.1,if_neg hf.2.1,if_neg hf.2.2.1,if_neg hf.2.2.2]) (Sq.jb (h _ (idx_out h18)) (Sq.nil _ _)) rfl (args_out (.inl ho))
theorem up54 {r : List Tok} (hf : t.k ≠ 31 /\ t.k ≠ 10) (h : Jb N .call (t :: l) o (.ok (.tr c) r o)) : Jb N .sign (t :: l) o (.ok (.tr c) r o) :=
 Jb.out (by simp only [expand];rw [if_neg hf.1,if_neg hf.2]) (Sq.jb h (Sq.nil _ _)) rfl
theorem up43 {r : List Tok} (h : Jb N .sign (t :: l) o (.ok (.tr c) r o)) : ∀ res,Jb N (.facs c) r o res -> Jb N .prod (t :: l) o res :=
 fun res hr => Jb.go rfl (Sq.jb h (Sq.nil _ _)) rfl hr
theorem up32 (h : ∀ res,Jb N (.facs c) (t0 :: r0) o res -> Jb N .prod (t :: l) o res) (hp : isPro t0.k = false) : ∀ res,Jb N (.terms c) (t0 :: r0) o res -> Jb N .sum (t :: l) o res :=
 fun res hr => Jb.go rfl (Sq.jb (h _ (fac_out hp)) (Sq.nil _ _)) rfl hr
theorem up21 (h : ∀ res,Jb N (.terms c) (t0 :: r0) o res -> Jb N .sum (t :: l) o res) (hs : isSum t0.k = false) (hc : isCmp t0.k = false) : Jb N .cmp (t :: l) o (.ok (.tr c) (t0 :: r0) o) :=
 Jb.go rfl (Sq.jb (h _ (ter_out hs)) (Sq.nil _ _)) rfl (cmp_out hc)
theorem up10 (hf : t.k ≠ 3 /\ t.k ≠ 6 /\ t.k ≠ 9) (h : Jb N .cmp (t :: l) o (.ok (.tr c) (t0 :: r0) o)) (h26 : t0.k ≠ 26) : Jb N .expr (t :: l) o (.ok (.tr c) (t0 :: r0) o) :=
 Jb.go (by simp only [expand];rw [if_neg hf.1,if_neg hf.2.1,if_neg hf.2.2]) (Sq.jb h (Sq.nil _ _)) rfl (rest_out h26)
theorem cm0 (hr : rkT c <= 0) (h : fol 0 t0.k -> Jb N .expr (t :: l) o (.ok (.tr c) (t0 :: r0) o)) : Cm N c (t :: l) (t0 :: r0) o :=
 ⟨fun x => by omega,fun x => by omega,fun x => by omega,fun x => by omega,fun x => by omega,fun x => by omega,fun x => by omega,h⟩
theorem cm1 (hf : Fst c t.k) (hr : rkT c <= 1) (h : fol 1 t0.k -> Jb N .cmp (t :: l) o (.ok (.tr c) (t0 :: r0) o)) (h1 : 1 <= rkT c) : Cm N c (t :: l) (t0 :: r0) o :=
 ⟨fun x => by omega,fun x => by omega,fun x => by omega,fun x => by omega,fun x => by omega,fun x => by omega,fun _ => h,fun x => up10 (hf.f1 h1) (h (x.mono (by omega))) (x.2.2.2.2.2 (by omega))⟩
theorem cm2 (hf : Fst c t.k) (hr : rkT c <= 2) (h2 : 2 <= rkT c) (h : fol 3 t0.k -> ∀ res,Jb N (.terms c) (t0 :: r0) o res -> Jb N .sum (t :: l) o res) : Cm N c (t :: l) (t0 :: r0) o := by
 have k1 : fol 1 t0.k -> Jb N .cmp (t :: l) o (.ok (.tr c) (t0 :: r0) o) := fun x => up21 (h (x.mono (by omega))) (x.2.2.2.1 (by omega)) (x.2.2.2.2.1 (by omega))
 exact ⟨fun x => by omega,fun x => by omega,fun x => by omega,fun x => by omega,fun x => by omega,fun _ => h,fun _ => k1,fun x => up10 (hf.f1 (by omega)) (k1 (x.mono (by omega))) (x.2.2.2.2.2 (by omega))⟩
theorem cm3 (hf : Fst c t.k) (hr : rkT c <= 3) (h3 : 3 <= rkT c) (h : fol 4 t0.k -> ∀ res,Jb N (.facs c) (t0 :: r0) o res -> Jb N .prod (t :: l) o res) : Cm N c (t :: l) (t0 :: r0) o := by
 have k2 : fol 3 t0.k -> ∀ res,Jb N (.terms c) (t0 :: r0) o res -> Jb N .sum (t :: l) o res := fun x => up32 (h (x.mono (by omega))) (x.2.2.1 (by omega))
 have k1 : fol 1 t0.k -> Jb N .cmp (t :: l) o (.ok (.tr c) (t0 :: r0) o) := fun x => up21 (k2 (x.mono (by omega))) (x.2.2.2.1 (by omega)) (x.2.2.2.2.1 (by omega))
 exact ⟨fun x => by omega,fun x => by omega,fun x => by omega,fun x => by omega,fun _ => h,fun _ => k2,fun _ => k1,fun x => up10 (hf.f1 (by omega)) (k1 (x.mono (by omega))) (x.2.2.2.2.2 (by omega))⟩
theorem cm4 (hf : Fst c t.k) (hr : rkT c <= 4) (h4 : 4 <= rkT c) (h : fol 4 t0.k -> Jb N .sign (t :: l) o (.ok (.tr c) (t0 :: r0) o)) : Cm N c (t :: l) (t0 :: r0) o := by
 have k3 : fol 4 t0.k -> ∀ res,Jb N (.facs c) (t0 :: r0) o res -> Jb N .prod (t :: l) o res := fun x => up43 (h x)
 have k2 : fol 3 t0.k -> ∀ res,Jb N (.terms c) (t0 :: r0) o res -> Jb N .sum (t :: l) o res := fun x => up32 (k3 (x.mono (by omega))) (x.2.2.1 (by omega))
 have k1 : fol 1 t0.k -> Jb N .cmp (t :: l) o (.ok (.tr c) (t0 :: r0) o) := fun x => up21 (k2 (x.mono (by omega))) (x.2.2.2.1 (by omega)) (x.2.2.2.2.1 (by omega))
 exact ⟨fun x => by omega,fun x => by omega,fun x => by omega,fun _ => h,fun _ => k3,fun _ => k2,fun _ => k1,fun x => up10 (hf.f1 (by omega)) (k1 (x.mono (by omega))) (x.2.2.2.2.2 (by omega))⟩
theorem cm5 (hf : Fst c t.k) (hr : rkT c <= 5) (h5 : 5 <= rkT c) (h : fol 5 t0.k -> Jb N .call (t :: l) o (.ok (.tr c) (t0 :: r0) o)) : Cm N c (t :: l) (t0 :: r0) o := by
 have k4 : fol 4 t0.k -> Jb N .sign (t :: l) o (.ok (.tr c) (t0 :: r0) o) := fun x => up54 (hf.f5 (by omega)) (h (x.mono (by omega)))
 have k3 : fol 4 t0.k -> ∀ res,Jb N (.facs c) (t0 :: r0) o res -> Jb N .prod (t :: l) o res := fun x => up43 (k4 x)
 have k2 : fol 3 t0.k -> ∀ res,Jb N (.terms c) (t0 :: r0) o res -> Jb N .sum (t :: l) o res := fun x => up32 (k3 (x.mono (by omega))) (x.2.2.1 (by omega))
 have k1 : fol 1 t0.k -> Jb N .cmp (t :: l) o (.ok (.tr c) (t0 :: r0) o) := fun x => up21 (k2 (x.mono (by omega))) (x.2.2.2.1 (by omega)) (x.2.2.2.2.1 (by omega))
 exact ⟨fun x => by omega,fun x => by omega,fun _ => h,fun _ => k4,fun _ => k3,fun _ => k2,fun _ => k1,fun x => up10 (hf.f1 (by omega)) (k1 (x.mono (by omega))) (x.2.2.2.2.2 (by omega))⟩
theorem cm6 (hf : Fst c t.k) (h6 : 6 <= rkT c) (h7 : 7 <= rkT c -> Jb N .atom (t :: l) o (.ok (.tr c) (t0 :: r0) o)) (h : ∀ res,Jb N (.index c) (t0 :: r0) o res -> Jb N .operand (t :: l) o res) : Cm N c (t :: l) (t0 :: r0) o := by
 have k5 : fol 5 t0.k -> Jb N .call (t :: l) o (.ok (.tr c) (t0 :: r0) o) := fun x => up65 (hf.f6 h6) h (x.1 (by omega)) (x.2.1 (by omega))
 have k4 : fol 4 t0.k -> Jb N .sign (t :: l) o (.ok (.tr c) (t0 :: r0) o) := fun x => up54 (hf.f5 (by omega)) (k5 (x.mono (by omega)))
 have k3 : fol 4 t0.k -> ∀ res,Jb N (.facs c) (t0 :: r0) o res -> Jb N .prod (t :: l) o res := fun x => up43 (k4 x)
 have k2 : fol 3 t0.k -> ∀ res,Jb N (.terms c) (t0 :: r0) o res -> Jb N .sum (t :: l) o res := fun x => up32 (k3 (x.mono (by omega))) (x.2.2.1 (by omega))
 have k1 : fol 1 t0.k -> Jb N .cmp (t :: l) o (.ok (.tr c) (t0 :: r0) o) := fun x => up21 (k2 (x.mono (by omega))) (x.2.2.2.1 (by omega)) (x.2.2.2.2.1 (by omega))
 exact ⟨h7,fun _ => h,fun _ => k5,fun _ => k4,fun _ => k3,fun _ => k2,fun _ => k1,fun x => up10 (hf.f1 (by omega)) (k1 (x.mono (by omega))) (x.2.2.2.2.2 (by omega))⟩
theorem cm7 (hf : Fst c t.k) (h7 : 7 <= rkT c) (h : Jb N .atom (t :: l) o (.ok (.tr c) (t0 :: r0) o)) : Cm N c (t :: l) (t0 :: r0) o :=
 cm6 hf (by omega) (fun _ => h) (up76 h)
end
end Sl
end Go.Proofs.YtmkdoejpgkgpbaaGreatDoor
namespace Go.Proofs.YtmkdoejpgkgpbaaGreatDoor
namespace Sl
theorem pre_first {k s n m : Nat} {xs : List ByteArray} {x : Tk} {q : List Tk} (ha : arB k s xs m = true) (hp : pre k s n xs = x :: q) :
 (1 <= rk k -> x.k ≠ 3 /\ x.k ≠ 6 /\ x.k ≠ 9) /\ (5 <= rk k -> x.k ≠ 31 /\ x.k ≠ 10) /\ (6 <= rk k -> x.k ≠ 14 /\ x.k ≠ 15 /\ x.k ≠ 16 /\ x.k ≠ 17) := by
 unfold arB at ha
 unfold pre at hp
 split at ha <;> first
  | (simp at hp;done)
  | (simp at ha;done)
  | (simp at hp;rw [<- hp.1];simp [rk,Tk.of,nuTk];done)
  | (cases xs with
   | nil => simp at ha
   | cons y z => simp at hp;rw [<- hp.1];simp [nmTk];done)
  | (cases xs with
   | nil => simp at ha
   | cons y z => cases z with
     | nil => simp [commas] at hp;rw [<- hp.1];simp [nmTk]
     | cons y2 z => simp [commas] at hp;rw [<- hp.1];simp [nmTk])
theorem wanted0 {k s n m : Nat} {xs : List ByteArray} (ha : arB k s xs m = true) (hp : pre k s n xs = []) : k = 7 \/ ((1 <= rk k -> 1 <= wanted k 0) /\ (5 <= rk k -> 5 <= wanted k 0) /\ (6 <= rk k -> 6 <= wanted k 0)) := by
 unfold arB at ha
 unfold pre at hp
 split at ha <;> first
  | (simp at hp;done)
  | (simp at ha;done)
  | (left;rfl)
  | (right;simp [rk,wanted];done)
  | (cases xs with
   | nil => simp at ha
   | cons y z => simp at hp;done)
  | (cases xs with
   | nil => simp at ha
   | cons y z => cases z <;> simp [commas] at hp)
theorem fst_of : ∀ (n : Nat) (c : T),SizeOf.sizeOf c <= n -> wf c -> ∀ x q,fl c = x :: q -> Fst c x.k := by
 intro n
 induction n with
 | zero => intro c h;cases c;simp at h
 | succ n ih =>
   intro c hs hw x q he
   cases c with
   | nd b k s m xs kids =>
     rw [wf] at hw
     cases b with
     | succ b =>
       rw [fl_eq,List.replicate_succ,List.cons_append] at he
       injection he with e1 _
       subst e1
       exact ⟨fun _ => by decide,fun _ => by decide,fun _ => by decide⟩
     | zero =>
       have hr : rkT (.nd 0 k s m xs kids) = rk k := by rw [rkT,if_neg (by omega)]
       rw [fl_eq] at he
       simp only [List.replicate_zero,List.nil_append,List.append_nil] at he
       cases hp : pre k s m xs with
       | cons y z =>
         unfold bod at he
         rw [hp,List.cons_append] at he
         injection he with e1 _
         subst e1
         have := pre_first hw.1 hp
         exact ⟨fun h => this.1 (by omega),fun h => this.2.1 (by omega),fun h => this.2.2 (by omega)⟩
       | nil =>
         have h2 := two_kids (n := m) hw.1 hp
         rcases wanted0 (n := m) hw.1 hp with h7 | hwt
         ·have := hw.2.1 h7;omega
         ·cases kids with
          | nil => simp at h2
          | cons c0 rest =>
            have hk := hw.2.2.2
            rw [wfs] at hk
            have hf0 := wf_fine c0 hk.1
            have hb := fl_bal c0 hf0
            cases hc0 : fl c0 with
            | nil => exact absurd hc0 hb.ne
            | cons y z =>
              have h0 := ih c0 (by simp at hs;omega) hk.1 y z hc0
              unfold bod at he
              rw [hp,flk,hc0] at he
              simp only [sep,List.nil_append,List.cons_append] at he
              injection he with e1 _
              subst e1
              exact ⟨fun h => h0.f1 (by have := hwt.1 (by omega);have := hk.2.1;omega),fun h => h0.f5 (by have := hwt.2.1 (by omega);have := hk.2.1;omega),fun h => h0.f6 (by have := hwt.2.2 (by omega);have := hk.2.1;omega)⟩
mutual
def can : T -> Prop
 | .nd _ k s n _ kids => (k = 15 \/ k = 16 \/ k = 17 \/ s = 0) /\ (k = 1 \/ n = 0) /\ cans kids
def cans : List T -> Prop
 | [] => True
 | c :: r => can c /\ cans r
end
def opc : List Tk -> Nat
 | [] => 0
 | t :: r => (if isO t || isX t then 1 else 0) + opc r
theorem opc_app (a b : List Tk) : opc (a ++ b) = opc a + opc b := by
 induction a with
 | nil => simp [opc]
 | cons t r ih => rw [List.cons_append,opc,opc,ih];omega
theorem map_app {u : List Tok} {A B : List Tk} (h : u.map Tok.tk = A ++ B) : ∃ a b,u = a ++ b /\ a.map Tok.tk = A /\ b.map Tok.tk = B := by
 obtain ⟨a,b,h1,h2,h3⟩ := List.map_eq_append_iff.1 h
 exact ⟨a,b,h1,h2,h3⟩
theorem map_cons {u : List Tok} {x : Tk} {B : List Tk} (h : u.map Tok.tk = x :: B) : ∃ t b,u = t :: b /\ t.tk = x /\ b.map Tok.tk = B := by
 obtain ⟨t,b,h1,h2,h3⟩ := List.map_eq_cons_iff.1 h
 exact ⟨t,b,h1,h2,h3⟩
theorem tk_k (t : Tok) : t.tk.k = t.k := rfl
theorem kind_of {t : Tok} {k : Nat} (h : t.tk = Tk.of k) : t.k = k := by rw [<- tk_k,h];rfl
theorem name_of {t : Tok} {x : ByteArray} (h : t.tk = nmTk x) : t.k = 2 /\ t.t = x := by
 have h1 : t.k = 2 := by rw [<- tk_k,h];rfl
 refine ⟨h1,?_⟩
 rw [tk_name h1] at h
 injection h
theorem params_all {N : Nat} {o : Nat} {t0 : Tok} {r0 : List Tok} (h0 : t0.k ≠ 2) : ∀ (zs : List ByteArray) (u : List Tok) (m : Nat) (xs : List ByteArray),u.map Tok.tk = zs.map nmTk -> zs.length <= m -> Jb N (.params m xs) (u ++ t0 :: r0) o (.ok (.nm (xs ++ zs)) (t0 :: r0) o)
 | [],u,m,xs,hu,_ => by
   have : u = [] := by simpa using hu
   subst this
   simp only [List.append_nil,List.nil_append]
   exact Jb.out (by simp only [expand];rw [if_neg (by omega)]) (Sq.nil _ _) rfl
 | z :: zs,u,m,xs,hu,hm => by
   rw [List.map_cons] at hu
   obtain ⟨t,b,rfl,ht,hb⟩ := map_cons hu
   obtain ⟨hk,hx⟩ := name_of ht
   have h := params_all (N := N) (o := o) (r0 := r0) h0 zs b (m - 1) (xs ++ [z]) hb (by simp at hm;omega)
   rw [List.append_assoc,List.singleton_append] at h
   rw [List.cons_append]
   refine Jb.go (by simp only [expand];rw [if_pos ⟨hk,by simp at hm;omega⟩]) (Sq.tm hk (Sq.nil _ _)) rfl ?_
   rw [hx];exact h
theorem names_all {N : Nat} {o : Nat} {t0 : Tok} {r0 : List Tok} (h0 : t0.k ≠ 25) : ∀ (zs : List ByteArray) (u : List Tok) (m : Nat) (xs : List ByteArray),u.map Tok.tk = zs.flatMap (fun z => [Tk.of 25,nmTk z]) -> zs.length <= m -> Jb N (.names m xs) (u ++ t0 :: r0) o (.ok (.nm (xs ++ zs)) (t0 :: r0) o)
 | [],u,m,xs,hu,_ => by
   have : u = [] := by simpa using hu
   subst this
   simp only [List.append_nil,List.nil_append]
   exact Jb.out (by simp only [expand];rw [if_neg (by omega)]) (Sq.nil _ _) rfl
 | z :: zs,u,m,xs,hu,hm => by
   rw [List.flatMap_cons] at hu
   obtain ⟨t,b,rfl,ht,hb⟩ := map_cons hu
   obtain ⟨t1,b1,rfl,ht1,hb1⟩ := map_cons hb
   have hk := kind_of ht
   obtain ⟨hk1,hx⟩ := name_of ht1
   have h := names_all (N := N) (o := o) (r0 := r0) h0 zs b1 (m - 1) (xs ++ [z]) (by simpa using hb1) (by simp at hm;omega)
   rw [List.append_assoc,List.singleton_append] at h
   rw [List.cons_append,List.cons_append]
   refine Jb.go (by simp only [expand];rw [if_pos ⟨hk,by simp at hm;omega⟩]) (Sq.tm hk (Sq.tm hk1 (Sq.nil _ _))) rfl ?_
   rw [hx];exact h
def Cms (N : Nat) : List T -> Prop
 | [] => True
 | c :: r => (∀ u r o,u.map Tok.tk = fl c -> r ≠ [] -> o + opc (fl c) <= N -> Cm N c (u ++ r) r o) /\ Cms N r
theorem opd_first {c : T} (hw : wf c) (h6 : 6 <= rkT c) (h25 : c.k ≠ 25) {x : Tk} {q : List Tk} (he : fl c = x :: q) : isOpd x.k = true := by
 have : ∀ (n : Nat) (c : T),SizeOf.sizeOf c <= n -> wf c -> 6 <= rkT c -> ∀ x q,fl c = x :: q -> isOpd x.k = true := by
  intro n
  induction n with
  | zero => intro c h;cases c;simp at h
  | succ n ih =>
    intro c hs hw h6 x q he
    cases c with
    | nd b k s m xs kids =>
      rw [wf] at hw
      cases b with
      | succ b =>
        rw [fl_eq,List.replicate_succ,List.cons_append] at he
        injection he with e1 _
        subst e1;rfl
      | zero =>
        rw [rkT,if_neg (by omega)] at h6
        rw [fl_eq] at he
        simp only [List.replicate_zero,List.nil_append,List.append_nil] at he
        have ha := hw.1
        by_cases h20 : k = 20
        ·subst h20
         cases kids with
         | nil => simp [arB] at ha
         | cons c0 rest =>
           have hk := hw.2.2.2
           rw [wfs] at hk
           have hb := fl_bal c0 (wf_fine c0 hk.1)
           cases hc0 : fl c0 with
           | nil => exact absurd hc0 hb.ne
           | cons y z =>
             have h0 := ih c0 (by simp at hs;omega) hk.1 hk.2.1 y z hc0
             unfold bod at he
             rw [flk,hc0] at he
             simp only [pre,sep,List.nil_append,List.cons_append] at he
             injection he with e1 _
             subst e1;exact h0
        ·unfold arB at ha
         split at ha <;> first
          | omega
          | (simp [rk] at h6;done)
          | (simp [bod,pre,flk,post] at he;done)
          | (simp [bod,pre] at he;rw [<- he.1];rfl)
          | (have := hw.2.1 rfl;omega)
          | (have := hw.2.2.1 rfl;omega)
          | (cases xs with
           | nil => simp at ha
           | cons y z => simp [bod,pre] at he;rw [<- he.1];rfl)
          | (simp at ha;done)
 exact this _ c (Nat.le_refl _) hw h6 x q he
end Sl
end Go.Proofs.YtmkdoejpgkgpbaaGreatDoor
namespace Go.Proofs.YtmkdoejpgkgpbaaGreatDoor
namespace Sl
def pos (P : Nat -> Nat -> Bool) : Nat -> Nat -> Nat -> List Tk -> List Nat
 | _,_,_,[] => []
 | d,p,i,t :: r =>
   let d1 := if isC t then d - 1 else d
   (if d1 = 0 /\ P p t.k = true then [i] else []) ++ pos P (if isO t || isX t then d1 + 1 else d1) t.k (i + 1) r
def lastK : Nat -> List Tk -> Nat
 | p,[] => p
 | _,t :: r => lastK t.k r
theorem lastK_app (x y : List Tk) : ∀ p,lastK p (x ++ y) = lastK (lastK p x) y := by
 induction x with
 | nil => intro p;rfl
 | cons t r ih => intro p;simp [lastK,ih]
theorem pos_app (P : Nat -> Nat -> Bool) (x y : List Tk) : ∀ d e p i,dep d x = some e -> pos P d p i (x ++ y) = pos P d p i x ++ pos P e (lastK p x) (i + x.length) y := by
 induction x with
 | nil => intro d e p i h;simp [dep] at h;subst h;simp [pos,lastK]
 | cons t r ih =>
   intro d e p i h
   simp only [List.cons_append,pos,lastK,List.length_cons,dep] at *
   by_cases ho : (isO t || isX t) = true
   ·have hc : isC t = false := by
     rw [Bool.or_eq_true] at ho
     rcases ho with h | h
     ·simp [isO] at h;simp [isC,h]
     ·exact (isX_not h).2
    rw [if_pos ho] at h
    rw [ho,hc]
    simp only [if_true,Bool.false_eq_true,if_false]
    rw [ih (d + 1) e t.k (i + 1) h,show i + 1 + r.length = i + (r.length + 1) by omega]
    simp
   ·have ho' : (isO t || isX t) = false := by simpa using ho
    rw [if_neg ho] at h
    rw [ho']
    simp only [Bool.false_eq_true,if_false]
    by_cases hc : isC t = true
    ·rw [if_pos hc] at h
     cases d with
     | zero => simp at h
     | succ d =>
       simp only at h
       rw [hc]
       simp only [if_true,Nat.add_sub_cancel]
       rw [ih d e t.k (i + 1) h,show i + 1 + r.length = i + (r.length + 1) by omega]
       simp
    ·rw [if_neg hc] at h
     rw [show isC t = false by simpa using hc]
     simp only [Bool.false_eq_true,if_false]
     rw [ih d e t.k (i + 1) h,show i + 1 + r.length = i + (r.length + 1) by omega]
     simp
theorem pos_deep (P : Nat -> Nat -> Bool) (x : List Tk) : ∀ d e p i,dep d x = some e -> pos P (d + 1) p i x = [] := by
 induction x with
 | nil => intro d e p i h;rfl
 | cons t r ih =>
   intro d e p i h
   simp only [pos,dep] at *
   by_cases ho : (isO t || isX t) = true
   ·have hc : isC t = false := by
     rw [Bool.or_eq_true] at ho
     rcases ho with h | h
     ·simp [isO] at h;simp [isC,h]
     ·exact (isX_not h).2
    rw [if_pos ho] at h
    rw [ho,hc]
    simp only [if_true,Bool.false_eq_true,if_false]
    rw [ih (d + 1) e t.k (i + 1) h]
    simp
   ·have ho' : (isO t || isX t) = false := by simpa using ho
    rw [if_neg ho] at h
    rw [ho']
    simp only [Bool.false_eq_true,if_false]
    by_cases hc : isC t = true
    ·rw [if_pos hc] at h
     cases d with
     | zero => simp at h
     | succ d =>
       simp only at h
       rw [hc]
       simp only [if_true,Nat.add_sub_cancel]
       rw [ih d e t.k (i + 1) h]
       simp
    ·rw [if_neg hc] at h
     rw [show isC t = false by simpa using hc]
     simp only [Bool.false_eq_true,if_false]
     rw [ih d e t.k (i + 1) h]
     simp
theorem Bal.pos {x : List Tk} (h : Bal x) (P : Nat -> Nat -> Bool) (p i : Nat) (y : List Tk) : pos P 0 p i (x ++ y) = pos P 0 p i x ++ pos P 0 (lastK p x) (i + x.length) y := pos_app P x y 0 0 p i (h.dep 0)
theorem pos_none {P : Nat -> Nat -> Bool} (x : List Tk) (h : ∀ t ∈ x,∀ p,P p t.k = false) : ∀ d p i,pos P d p i x = [] := by
 induction x with
 | nil => intro d p i;rfl
 | cons t r ih =>
   intro d p i
   simp only [pos]
   rw [ih (fun u hu => h u (by simp [hu])),h t (by simp) p]
   simp
theorem pos_wrap {P : Nat -> Nat -> Bool} {x : List Tk} (h : Bal x) (b p i : Nat) (hO : ∀ p,P p 23 = false) (hC : ∀ p,P p 24 = false) : pos P 0 p i (List.replicate (b + 1) oB ++ (x ++ List.replicate (b + 1) cB)) = [] := by
 have hw := h.wrap b
 have e : List.replicate (b + 1) oB ++ (x ++ List.replicate (b + 1) cB) = oB :: ((List.replicate b oB ++ (x ++ List.replicate b cB)) ++ [cB]) := by
  rw [List.replicate_succ,List.replicate_succ' (n := b) (a := cB)];simp
 rw [e]
 have h1 : pos P 1 23 (i + 1) ((List.replicate b oB ++ (x ++ List.replicate b cB)) ++ [cB]) = [] := by
  rw [pos_app P _ _ 1 1 23 (i + 1) (hw.dep 1),pos_deep P _ 0 0 23 (i + 1) (hw.dep 0)]
  simp only [List.nil_append,pos]
  rw [show cB.k = 24 from rfl,hC]
  simp
 simp only [pos]
 rw [show oB.k = 23 from rfl,hO]
 simp only [Bool.false_eq_true,and_false,if_false,List.nil_append]
 exact h1
end Sl
end Go.Proofs.YtmkdoejpgkgpbaaGreatDoor
namespace Go.Proofs.YtmkdoejpgkgpbaaGreatDoor
namespace Sl
def Quiet (f : Nat -> Bool) (x : List Tk) : Prop := ∀ p i,pos (fun _ k => f k) 0 p i x = []
theorem quiet_none {f : Nat -> Bool} {x : List Tk} (h : ∀ t ∈ x,f t.k = false) : Quiet f x := fun p i => pos_none x (fun t ht _ => h t ht) 0 p i
theorem quiet_app {f : Nat -> Bool} {x y : List Tk} (hd : ∀ d,dep d x = some d) (hx : Quiet f x) (hy : Quiet f y) : Quiet f (x ++ y) := fun p i => by
 rw [pos_app _ _ _ 0 0 p i (hd 0),hx p i,hy];rfl
theorem pos18 (P : Nat -> Nat -> Bool) (p i : Nat) (z : List Tk) : pos P 0 p i (Tk.of 18 :: z) = (if P p 18 = true then [i] else []) ++ pos P 1 18 (i + 1) z := by
 simp [pos,isO,isC,isX,Tk.of]
theorem pos24 (P : Nat -> Nat -> Bool) (p i : Nat) : pos P 1 p i [cB] = if P p 24 = true then [i] else [] := by
 simp [pos,isC,isO,isX,Tk.of]
theorem quiet_get {f : Nat -> Bool} {x y : List Tk} (h18 : f 18 = false) (h24 : f 24 = false) (hbx : Bal x) (hby : Bal y) (hx : Quiet f x) : Quiet f (x ++ (Tk.of 18 :: (y ++ [cB]))) := fun p i => by
 rw [pos_app _ _ _ 0 0 p i (hbx.dep 0),hx p i,List.nil_append,pos18,pos_app _ _ _ 1 1 _ _ (hby.dep 1),pos_deep _ _ 0 0 _ _ (hby.dep 0),pos24]
 simp [h18,h24]
theorem quiet_flk {f : Nat -> Bool} {k s m : Nat} {xs : List ByteArray} (ha : arB k s xs m = true) (hk : k ≠ 20) (hsep : ∀ i,∀ t ∈ sep k s i,f t.k = false) : ∀ (l : List T) (i : Nat),fines l -> (∀ c ∈ l,Quiet f (fl c)) -> Quiet f (flk k s i l)
 | [],_,_,_ => quiet_none (by simp [flk])
 | c :: r,i,hf,hq => by
   rw [flk]
   refine quiet_app (dep_sep ha hk i) (quiet_none (hsep i)) ?_
   exact quiet_app (fl_bal c hf.1).dep (hq c (by simp)) (quiet_flk ha hk hsep r (i + 1) hf.2 (fun d hd => hq d (by simp [hd])))
theorem wfs_mem {k : Nat} : ∀ (l : List T) (i : Nat),wfs k i l -> ∀ c ∈ l,∃ j,i <= j /\ j < i + l.length /\ wf c /\ wanted k j <= rkT c /\ (c.k = 25 ↔ (k = 10 /\ j = 0))
 | [],_,_,c,hc => by simp at hc
 | d :: r,i,h,c,hc => by
   rcases List.mem_cons.1 hc with rfl | hc
   ·exact ⟨i,Nat.le_refl _,by simp,h.1,h.2.1,h.2.2.1⟩
   ·obtain ⟨j,h1,h2,h3⟩ := wfs_mem r (i + 1) h.2.2.2 c hc
    exact ⟨j,by omega,by simp;omega,h3⟩
theorem quiet_gen (f : Nat -> Bool) (A : Nat -> Bool) (h23 : f 23 = false) (h24 : f 24 = false) (h18 : f 18 = false)
 (hpre : ∀ k s n xs m,A k = true -> arB k s xs m = true -> ∀ t ∈ pre k s n xs,f t.k = false)
 (hsep : ∀ k s xs m i,A k = true -> arB k s xs m = true -> ∀ t ∈ sep k s i,f t.k = false)
 (hkid : ∀ k s xs m i c,A k = true -> arB k s xs m = true -> i < m -> wf c -> wanted k i <= rkT c -> (c.k = 25 ↔ (k = 10 /\ i = 0)) -> ¬ (k = 20 /\ i = 1) -> 1 <= c.br \/ A c.k = true) :
 ∀ (m : Nat) (c : T),SizeOf.sizeOf c <= m -> wf c -> (1 <= c.br \/ A c.k = true) -> Quiet f (fl c) := by
 intro m
 induction m with
 | zero => intro c h;cases c;simp at h
 | succ m ih =>
   intro c hs hw hA
   cases c with
   | nd b k s n xs kids =>
     have hw0 := hw
     rw [wf] at hw
     have hbod : Bal (bod k s n xs kids) := bod_bal hw.1 (wfs_fines _ _ _ hw.2.2.2)
     rw [fl_eq]
     cases b with
     | succ b => exact fun p i => pos_wrap hbod b p i (fun _ => h23) (fun _ => h24)
     | zero =>
       have hAk : A k = true := by
        rcases hA with h | h
        ·simp [T.br] at h
        ·exact h
       simp only [List.replicate_zero,List.nil_append,List.append_nil]
       unfold bod
       have hkq : ∀ c ∈ kids,(∃ j,j < kids.length /\ wanted k j <= rkT c /\ (c.k = 25 ↔ (k = 10 /\ j = 0)) /\ ¬ (k = 20 /\ j = 1)) -> wf c -> Quiet f (fl c) := by
        intro c hc ⟨j,h0,h1,h2,h3⟩ hcw
        have hsz := List.sizeOf_lt_of_mem hc
        exact ih c (by simp at hs;omega) hcw (hkid k s xs _ j c hAk hw.1 h0 hcw h1 h2 h3)
       refine quiet_app (dep_pre k s n xs) (quiet_none (hpre k s n xs _ hAk hw.1)) ?_
       by_cases h20 : k = 20
       ·subst h20
        have hm : kids.length = 2 := by have := hw.1;simp [arB] at this;exact this.1
        match kids,hm,hw,hkq with
        | [a,b],_,hw,hkq =>
          have hwa := hw.2.2.2
          have := quiet_get h18 h24 (fl_bal a (wf_fine a hwa.1)) (fl_bal b (wf_fine b hwa.2.2.2.1)) (hkq a (by simp) ⟨0,by simp,hwa.2.1,hwa.2.2.1,by omega⟩ hwa.1)
          simpa [flk,sep,post] using this
       ·have hp : post k = [] := by unfold post;rw [if_neg h20]
        rw [hp,List.append_nil]
        refine quiet_flk hw.1 h20 (fun i => hsep k s xs _ i hAk hw.1) kids 0 (wfs_fines _ _ _ hw.2.2.2) ?_
        intro c hc
        obtain ⟨j,_,hj,hcw,h1,h2⟩ := wfs_mem kids 0 hw.2.2.2 c hc
        exact hkq c hc ⟨j,by omega,h1,h2,fun e => h20 e.1⟩ hcw
theorem kid_rank {k i : Nat} {c : T} {q : Nat} (hw : wf c) (hq : q <= rkT c) : 1 <= c.br \/ (q <= rk c.k /\ c.k ≠ 7) := by
 cases c with
 | nd b k s n xs kids =>
   rw [wf] at hw
   cases b with
   | succ b => left;simp [T.br]
   | zero =>
     right
     rw [rkT,if_neg (by omega)] at hq
     refine ⟨hq,fun e => ?_⟩
     have := hw.2.1 e
     omega
theorem pre_kinds {k s n m : Nat} {xs : List ByteArray} (ha : arB k s xs m = true) (hr : 1 <= rk k) : ∀ t ∈ pre k s n xs,t.k = 1 \/ t.k = 2 \/ (10 <= t.k /\ t.k <= 17) \/ t.k = 23 \/ t.k = 24 \/ t.k = 25 \/ (t.k = 31 /\ k = 13) := by
 have hco : ∀ ys : List ByteArray,∀ x ∈ commas ys,x.k = 2 \/ x.k = 25 := by
  intro ys
  induction ys with
  | nil => intro x hx;simp [commas] at hx
  | cons y q ih =>
    cases q with
    | nil => intro x hx;simp [commas] at hx;subst hx;simp [nmTk]
    | cons y2 q =>
      intro x hx
      simp only [commas,List.mem_cons] at hx
      rcases hx with rfl | rfl | hx
      ·simp [nmTk]
      ·simp [Tk.of]
      ·exact ih x hx
 intro t ht
 unfold arB at ha
 unfold pre at ht
 split at ha <;> first
  | (simp [rk] at hr;done)
  | (simp at ht;done)
  | (simp at ha;done)
  | (simp at ht;subst ht;simp [Tk.of,nuTk];done)
  | (simp at ht;rcases ht with rfl | rfl <;> simp [Tk.of];done)
  | (simp only [List.mem_map] at ht;obtain ⟨y,_,rfl⟩ := ht;simp [nmTk];done)
  | (rcases hco xs t ht with h | h <;> simp [h];done)
theorem sep_kinds {k s m i : Nat} {xs : List ByteArray} (ha : arB k s xs m = true) (hr : 1 <= rk k) (h7 : k ≠ 7) : ∀ t ∈ sep k s i,(t.k = 18 /\ k = 20) \/ (t.k = s /\ isPro s = true /\ k = 15) \/ (t.k = s /\ isSum s = true /\ k = 16) \/ (t.k = s /\ isCmp s = true /\ k = 17) := by
 intro t ht
 cases i with
 | zero => simp [sep] at ht
 | succ i =>
   unfold arB at ha
   unfold sep at ht
   split at ha <;> first
    | (simp [rk] at hr;done)
    | (simp at ht;done)
    | (exact absurd rfl h7)
    | (simp at ha;done)
    | (simp only [Bool.and_eq_true,beq_iff_eq,List.isEmpty_iff] at ha;simp at ht;subst ht;simp [Tk.of,isPro,isSum,isCmp,ha.2];done)
    | (simp at ht;subst ht;simp [Tk.of])
theorem wanted_rank {k s m i : Nat} {xs : List ByteArray} (ha : arB k s xs m = true) (hi : i < m) (hr : 1 <= rk k) (h7 : k ≠ 7) (h20 : ¬ (k = 20 /\ i = 1)) : 1 <= wanted k i /\ True /\ (4 <= rk k -> 4 <= wanted k i) /\ (5 <= rk k -> 6 <= wanted k i) /\ 2 <= wanted k i := by
 unfold arB at ha
 split at ha <;> first
  | (simp [rk] at hr;done)
  | exact absurd rfl h7
  | (simp at ha;omega)
  | (simp at ha;done)
  | (simp [rk,wanted];done)
  | (have hm : m = 2 := by simp at ha;exact ha.1
     have hi0 : i = 0 := by simp at h20;omega
     subst hi0;simp [rk,wanted];done)
  | (simp [rk,wanted];split <;> omega)
theorem no_gen (f : Nat -> Bool) (q : Nat) (hq : q = 1 \/ q = 2 \/ q = 4) (hf : ∀ k,f k = true -> (q = 1 /\ k = 26) \/ (q = 2 /\ isCmp k = true) \/ (q = 4 /\ isPro k = true)) {c : T} (hw : wf c) (hr : q <= rkT c) : Quiet f (fl c) := by
 have hff : ∀ k,¬ ((q = 1 /\ k = 26) \/ (q = 2 /\ isCmp k = true) \/ (q = 4 /\ isPro k = true)) -> f k = false := by
  intro k h
  cases hk : f k with
  | false => rfl
  | true => exact absurd (hf k hk) h
 refine quiet_gen f (fun k => decide (q <= rk k) && k != 7) (hff 23 (by simp [isCmp,isPro])) (hff 24 (by simp [isCmp,isPro])) (hff 18 (by simp [isCmp,isPro])) ?_ ?_ ?_ _ c (Nat.le_refl _) hw ?_
 ·intro k s n xs m hA ha t ht
  simp only [Bool.and_eq_true,decide_eq_true_eq] at hA
  have := pre_kinds ha (by omega) t ht
  refine hff _ ?_
  simp [isCmp,isPro];omega
 ·intro k s xs m i hA ha t ht
  simp only [Bool.and_eq_true,decide_eq_true_eq,bne_iff_ne] at hA
  have := sep_kinds ha (by omega) hA.2 t ht
  refine hff _ ?_
  have hk := hA.1
  rcases this with ⟨h,_⟩ | ⟨h,h2,rfl⟩ | ⟨h,h2,rfl⟩ | ⟨h,h2,rfl⟩
  ·simp [isCmp,isPro,h]
  ·rw [h];simp [isCmp,isPro] at h2 ⊢;simp [rk] at hk;omega
  ·rw [h];simp [isCmp,isPro,isSum] at h2 ⊢;simp [rk] at hk;omega
  ·rw [h];simp [isCmp,isPro] at h2 ⊢;simp [rk] at hk;omega
 ·intro k s xs m i c hA ha hi hcw hqc h25 h20
  simp only [Bool.and_eq_true,decide_eq_true_eq,bne_iff_ne] at hA ⊢
  have := wanted_rank ha hi (by omega) hA.2 h20
  refine kid_rank (k := k) (i := i) hcw (Nat.le_trans ?_ hqc)
  rcases hq with rfl | rfl | rfl
  ·exact this.1
  ·exact this.2.2.2.2
  ·exact this.2.2.1 hA.1
 ·have := kid_rank (k := 0) (i := 0) hw hr
  simpa using this
theorem no_semi {c : T} (hw : wf c) (hr : 1 <= rkT c) : Quiet (fun k => k == 26) (fl c) := no_gen _ 1 (.inl rfl) (fun k h => by simp at h;exact .inl ⟨rfl,h⟩) hw hr
theorem no_cmp {c : T} (hw : wf c) (hr : 2 <= rkT c) : Quiet isCmp (fl c) := no_gen _ 2 (.inr (.inl rfl)) (fun k h => .inr (.inl ⟨rfl,h⟩)) hw hr
theorem no_pro {c : T} (hw : wf c) (hr : 4 <= rkT c) : Quiet isPro (fl c) := no_gen _ 4 (.inr (.inr rfl)) (fun k h => .inr (.inr ⟨rfl,h⟩)) hw hr
end Sl
end Go.Proofs.YtmkdoejpgkgpbaaGreatDoor
namespace Go.Proofs.YtmkdoejpgkgpbaaGreatDoor
namespace Sl
theorem no_com {c : T} (hw : wf c) (h25 : c.k = 25 -> 1 <= c.br) : Quiet (fun k => k == 25) (fl c) := by
 have key : ∀ c : T,wf c -> 1 <= c.br \/ (c.k != 7 && c.k != 25) = true := by
  intro c hw
  cases c with
  | nd b k s n xs kids =>
    rw [wf] at hw
    by_cases h7 : k = 7
    ·left;exact hw.2.1 h7
    ·by_cases h25 : k = 25
     ·left;have := hw.2.2.1 h25;simp [T.br];omega
     ·right;simp [T.k,h7,h25]
 refine quiet_gen (fun k => k == 25) (fun k => k != 7 && k != 25) rfl rfl rfl ?_ ?_ ?_ _ c (Nat.le_refl _) hw (key c hw)
 ·intro k s n xs m hA ha t ht
  simp only [Bool.and_eq_true,bne_iff_ne] at hA
  have hnm : ∀ x ∈ xs.map nmTk,x.k ≠ 25 := by
   intro x hx
   rw [List.mem_map] at hx
   obtain ⟨y,_,rfl⟩ := hx
   simp [nmTk]
  have : t.k ≠ 25 := by
   unfold pre at ht
   split at ht <;> first
    | (simp at ht;subst ht;simp [nuTk,Tk.of];done)
    | (simp at ht;rcases ht with rfl | rfl <;> simp [Tk.of];done)
    | exact hnm t ht
    | exact absurd rfl hA.2
    | (simp only [List.mem_cons,List.mem_append,List.not_mem_nil,or_false] at ht
       rcases ht with rfl | rfl | ht | rfl <;> first | exact hnm t ht | simp [Tk.of])
    | (simp only [List.mem_cons,List.mem_append,List.not_mem_nil,or_false] at ht
       rcases ht with rfl | ht | rfl <;> first | exact hnm t ht | simp [Tk.of])
    | (simp at ht;done)
  simpa using this
 ·intro k s xs m i hA ha t ht
  simp only [Bool.and_eq_true,bne_iff_ne] at hA
  have : t.k ≠ 25 := by
   cases i with
   | zero => simp [sep] at ht
   | succ i =>
     unfold arB at ha
     unfold sep at ht
     split at ha <;> first
      | (simp at ht;done)
      | exact absurd rfl hA.1
      | (simp at ht;subst ht;simp [Tk.of];done)
      | (simp at ht;subst ht;simp at ha;simp [Tk.of];omega)
      | (simp only at ht;split at ht <;> (simp at ht;subst ht;simp [Tk.of]))
      | (simp at ha;done)
  simpa using this
 ·intro k s xs m i c hA ha hi hcw _ _ _
  exact key c hcw
def ended (k : Nat) : Bool := isLeaf k || k == 24
def pSum (p k : Nat) : Bool := isSum k && ended p
theorem pos_one (P : Nat -> Nat -> Bool) {t : Tk} (h1 : t.k ≠ 23) (h2 : t.k ≠ 24) (h3 : t.k ≠ 18) (p i : Nat) (r : List Tk) : pos P 0 p i (t :: r) = (if P p t.k = true then [i] else []) ++ pos P 0 t.k (i + 1) r := by
 simp [pos,isO,isC,isX,h1,h2,h3]
theorem atomOf {k s m : Nat} {xs : List ByteArray} (h : arB k s xs m = true) (hk : k <= 6) : m = 0 /\ rk k = 7 := by
 unfold arB at h
 split at h <;> first
  | omega
  | (simp at h;exact ⟨h.1,rfl⟩)
  | (simp at h;done)
theorem no_sum : ∀ (m : Nat) (c : T),SizeOf.sizeOf c <= m -> wf c -> c.k ≠ 25 -> 3 <= rkT c -> ∀ p i,(5 <= rkT c \/ ended p = false) -> pos pSum 0 p i (fl c) = [] := by
 intro m
 induction m with
 | zero => intro c h;cases c;simp at h
 | succ m ih =>
   intro c hs hw h25 hr p i hp
   cases c with
   | nd b k s n xs kids =>
     have hw0 := hw
     rw [wf] at hw
     have hbod : Bal (bod k s n xs kids) := bod_bal hw.1 (wfs_fines _ _ _ hw.2.2.2)
     rw [fl_eq]
     cases b with
     | succ b => exact pos_wrap hbod b p i (fun _ => rfl) (fun _ => rfl)
     | zero =>
       rw [rkT,if_neg (by omega)] at hr hp
       simp only [List.replicate_zero,List.nil_append,List.append_nil]
       unfold bod
       have ha := hw.1
       have hops : ∀ (l : List T) (j : Nat),wfs k j l -> (∀ d ∈ l,SizeOf.sizeOf d <= m) -> (∀ q,wanted k q = 6) -> (∀ q,sep k s q = []) -> k ≠ 10 -> ∀ p i,pos pSum 0 p i (flk k s j l) = [] := by
        intro l
        induction l with
        | nil => intro j _ _ _ _ _ p i;rfl
        | cons d r ihl =>
          intro j h1 h2 h3 h4 h5 p i
          have hd6 : 6 <= rkT d := by have := h1.2.1;rw [h3] at this;exact this
          have hd25 : d.k ≠ 25 := fun e => h5 (h1.2.2.1.1 e).1
          have hb := fl_bal d (wf_fine d h1.1)
          rw [flk,h4,List.nil_append,pos_app _ _ _ 0 0 p i (hb.dep 0),ih d (h2 d (by simp)) h1.1 hd25 (by omega) p i (.inl (by omega)),ihl (j + 1) h1.2.2.2 (fun x hx => h2 x (by simp [hx])) h3 h4 h5]
          rfl
       have hsz : ∀ d ∈ kids,SizeOf.sizeOf d <= m := by
        intro d hd
        have := List.sizeOf_lt_of_mem hd
        simp at hs;omega
       have e24 : ∀ q,(Tk.of q).k = q := fun _ => rfl
       by_cases h15 : k = 15
       ·subst h15
        simp only [arB,Bool.and_eq_true,beq_iff_eq,List.isEmpty_iff] at ha
        obtain ⟨⟨e1,_⟩,e3⟩ := ha
        match kids,e1,hw,hsz with
        | [a,b],_,hw,hsz =>
          have wa := hw.2.2.2.1
          have wb := hw.2.2.2.2.2.2.1
          have ra : 3 <= rkT a := hw.2.2.2.2.1
          have rb : 4 <= rkT b := hw.2.2.2.2.2.2.2.1
          have a25 : a.k ≠ 25 := fun e => by have := (hw.2.2.2.2.2.1.1 e).1;omega
          have b25 : b.k ≠ 25 := fun e => by have := (hw.2.2.2.2.2.2.2.2.1.1 e).1;omega
          have hpe : ended p = false := by rcases hp with h | h;simp [rk] at h;exact h
          have hb := fl_bal a (wf_fine a wa)
          simp only [pre,flk,sep,post,List.nil_append,List.append_nil,List.cons_append]
          rw [if_neg (by decide),List.append_nil,pos_app _ _ _ 0 0 p i (hb.dep 0),ih a (hsz a (by simp)) wa a25 ra p i (.inr hpe)]
          have hs3 : (s = 32 \/ s = 33) \/ s = 34 := by simpa [or_assoc] using e3
          have hse : ended s = false := by rcases hs3 with (rfl | rfl) | rfl <;> rfl
          have hss : pSum (lastK p (fl a)) s = false := by rcases hs3 with (rfl | rfl) | rfl <;> rfl
          rw [pos_one _ (by rw [e24];omega) (by rw [e24];omega) (by rw [e24];omega),e24,ih b (hsz b (by simp)) wb b25 (by omega) _ _ (.inr hse)]
          simp [hss]
       ·by_cases h20 : k = 20
        ·subst h20
         have hm : kids.length = 2 := by simp [arB] at ha;exact ha.1
         match kids,hm,hw,hsz with
         | [a,b],_,hw,hsz =>
           have wa := hw.2.2.2.1
           have wb := hw.2.2.2.2.2.2.1
           have ra : 6 <= rkT a := hw.2.2.2.2.1
           have a25 : a.k ≠ 25 := fun e => by have := (hw.2.2.2.2.2.1.1 e).1;omega
           have hba := fl_bal a (wf_fine a wa)
           have hbb := fl_bal b (wf_fine b wb)
           simp only [pre,flk,sep,post,List.nil_append,List.append_nil,List.cons_append]
           rw [if_pos trivial,List.append_assoc,pos_app _ _ _ 0 0 p i (hba.dep 0),ih a (hsz a (by simp)) wa a25 (by omega) p i (.inl (by omega)),List.nil_append,List.cons_append,pos18,pos_app _ _ _ 1 1 _ _ (hbb.dep 1),pos_deep _ _ 0 0 _ _ (hbb.dep 0),pos24]
           simp [pSum,isSum]
        ·have hpo : post k = [] := by unfold post;rw [if_neg h20]
         rw [hpo,List.append_nil]
         by_cases hun : k = 13 \/ k = 14
         ·have hpe : ended p = false := by
           rcases hp with h | h
           ·rcases hun with rfl | rfl <;> simp [rk] at h
           ·exact h
          have hm : kids.length = 1 := by rcases hun with rfl | rfl <;> (simp [arB] at ha;exact ha.1)
          match kids,hm,hw,hsz with
          | [a],_,hw,hsz =>
            have wa := hw.2.2.2.1
            have ra : 4 <= rkT a := by have := hw.2.2.2.2.1;rcases hun with rfl | rfl <;> exact this
            have a25 : a.k ≠ 25 := fun e => by have := (hw.2.2.2.2.2.1.1 e).1;omega
            rcases hun with rfl | rfl
            ·simp only [pre,flk,sep,List.nil_append,List.append_nil,List.cons_append]
             rw [pos_one _ (by decide) (by decide) (by decide),e24,ih a (hsz a (by simp)) wa a25 (by omega) _ _ (.inr rfl)]
             simp [pSum,hpe]
            ·simp only [pre,flk,sep,List.nil_append,List.append_nil,List.cons_append]
             rw [pos_one _ (by decide) (by decide) (by decide),e24,ih a (hsz a (by simp)) wa a25 (by omega) _ _ (.inr rfl)]
             simp [pSum,isSum]
         ·by_cases hca : k = 19 \/ k = 21 \/ k = 22 \/ k = 23 \/ k = 24
          ·have hkq := hops kids 0 hw.2.2.2 hsz (by intro q;rcases hca with rfl | rfl | rfl | rfl | rfl <;> rfl) (by intro q;cases q <;> (rcases hca with rfl | rfl | rfl | rfl | rfl <;> rfl)) (by omega)
           rcases hca with rfl | rfl | rfl | rfl | rfl
           ·simpa [pre] using hkq p i
           all_goals
            simp only [pre,List.cons_append,List.nil_append]
            rw [pos_one _ (by decide) (by decide) (by decide),hkq]
            simp [pSum,isSum,Tk.of]
          ·have hk6 : k <= 6 := by
            have hk7 : k ≠ 7 := fun e => by have := hw.2.1 e;omega
            unfold arB at ha
            split at ha <;> first
             | omega
             | (simp [rk] at hr;done)
             | exact absurd rfl h25
             | (simp at ha;done)
           obtain ⟨hm0,hrk⟩ := atomOf ha hk6
           have : kids = [] := List.eq_nil_of_length_eq_zero hm0
           subst this
           simp only [flk,List.append_nil]
           refine pos_none _ (fun t ht q => ?_) 0 p i
           have := pre_kinds ha (by omega) t ht
           simp [pSum,isSum];omega
end Sl
end Go.Proofs.YtmkdoejpgkgpbaaGreatDoor
namespace Go.Proofs.YtmkdoejpgkgpbaaGreatDoor
namespace Sl
theorem lastK_cons (p : Nat) (t : Tk) (r : List Tk) : lastK p (t :: r) = lastK t.k r := rfl
theorem lastK_wrap (x : List Tk) (b p : Nat) : lastK p (List.replicate (b + 1) oB ++ (x ++ List.replicate (b + 1) cB)) = 24 := by
 rw [lastK_app,lastK_app,List.replicate_succ' (n := b) (a := cB),lastK_app];rfl
theorem flk_last (k s : Nat) : ∀ (l : List T) (i : Nat),fines l -> l ≠ [] -> ∃ c,c ∈ l /\ ∀ p,∃ q,lastK p (flk k s i l) = lastK q (fl c)
 | [],_,_,h => absurd rfl h
 | c :: r,i,hf,_ => by
   cases r with
   | nil => exact ⟨c,by simp,fun p => ⟨lastK p (sep k s i),by rw [flk,flk,List.append_nil,lastK_app]⟩⟩
   | cons d q =>
     obtain ⟨e,he,h⟩ := flk_last k s (d :: q) (i + 1) hf.2 (by simp)
     refine ⟨e,by simp at he ⊢;exact .inr he,fun p => ?_⟩
     rw [flk,lastK_app,lastK_app]
     exact h _
theorem last_end : ∀ (m : Nat) (c : T),SizeOf.sizeOf c <= m -> wf c -> c.k ≠ 25 -> 1 <= rkT c -> ∀ p,ended (lastK p (fl c)) = true := by
 intro m
 induction m with
 | zero => intro c h;cases c;simp at h
 | succ m ih =>
   intro c hs hw h25 hr p
   cases c with
   | nd b k s n xs kids =>
     rw [wf] at hw
     rw [fl_eq]
     cases b with
     | succ b => rw [lastK_wrap];rfl
     | zero =>
       rw [rkT,if_neg (by omega)] at hr
       simp only [List.replicate_zero,List.nil_append,List.append_nil]
       unfold bod
       have hf := wfs_fines _ _ _ hw.2.2.2
       have hk7 : k ≠ 7 := fun e => by have := hw.2.1 e;omega
       by_cases h20 : k = 20
       ·subst h20
        rw [lastK_app,lastK_app];rfl
       ·have hpo : post k = [] := by unfold post;rw [if_neg h20]
        rw [hpo,List.append_nil,lastK_app]
        by_cases hk0 : kids = []
        ·subst hk0
         simp only [flk,lastK]
         have hk6 : k <= 6 := by
          have ha := hw.1
          unfold arB at ha
          split at ha <;> first
           | omega
           | (simp [rk] at hr;done)
           | (simp at ha;done)
           | exact absurd rfl h25
         have ha := hw.1
         unfold arB at ha
         unfold pre
         split at ha <;> first
          | rfl
          | omega
          | (simp at ha;match xs,ha with | [x],_ => rfl)
          | (simp at ha;done)
        ·obtain ⟨c,hc,h⟩ := flk_last k s kids 0 hf hk0
         obtain ⟨q,hq⟩ := h (lastK p (pre k s n xs))
         rw [hq]
         obtain ⟨j,_,hj,hcw,hcr,hc25⟩ := wfs_mem kids 0 hw.2.2.2 c hc
         have hsz := List.sizeOf_lt_of_mem hc
         have hc25' : c.k ≠ 25 := fun e => by
          have := (hc25.1 e).1
          subst this
          simp [rk] at hr
         have := wanted_rank hw.1 (show j < kids.length by omega) hr hk7 (fun e => h20 e.1)
         exact ih c (by simp at hs;omega) hcw hc25' (Nat.le_trans this.1 hcr) q
def pOpd (_ k : Nat) : Bool := k != 24 && k != 18
theorem pos_wrap_opd {x : List Tk} (h : Bal x) (b p i : Nat) : pos pOpd 0 p i (List.replicate (b + 1) oB ++ (x ++ List.replicate (b + 1) cB)) = [i] := by
 have hw := h.wrap b
 have e : List.replicate (b + 1) oB ++ (x ++ List.replicate (b + 1) cB) = oB :: ((List.replicate b oB ++ (x ++ List.replicate b cB)) ++ [cB]) := by
  rw [List.replicate_succ,List.replicate_succ' (n := b) (a := cB)];simp
 rw [e]
 have h1 : pos pOpd 1 23 (i + 1) ((List.replicate b oB ++ (x ++ List.replicate b cB)) ++ [cB]) = [] := by
  rw [pos_app _ _ _ 1 1 23 (i + 1) (hw.dep 1),pos_deep _ _ 0 0 23 (i + 1) (hw.dep 0),pos24];rfl
 have h2 : pos pOpd 0 p i (oB :: ((List.replicate b oB ++ (x ++ List.replicate b cB)) ++ [cB])) = [i] ++ pos pOpd 1 23 (i + 1) ((List.replicate b oB ++ (x ++ List.replicate b cB)) ++ [cB]) := by
  simp [pos,isO,isC,isX,Tk.of,pOpd]
 rw [h2,h1];rfl
theorem opd_start : ∀ (m : Nat) (c : T),SizeOf.sizeOf c <= m -> wf c -> c.k ≠ 25 -> 6 <= rkT c -> ∀ p i,pos pOpd 0 p i (fl c) = [i] := by
 intro m
 induction m with
 | zero => intro c h;cases c;simp at h
 | succ m ih =>
   intro c hs hw h25 hr p i
   cases c with
   | nd b k s n xs kids =>
     rw [wf] at hw
     have hbod : Bal (bod k s n xs kids) := bod_bal hw.1 (wfs_fines _ _ _ hw.2.2.2)
     rw [fl_eq]
     cases b with
     | succ b => exact pos_wrap_opd hbod b p i
     | zero =>
       rw [rkT,if_neg (by omega)] at hr
       simp only [List.replicate_zero,List.nil_append,List.append_nil]
       have hk7 : k ≠ 7 := fun e => by have := hw.2.1 e;omega
       by_cases h20 : k = 20
       ·subst h20
        have hm : kids.length = 2 := by have := hw.1;simp [arB] at this;exact this.1
        match kids,hm,hw with
        | [a,b],_,hw =>
          have wa := hw.2.2.2.1
          have wb := hw.2.2.2.2.2.2.1
          have ra : 6 <= rkT a := hw.2.2.2.2.1
          have a25 : a.k ≠ 25 := fun e => by have := (hw.2.2.2.2.2.1.1 e).1;omega
          have hba := fl_bal a (wf_fine a wa)
          have hbb := fl_bal b (wf_fine b wb)
          have e : bod 20 s n xs [a,b] = fl a ++ (Tk.of 18 :: (fl b ++ [cB])) := by simp [bod,pre,flk,sep,post]
          rw [e,pos_app _ _ _ 0 0 p i (hba.dep 0),ih a (by simp at hs;omega) wa a25 ra p i,pos18,pos_app _ _ _ 1 1 _ _ (hbb.dep 1),pos_deep _ _ 0 0 _ _ (hbb.dep 0),pos24]
          rfl
       ·have hk6 : k <= 6 := by
         have ha := hw.1
         unfold arB at ha
         split at ha <;> first
          | omega
          | (simp [rk] at hr;done)
          | exact absurd rfl h25
          | (simp at ha;done)
        obtain ⟨hm0,_⟩ := atomOf hw.1 hk6
        have : kids = [] := List.eq_nil_of_length_eq_zero hm0
        subst this
        have ha := hw.1
        unfold arB at ha
        split at ha <;> first
         | rfl
         | omega
         | (simp at ha;match xs,ha with | [x],_ => rfl)
         | (simp at ha;done)
def mt (op cl : Nat) : Nat -> List Tk -> Nat
 | _,[] => 0
 | n,t :: r => if t.k = cl then (if n = 0 then 0 else 1 + mt op cl (n - 1) r) else if t.k = op then 1 + mt op cl (n + 1) r else 1 + mt op cl n r
def Even (op cl : Nat) (x : List Tk) : Prop := ∀ n r,mt op cl n (x ++ r) = x.length + mt op cl n r
theorem even_none {op cl : Nat} {x : List Tk} (h : ∀ t ∈ x,t.k ≠ op /\ t.k ≠ cl) : Even op cl x := by
 induction x with
 | nil => intro n r;simp
 | cons t q ih =>
   intro n r
   have h1 := h t (by simp)
   rw [List.cons_append,mt,if_neg h1.2,if_neg h1.1,ih (fun u hu => h u (by simp [hu]))]
   simp;omega
theorem even_app {op cl : Nat} {x y : List Tk} (hx : Even op cl x) (hy : Even op cl y) : Even op cl (x ++ y) := by
 intro n r
 rw [List.append_assoc,hx,hy];simp;omega
theorem even_pair {op cl : Nat} {x y : List Tk} {a b : Tk} (hoc : op ≠ cl) (ha : a.k = op) (hb : b.k = cl) (hx : Even op cl x) (hy : Even op cl y) : Even op cl (a :: (x ++ (b :: y))) := by
 intro n r
 rw [List.cons_append,mt,if_neg (by omega),if_pos ha,List.append_assoc,hx,List.cons_append,mt,if_pos hb,if_neg (by omega),Nat.add_sub_cancel,hy]
 simp;omega
theorem even_brk {op cl : Nat} {x : List Tk} (h1 : op ≠ 23) (h2 : op ≠ 24) (h3 : cl ≠ 23) (h4 : cl ≠ 24) (hx : Even op cl x) (b : Nat) : Even op cl (List.replicate b oB ++ (x ++ List.replicate b cB)) := by
 refine even_app (even_none ?_) (even_app hx (even_none ?_))
 ·intro t ht
  rw [List.mem_replicate] at ht
  rw [ht.2];exact ⟨fun e => h1 e.symm,fun e => h3 e.symm⟩
 ·intro t ht
  rw [List.mem_replicate] at ht
  rw [ht.2];exact ⟨fun e => h2 e.symm,fun e => h4 e.symm⟩
def Pair (op cl : Nat) : Prop := (op = 3 /\ cl = 5) \/ (op = 6 /\ cl = 7) \/ (op = 6 /\ cl = 8)
theorem even_flk {op cl k s : Nat} (hsep : ∀ i,∀ t ∈ sep k s i,t.k ≠ op /\ t.k ≠ cl) : ∀ (l : List T) (i : Nat),(∀ c ∈ l,Even op cl (fl c)) -> Even op cl (flk k s i l)
 | [],_,_ => by rw [flk];exact even_none (by simp)
 | c :: r,i,h => by
   rw [flk]
   exact even_app (even_none (hsep i)) (even_app (h c (by simp)) (even_flk hsep r (i + 1) (fun d hd => h d (by simp [hd]))))
theorem names_kinds (xs : List ByteArray) : ∀ t ∈ xs.map nmTk,t.k = 2 := by
 intro t ht
 rw [List.mem_map] at ht
 obtain ⟨y,_,rfl⟩ := ht
 rfl
theorem even_fl {op cl : Nat} (hp : Pair op cl) : ∀ (m : Nat) (c : T),SizeOf.sizeOf c <= m -> fine c -> Even op cl (fl c) := by
 intro m
 induction m with
 | zero => intro c h;cases c;simp at h
 | succ m ih =>
   intro c hs hf
   cases c with
   | nd b k s n xs kids =>
     rw [fl_eq]
     refine even_brk ?_ ?_ ?_ ?_ ?_ b
     ·rcases hp with ⟨rfl,rfl⟩ | ⟨rfl,rfl⟩ | ⟨rfl,rfl⟩ <;> decide
     ·rcases hp with ⟨rfl,rfl⟩ | ⟨rfl,rfl⟩ | ⟨rfl,rfl⟩ <;> decide
     ·rcases hp with ⟨rfl,rfl⟩ | ⟨rfl,rfl⟩ | ⟨rfl,rfl⟩ <;> decide
     ·rcases hp with ⟨rfl,rfl⟩ | ⟨rfl,rfl⟩ | ⟨rfl,rfl⟩ <;> decide
     have hkids : ∀ c ∈ kids,Even op cl (fl c) := by
      intro c hc
      have := List.sizeOf_lt_of_mem hc
      refine ih c (by simp at hs;omega) ?_
      have : ∀ l : List T,fines l -> ∀ c ∈ l,fine c := by
       intro l
       induction l with
       | nil => intro _ c hc;simp at hc
       | cons d r ihl =>
         intro h c hc
         rcases List.mem_cons.1 hc with rfl | hc
         ·exact h.1
         ·exact ihl h.2 c hc
      exact this kids hf.2 c hc
     have hnm : ∀ xs : List ByteArray,Even op cl (xs.map nmTk) := by
      intro xs
      refine even_none fun t ht => ?_
      have := names_kinds xs t ht
      rcases hp with ⟨rfl,rfl⟩ | ⟨rfl,rfl⟩ | ⟨rfl,rfl⟩ <;> omega
     have h27 : Even op cl [Tk.of 27] := even_none (by intro t ht;simp at ht;subst ht;rcases hp with ⟨rfl,rfl⟩ | ⟨rfl,rfl⟩ | ⟨rfl,rfl⟩ <;> decide)
     have ha := hf.1
     unfold bod
     by_cases hlet : k = 8 \/ k = 9 \/ k = 10
     ·by_cases h35 : op = 3
      ·have hcl : cl = 5 := by rcases hp with ⟨_,h⟩ | ⟨h,_⟩ | ⟨h,_⟩ <;> omega
       subst h35 hcl
       rcases hlet with rfl | rfl | rfl
       ·have hm : kids.length = 2 := by simp [arB] at ha;exact ha.1
        match kids,hm,hkids with
        | [a,b],_,hkids =>
          have := even_pair (a := Tk.of 3) (b := Tk.of 5) (op := 3) (cl := 5) (by decide) rfl rfl (even_app (even_app (hnm xs) h27) (hkids a (by simp))) (hkids b (by simp))
          simpa [pre,flk,sep,post] using this
       ·have hm : kids.length = 2 := by simp [arB] at ha;exact ha.1.1
        match kids,hm,hkids with
        | [a,b],_,hkids =>
          have h4 : Even 3 5 [Tk.of 4] := even_none (by intro t ht;simp at ht;subst ht;decide)
          have := even_pair (a := Tk.of 3) (b := Tk.of 5) (op := 3) (cl := 5) (by decide) rfl rfl (even_app (even_app (even_app h4 (hnm xs)) h27) (hkids a (by simp))) (hkids b (by simp))
          simpa [pre,flk,sep,post] using this
       ·have hm : kids.length = 3 := by simp [arB] at ha;exact ha.1
        match kids,hm,hkids with
        | [p,a,b],_,hkids =>
          have := even_pair (a := Tk.of 3) (b := Tk.of 5) (op := 3) (cl := 5) (by decide) rfl rfl (even_app (even_app (hkids p (by simp)) h27) (hkids a (by simp))) (hkids b (by simp))
          simpa [pre,flk,sep,post] using this
      ·have h36 : op = 6 /\ (cl = 7 \/ cl = 8) := by rcases hp with ⟨h,_⟩ | ⟨h,h2⟩ | ⟨h,h2⟩ <;> omega
       refine even_app (even_none ?_) (even_app (even_flk ?_ kids 0 hkids) (even_none ?_))
       ·intro t ht
        have hn := names_kinds xs
        rcases hlet with rfl | rfl | rfl
        ·simp only [pre,List.mem_cons,List.mem_append,List.not_mem_nil,or_false] at ht
         rcases ht with rfl | ht | rfl
         ·simp [Tk.of];omega
         ·have := hn t ht;omega
         ·simp [Tk.of];omega
        ·simp only [pre,List.mem_cons,List.mem_append,List.not_mem_nil,or_false] at ht
         rcases ht with rfl | rfl | ht | rfl
         ·simp [Tk.of];omega
         ·simp [Tk.of];omega
         ·have := hn t ht;omega
         ·simp [Tk.of];omega
        ·simp only [pre,List.mem_cons,List.not_mem_nil,or_false] at ht
         subst ht;simp [Tk.of];omega
       ·intro i t ht
        cases i with
        | zero => simp [sep] at ht
        | succ i =>
          rcases hlet with rfl | rfl | rfl <;> simp only [sep] at ht
          ·simp at ht;subst ht;simp [Tk.of];omega
          ·simp at ht;subst ht;simp [Tk.of];omega
          ·split at ht <;> (simp at ht;subst ht;simp [Tk.of];omega)
       ·intro t ht
        rcases hlet with rfl | rfl | rfl <;> simp [post] at ht
     ·by_cases hif : k = 11
      ·subst hif
       have hm : kids.length = 3 := by simp [arB] at ha;exact ha.1
       match kids,hm,hkids with
       | [a,b,c],_,hkids =>
         rcases hp with ⟨rfl,rfl⟩ | ⟨rfl,rfl⟩ | ⟨rfl,rfl⟩
         ·have e : ∀ q,q = 6 \/ q = 7 \/ q = 8 -> Even 3 5 [Tk.of q] := fun q hq => even_none (by intro t ht;simp at ht;subst ht;simp [Tk.of];omega)
          have := even_app (e 6 (by omega)) (even_app (hkids a (by simp)) (even_app (e 7 (by omega)) (even_app (hkids b (by simp)) (even_app (e 8 (by omega)) (hkids c (by simp))))))
          simpa [pre,flk,sep,post] using this
         ·have e : Even 6 7 [Tk.of 8] := even_none (by intro t ht;simp at ht;subst ht;decide)
          have := even_pair (a := Tk.of 6) (b := Tk.of 7) (op := 6) (cl := 7) (by decide) rfl rfl (hkids a (by simp)) (even_app (hkids b (by simp)) (even_app e (hkids c (by simp))))
          simpa [pre,flk,sep,post] using this
         ·have e : Even 6 8 [Tk.of 7] := even_none (by intro t ht;simp at ht;subst ht;decide)
          have := even_pair (a := Tk.of 6) (b := Tk.of 8) (op := 6) (cl := 8) (by decide) rfl rfl (even_app (hkids a (by simp)) (even_app e (hkids b (by simp)))) (hkids c (by simp))
          simpa [pre,flk,sep,post] using this
      ·refine even_app (even_none ?_) (even_app (even_flk ?_ kids 0 hkids) (even_none ?_))
       ·intro t ht
        have hn := names_kinds xs
        have hco : ∀ ys : List ByteArray,∀ x ∈ commas ys,x.k = 2 \/ x.k = 25 := by
         intro ys
         induction ys with
         | nil => intro x hx;simp [commas] at hx
         | cons y q ih =>
           cases q with
           | nil => intro x hx;simp [commas] at hx;subst hx;simp [nmTk]
           | cons y2 q =>
             intro x hx
             simp only [commas,List.mem_cons] at hx
             rcases hx with rfl | rfl | hx
             ·simp [nmTk]
             ·simp [Tk.of]
             ·exact ih x hx
        have hres : t.k = 1 \/ t.k = 2 \/ (9 <= t.k) := by
         unfold pre at ht
         split at ht <;> first
          | (exfalso;omega)
          | (simp at ht;subst ht;simp [nuTk,Tk.of];done)
          | (have := hn t ht;omega)
          | (have := hco xs t ht;omega)
          | (simp at ht;rcases ht with rfl | rfl <;> simp [Tk.of];done)
          | (simp only [List.mem_cons,List.mem_append,List.not_mem_nil,or_false] at ht
             rcases ht with rfl | ht | rfl <;> first | (have := hn t ht;omega) | (simp [Tk.of]))
          | (simp at ht;done)
        rcases hp with ⟨rfl,rfl⟩ | ⟨rfl,rfl⟩ | ⟨rfl,rfl⟩ <;> omega
       ·intro i t ht
        have hres : 18 <= t.k := by
         cases i with
         | zero => simp [sep] at ht
         | succ i =>
           unfold arB at ha
           unfold sep at ht
           split at ha <;> first
            | (exfalso;omega)
            | (simp at ht;done)
            | (simp at ht;subst ht;simp [Tk.of];done)
            | (simp at ht;subst ht;simp at ha;simp [Tk.of];omega)
            | (simp at ha;done)
        rcases hp with ⟨rfl,rfl⟩ | ⟨rfl,rfl⟩ | ⟨rfl,rfl⟩ <;> omega
       ·intro t ht
        unfold post at ht
        split at ht
        ·simp at ht;subst ht;rcases hp with ⟨rfl,rfl⟩ | ⟨rfl,rfl⟩ | ⟨rfl,rfl⟩ <;> decide
        ·simp at ht
end Sl
end Go.Proofs.YtmkdoejpgkgpbaaGreatDoor
namespace Go.Proofs.YtmkdoejpgkgpbaaGreatDoor
open Go.RowKit Sl
def tks (l : List Tok) : List Tk := l.map Tok.tk
theorem tks_drop (l : List Tok) (i : Nat) (h : i < l.length) : tks (l.drop i) = l[i].tk :: tks (l.drop (i + 1)) := by
 rw [List.drop_eq_getElem_cons h];rfl
theorem ended_any {k : Nat} (hk : k < 35) (w : World) :
 Calls Tryz.prog 187 #[.string (nameK k)] w fun e w' => e = .returned (.bool (Sl.ended k)) /\ w' = w := by
 have q24 := nk24 hk
 have qa := atoS_k hk
 go_enter Tryz.func187,Tryz.ntmps187
 go_wp2_with (go_at_call 185;refine (atomic_any _ _).mono ?_;rintro e w' ⟨rfl,hw'⟩;subst hw')
 all_goals
  go_ret
  refine ⟨ret_bool ?_,rfl⟩
  unfold Sl.ended
  rw [Bool.eq_iff_iff]
  simp_all
set_option maxRecDepth 100000 in
theorem match_any (L : List Tok) (b off cap i0 op cl : Nat) (ob cb : ByteArray) (w : World) (hL : L.length <= 100000) (hc : L.length <= cap) (hr : RW w b off L) (hok : ∀ t ∈ L,okTok t) (hi0 : i0 <= L.length)
 (hop : ∀ k,k < 35 -> ((nameK k).toList == ob.toList) = decide (k = op)) (hcl : ∀ k,k < 35 -> ((nameK k).toList == cb.toList) = decide (k = cl)) (hne : op ≠ cl) :
 Calls Tryz.prog 116 #[.slice (some ⟨b,off,none⟩) L.length cap,.int .i64 i0,.string ob,.string cb] w fun e w' => e = .returned (.int .i64 ((i0 + mt op cl 0 (tks (L.drop i0)) : Nat) : Int)) /\ w' = w := by
 have HR : Hid (RW w b off L) := hr
 have HK : Hid (∀ t ∈ L,okTok t) := hok
 have HO : Hid (∀ k,k < 35 -> ((nameK k).toList == ob.toList) = decide (k = op)) := hop
 have HC : Hid (∀ k,k < 35 -> ((nameK k).toList == cb.toList) = decide (k = cl)) := hcl
 clear hr hok hop hcl
 obtain ⟨z,hz⟩ : ∃ z,z = i0 + mt op cl 0 (tks (L.drop i0)) := ⟨_,rfl⟩
 rw [<- hz]
 have HZ : Hid (z = i0 + mt op cl 0 (tks (L.drop i0))) := hz
 clear hz
 go_enter Tryz.func116,Tryz.ntmps116
 go_wp2_with fail
 go_loop [1,9] (fun u v => ∃ i n : Nat,i <= L.length /\ n <= i /\ i + mt op cl n (tks (L.drop i)) = z /\ u = .int .i64 i /\ v = .int .i64 n) (fun u _ => L.length - (intOf u).toNat)
 case atStart => exact ⟨i0,0,hi0,Nat.zero_le _,HZ.out.symm,rfl,rfl⟩
 case round =>
  obtain ⟨i,n,hi,hn,hm,rfl,rfl⟩ := hrel
  have HM : Hid (i + mt op cl n (tks (L.drop i)) = z) := hm
  clear hm
  by_cases hlt : i < L.length
  ·obtain ⟨c1,_,_⟩ := HR.out i hlt
   obtain ⟨hkn,hk35⟩ := HK.out L[i] (by simp)
   rw [hkn] at c1
   have ho := HO.out _ hk35
   have hcc := HC.out _ hk35
   have hmt : Hid (mt op cl n (tks (L.drop i)) = if L[i].k = cl then (if n = 0 then 0 else 1 + mt op cl (n - 1) (tks (L.drop (i + 1)))) else if L[i].k = op then 1 + mt op cl (n + 1) (tks (L.drop (i + 1))) else 1 + mt op cl n (tks (L.drop (i + 1)))) := by
    show _ = _
    rw [tks_drop L i hlt,Sl.mt];rfl
   clear hkn
   by_cases h1 : L[i].k = cl
   ·have h2 : ¬ L[i].k = op := by omega
    have ho' : ((nameK L[i].k).toList == ob.toList) = false := by rw [ho];simpa using h2
    have hc' : ((nameK L[i].k).toList == cb.toList) = true := by rw [hcc];simpa using h1
    have H1 : Hid (L[i].k = cl) := h1
    clear ho hcc h1 h2 hk35
    cases n with
    | zero =>
      go_wp2_with fail
      go_ret
      refine ⟨ret_int ?_,rfl⟩
      have := HM.out
      rw [hmt.out,if_pos H1.out] at this
      simp at this
      omega
    | succ n =>
      have hz1 : ((n + 1 : Nat) : Int) ≠ 0 := by omega
      go_wp2_with fail
      go_round
      case rel => exact ⟨i + 1,n,by omega,by omega,(by have := HM.out;rw [hmt.out,if_pos H1.out,if_neg (by omega),Nat.add_sub_cancel] at this;omega),by go_num,by go_num⟩
      case measure => simp [intOf];omega
   ·by_cases h2 : L[i].k = op
    ·have ho' : ((nameK L[i].k).toList == ob.toList) = true := by rw [ho];simpa using h2
     have hc' : ((nameK L[i].k).toList == cb.toList) = false := by rw [hcc];simpa using h1
     have H1 : Hid (¬ L[i].k = cl) := h1
     have H2 : Hid (L[i].k = op) := h2
     clear ho hcc h1 h2 hk35
     go_wp2_with fail
     go_round
     case rel => exact ⟨i + 1,n + 1,by omega,by omega,(by have := HM.out;rw [hmt.out,if_neg H1.out,if_pos H2.out] at this;omega),by go_num,by go_num⟩
     case measure => simp [intOf];omega
    ·have ho' : ((nameK L[i].k).toList == ob.toList) = false := by rw [ho];simpa using h2
     have hc' : ((nameK L[i].k).toList == cb.toList) = false := by rw [hcc];simpa using h1
     have H1 : Hid (¬ L[i].k = cl) := h1
     have H2 : Hid (¬ L[i].k = op) := h2
     clear ho hcc h1 h2 hk35
     go_wp2_with fail
     go_round
     case rel => exact ⟨i + 1,n,by omega,by omega,(by have := HM.out;rw [hmt.out,if_neg H1.out,if_neg H2.out] at this;omega),by go_num,rfl⟩
     case measure => simp [intOf];omega
  ·have hdz : Hid (i = z) := by
    show _ = _
    have := HM.out
    rw [List.drop_eq_nil_of_le (by omega)] at this
    simpa [tks,Sl.mt] using this
   go_wp2_with fail
   go_ret
   exact ⟨ret_int (by rw [hdz.out]),rfl⟩
def dsF : Int -> List Tok -> List Int
 | _,[] => []
 | n,t :: r => (if t.k = 24 then n - 1 else n) :: dsF (if t.k = 23 \/ t.k = 18 then (if t.k = 24 then n - 1 else n) + 1 else (if t.k = 24 then n - 1 else n)) r
theorem dsF_len (l : List Tok) : ∀ n,(dsF n l).length = l.length := by
 induction l with
 | nil => intro n;rfl
 | cons t r ih => intro n;simp [dsF,ih]
theorem Tryz.info3 : (Tryz.prog.info? 3).map (fun i => (i.zero,i.size,i.bytes)) = some (some (.int .i64 0),1,8) := by kernel_rfl
set_option maxRecDepth 100000 in
theorem depths_any (L : List Tok) (b off cap : Nat) (w : World) (hL : L.length <= 100000) (hc : L.length <= cap) (hb : b < w.heap.size) (hr : RW w b off L) (hok : ∀ t ∈ L,okTok t) :
 Calls Tryz.prog 186 #[.slice (some ⟨b,off,none⟩) L.length cap] w fun e w' => ∃ v,e = .returned v /\ w'.ownsRow w.heap.size 3 1 v L.length ((dsF 0 L).map (Value.int .i64)) /\ Below w.heap.size w w' := by
 obtain ⟨i0,hi0,hz0,hz1,hz2⟩ := info_parts Tryz.info3
 have HR : Hid (RW w b off L) := hr
 have HK : Hid (∀ t ∈ L,okTok t) := hok
 clear hr hok
 go_enter Tryz.func186,Tryz.ntmps186
 go_wp2_with fail
 go_loopw [3,4,5] (fun v u j wr => ∃ (i : Nat) (n : Int) (acc : List Int),i <= L.length /\ acc.length = i /\ -(i : Int) <= n /\ n <= i /\ acc ++ dsF n (L.drop i) = dsF 0 L /\ u = .int .i64 n /\ j = .int .i64 i /\ wr.ownsRow w.heap.size 3 1 v i (acc.map (Value.int .i64)) /\ Below w.heap.size w wr) (fun _ _ j _ => L.length - (intOf j).toNat)
 case atStart => exact ⟨0,0,[],Nat.zero_le _,rfl,by simp,by simp,by simp,rfl,rfl,World.ownsRow_nil _ _ _ _,Below.refl _ _⟩
 case round =>
  obtain ⟨i,n,acc,hi,hal,hn1,hn2,hds,rfl,rfl,hown,hbw⟩ := hrel
  have HD : Hid (acc ++ dsF n (L.drop i) = dsF 0 L) := hds
  have HA : Hid (acc.length = i) := hal
  clear hds hal
  have hsz := hbw.size
  by_cases hlt : i < L.length
  ·obtain ⟨c1,_,_⟩ := (HR.out.below hbw hb) i hlt
   obtain ⟨hkn,hk35⟩ := HK.out L[i] (by simp)
   rw [hkn] at c1
   have hstep : Hid (dsF n (L.drop i) = (if L[i].k = 24 then n - 1 else n) :: dsF (if L[i].k = 23 \/ L[i].k = 18 then (if L[i].k = 24 then n - 1 else n) + 1 else (if L[i].k = 24 then n - 1 else n)) (L.drop (i + 1))) := by
    show _ = _
    rw [List.drop_eq_getElem_cons hlt,dsF]
   obtain ⟨kk,hkk⟩ : ∃ kk,L[i].k = kk := ⟨_,rfl⟩
   rw [hkk] at c1 hk35
   have q24 := nk24 hk35
   have q23 := nk23 hk35
   have q18 := nk18 hk35
   have HKK : Hid (L[i].k = kk) := hkk
   clear hkn hkk
   by_cases h24 : kk = 24
   ·have e24 : ((nameK kk).toList == [41]) = true := by rw [q24];simpa using h24
    have e23 : ((nameK kk).toList == [40]) = false := by rw [q23];simp;omega
    have e18 : ((nameK kk).toList == [46,40]) = false := by rw [q18];simp;omega
    have H24 : Hid (kk = 24) := h24
    clear q24 q23 q18 h24 hk35
    go_wp2_with (at_builtin;refine wpList_append_own _ rfl (.tmp 20) (.tmp 22) 26 rfl w.heap.size 3 i0 _ 1 8 Tryz.underlying26 hi0 hz0 hz1 hz2 rfl (by decide) _ _ _ rfl (hown.alloc _) _ 1 1 [.int .i64 (n - 1)] rfl rfl (cells_new _ _ _ _ rfl) ?_ ?_ ?_ ?_ ?_;(intro u hu;simp at hu;subst hu;rfl);(unfold maxLen;omega);omega;(simp;omega);intro v' w3 hown3 hg3 _;have hbw3 := below_app hbw hsz _ hg3 (own_ge hown);have hc3 := (World.grownBy.cell hg3 (a := ⟨b,off + i * 3,none⟩) (v := .string (nameK kk)) (by rw [World.cell?_alloc_past _ _ _ (by omega)];exact c1) (fun e => by have := own_ge hown b e.symm;omega)))
    go_roundw
    case rel => exact ⟨i + 1,n - 1,acc ++ [n - 1],by omega,by simp [HA.out],by omega,by omega,(by rw [<- HD.out,hstep.out,HKK.out,if_pos H24.out,if_neg (by have := H24.out;omega)];simp),rfl,by go_num,by simpa using hown3,hbw3⟩
    case measure => simp [intOf];omega
   ·have e24 : ((nameK kk).toList == [41]) = false := by rw [q24];simpa using h24
    have H24 : Hid (¬ kk = 24) := h24
    by_cases ho : kk = 23 \/ kk = 18
    ·have hor : ((nameK kk).toList == [40]) = true \/ (((nameK kk).toList == [40]) = false /\ ((nameK kk).toList == [46,40]) = true) := by
      rw [q23,q18];simp;omega
     have HO : Hid (kk = 23 \/ kk = 18) := ho
     clear q24 q23 q18 h24 hk35 ho
     rcases hor with e1 | ⟨e1,e2⟩
     all_goals
      go_wp2_with (at_builtin;refine wpList_append_own _ rfl (.tmp 20) (.tmp 22) 26 rfl w.heap.size 3 i0 _ 1 8 Tryz.underlying26 hi0 hz0 hz1 hz2 rfl (by decide) _ _ _ rfl (hown.alloc _) _ 1 1 [.int .i64 n] rfl rfl (cells_new _ _ _ _ rfl) ?_ ?_ ?_ ?_ ?_;(intro u hu;simp at hu;subst hu;rfl);(unfold maxLen;omega);omega;(simp;omega);intro v' w3 hown3 hg3 _;have hbw3 := below_app hbw hsz _ hg3 (own_ge hown);have hc3 := (World.grownBy.cell hg3 (a := ⟨b,off + i * 3,none⟩) (v := .string (nameK kk)) (by rw [World.cell?_alloc_past _ _ _ (by omega)];exact c1) (fun e => by have := own_ge hown b e.symm;omega)))
      go_roundw
      case rel => exact ⟨i + 1,n + 1,acc ++ [n],by omega,by simp [HA.out],by omega,by omega,(by rw [<- HD.out,hstep.out,HKK.out,if_neg H24.out,if_pos HO.out];simp),rfl,by go_num,by simpa using hown3,hbw3⟩
      case measure => simp [intOf];omega
    ·have e23 : ((nameK kk).toList == [40]) = false := by rw [q23];simp;omega
     have e18 : ((nameK kk).toList == [46,40]) = false := by rw [q18];simp;omega
     have HO : Hid (¬ (kk = 23 \/ kk = 18)) := ho
     clear q24 q23 q18 h24 hk35 ho
     go_wp2_with (at_builtin;refine wpList_append_own _ rfl (.tmp 20) (.tmp 22) 26 rfl w.heap.size 3 i0 _ 1 8 Tryz.underlying26 hi0 hz0 hz1 hz2 rfl (by decide) _ _ _ rfl (hown.alloc _) _ 1 1 [.int .i64 n] rfl rfl (cells_new _ _ _ _ rfl) ?_ ?_ ?_ ?_ ?_;(intro u hu;simp at hu;subst hu;rfl);(unfold maxLen;omega);omega;(simp;omega);intro v' w3 hown3 hg3 _;have hbw3 := below_app hbw hsz _ hg3 (own_ge hown);have hc3 := (World.grownBy.cell hg3 (a := ⟨b,off + i * 3,none⟩) (v := .string (nameK kk)) (by rw [World.cell?_alloc_past _ _ _ (by omega)];exact c1) (fun e => by have := own_ge hown b e.symm;omega)))
     go_roundw
     case rel => exact ⟨i + 1,n,acc ++ [n],by omega,by simp [HA.out],by omega,by omega,(by rw [<- HD.out,hstep.out,HKK.out,if_neg H24.out,if_neg HO.out];simp),rfl,by go_num,by simpa using hown3,hbw3⟩
     case measure => simp [intOf];omega
  ·have hii : i = L.length := by omega
   have HF : Hid (acc = dsF 0 L) := by
    show _ = _
    have := HD.out
    rw [List.drop_eq_nil_of_le (by omega)] at this
    simpa [dsF] using this
   have HI : Hid (i = L.length) := hii
   clear hii
   go_wp2_with fail
   go_ret
   refine ⟨_,rfl,?_,hbw⟩
   rw [<- HF.out,<- HI.out];exact hown
end Go.Proofs.YtmkdoejpgkgpbaaGreatDoor
