import Derived.Test.YtmkdoejpgkgpbaaGreatDoorS01
set_option linter.unusedVariables false
set_option linter.unusedSimpArgs false
set_option maxHeartbeats 20000000
namespace Go.Proofs.YtmkdoejpgkgpbaaGreatDoor
namespace Sl
structure Tk where
 k : Nat
 n : Nat
 x : ByteArray
deriving DecidableEq
def Tk.of (k : Nat) : Tk := ⟨k,0,⟨#[]⟩⟩
abbrev oB : Tk := Tk.of 23
abbrev cB : Tk := Tk.of 24
def nmTk (x : ByteArray) : Tk := ⟨2,0,x⟩
def nuTk (n : Nat) : Tk := ⟨1,n,⟨#[]⟩⟩
inductive T where
 | nd (br k s n : Nat) (xs : List ByteArray) (kids : List T)
def T.k : T -> Nat
 | .nd _ k _ _ _ _ => k
def T.br : T -> Nat
 | .nd b _ _ _ _ _ => b
def commas : List ByteArray -> List Tk
 | [] => []
 | [x] => [nmTk x]
 | x :: y :: r => nmTk x :: Tk.of 25 :: commas (y :: r)
def pre (k s n : Nat) (xs : List ByteArray) : List Tk :=
 match k with
 | 1 => [nuTk n]
 | 2 => [Tk.of 11]
 | 3 => [Tk.of 12]
 | 4 => [Tk.of 13]
 | 5 => xs.map nmTk
 | 6 => [oB,cB]
 | 8 => Tk.of 3 :: (xs.map nmTk ++ [Tk.of 27])
 | 9 => Tk.of 3 :: Tk.of 4 :: (xs.map nmTk ++ [Tk.of 27])
 | 10 => [Tk.of 3]
 | 11 => [Tk.of 6]
 | 12 => Tk.of 9 :: (xs.map nmTk ++ [Tk.of 22])
 | 13 => [Tk.of 31]
 | 14 => [Tk.of 10]
 | 21 => [Tk.of 14]
 | 22 => [Tk.of 15]
 | 23 => [Tk.of 16]
 | 24 => [Tk.of 17]
 | 25 => commas xs
 | _ => []
def sep (k s i : Nat) : List Tk :=
 match i with
 | 0 => []
 | i + 1 => match k with
   | 7 => [Tk.of 25]
   | 8 | 9 => [Tk.of 5]
   | 10 => if i = 0 then [Tk.of 27] else [Tk.of 5]
   | 11 => if i = 0 then [Tk.of 7] else [Tk.of 8]
   | 15 | 16 | 17 => [Tk.of s]
   | 18 => [Tk.of 26]
   | 20 => [Tk.of 18]
   | _ => []
def post (k : Nat) : List Tk := if k = 20 then [cB] else []
mutual
def fl : T -> List Tk
 | .nd b k s n xs kids => List.replicate b oB ++ (pre k s n xs ++ (flk k s 0 kids ++ (post k ++ List.replicate b cB)))
def flk (k s : Nat) : Nat -> List T -> List Tk
 | _,[] => []
 | i,c :: r => sep k s i ++ (fl c ++ flk k s (i + 1) r)
end
def arB (k s : Nat) (xs : List ByteArray) (m : Nat) : Bool :=
 match k with
 | 1 | 2 | 3 | 4 | 6 => m == 0 && xs.isEmpty
 | 5 => m == 0 && xs.length == 1
 | 7 => decide (2 <= m) && decide (m <= 6) && xs.isEmpty
 | 8 => m == 2 && xs.length == 1
 | 9 => m == 2 && decide (2 <= xs.length) && decide (xs.length <= 5)
 | 10 => m == 3 && xs.isEmpty
 | 11 => m == 3 && xs.isEmpty
 | 12 => m == 1 && decide (1 <= xs.length) && decide (xs.length <= 4)
 | 13 | 14 | 21 | 22 => m == 1 && xs.isEmpty
 | 15 => m == 2 && xs.isEmpty && (s == 32 || s == 33 || s == 34)
 | 16 => m == 2 && xs.isEmpty && (s == 30 || s == 31)
 | 17 => m == 2 && xs.isEmpty && (s == 27 || s == 19 || s == 20 || s == 21 || s == 28 || s == 29)
 | 18 | 20 | 23 => m == 2 && xs.isEmpty
 | 19 => decide (2 <= m) && decide (m <= 5) && xs.isEmpty
 | 24 => m == 3 && xs.isEmpty
 | 25 => m == 0 && decide (2 <= xs.length) && decide (xs.length <= 6)
 | _ => false
mutual
def fine : T -> Prop
 | .nd _ k s _ xs kids => arB k s xs kids.length = true /\ fines kids
def fines : List T -> Prop
 | [] => True
 | c :: r => fine c /\ fines r
end
mutual
def sh : T -> T
 | .nd _ k s n xs kids => .nd 0 k s n xs (shs kids)
def shs : List T -> List T
 | [] => []
 | c :: r => sh c :: shs r
end
def isO (t : Tk) : Bool := t.k == 23
def isC (t : Tk) : Bool := t.k == 24
def isX (t : Tk) : Bool := t.k == 18
def lo : Bool -> List Tk -> Bool
 | p,[] => p
 | _,t :: r => lo (isO t) r
def lf : Bool -> List Tk -> Nat
 | _,[] => 0
 | p,t :: r => (if isO t then 0 else if isC t then (if p then 1 else 0) else 1) + lf (isO t) r
def dep : Nat -> List Tk -> Option Nat
 | d,[] => some d
 | d,t :: r => if isO t || isX t then dep (d + 1) r else if isC t then (match d with | 0 => none | d + 1 => dep d r) else dep d r
def grp : Nat -> Bool -> List Tk -> Nat
 | _,_,[] => 0
 | d,p,t :: r => if isO t then grp (d + 1) true r else if isX t then 1 + grp (d + 1) false r else if isC t then (if p then 1 else 0) + (match d with | 0 => 0 | d + 1 => grp d false r) else 1 + grp d false r
theorem lo_app (x y : List Tk) : ∀ p,lo p (x ++ y) = lo (lo p x) y := by
 induction x with
 | nil => intro p;rfl
 | cons t r ih => intro p;simp [lo,ih]
theorem lf_app (x y : List Tk) : ∀ p,lf p (x ++ y) = lf p x + lf (lo p x) y := by
 induction x with
 | nil => intro p;simp [lf,lo]
 | cons t r ih => intro p;simp only [List.cons_append,lf,lo,ih];omega
theorem dep_app (x y : List Tk) : ∀ d,dep d (x ++ y) = (dep d x).bind fun e => dep e y := by
 induction x with
 | nil => intro d;rfl
 | cons t r ih =>
   intro d
   simp only [List.cons_append,dep]
   split
   ·exact ih _
   ·split
    ·cases d with
     | zero => rfl
     | succ d => exact ih _
    ·exact ih _
theorem isX_not {t : Tk} (h : isX t = true) : isO t = false /\ isC t = false := by
 simp [isX,isO,isC] at *;omega
theorem isC_not {t : Tk} (h : isC t = true) : isO t = false /\ isX t = false := by
 simp [isX,isO,isC] at *;omega
theorem grp_app (x y : List Tk) : ∀ d e p,dep d x = some e -> grp d p (x ++ y) = lf p x + grp e (lo p x) y := by
 induction x with
 | nil => intro d e p h;simp [dep] at h;subst h;simp [lf,lo]
 | cons t r ih =>
   intro d e p h
   simp only [List.cons_append,grp,lf,lo,dep] at *
   by_cases ho : isO t = true
   ·rw [if_pos (by simp [ho])] at h
    rw [if_pos ho,if_pos ho,ih _ _ _ h,ho];simp
   ·have ho' : isO t = false := by simpa using ho
    rw [if_neg ho,if_neg ho,ho']
    by_cases hx : isX t = true
    ·rw [if_pos (by simp [hx])] at h
     have hn := isX_not hx
     rw [if_pos hx,if_neg (by simp [hn.2]),ih _ _ _ h];omega
    ·have hx' : isX t = false := by simpa using hx
     rw [if_neg (by simp [ho',hx'])] at h
     rw [if_neg hx]
     by_cases hc : isC t = true
     ·rw [if_pos hc] at h
      rw [if_pos hc,if_pos hc]
      cases d with
      | zero => simp at h
      | succ d => simp only at h ⊢;rw [ih _ _ _ h];omega
     ·rw [if_neg hc] at h
      rw [if_neg hc,if_neg hc,ih _ _ _ h];omega
end Sl
end Go.Proofs.YtmkdoejpgkgpbaaGreatDoor
namespace Go.Proofs.YtmkdoejpgkgpbaaGreatDoor
namespace Sl
theorem dep_one {t : Tk} (h1 : t.k ≠ 23) (h2 : t.k ≠ 24) (h3 : t.k ≠ 18) (d : Nat) (r : List Tk) : dep d (t :: r) = dep d r := by
 simp [dep,isO,isC,isX,h1,h2,h3]
theorem dep_names (xs : List ByteArray) (d : Nat) (r : List Tk) : dep d (xs.map nmTk ++ r) = dep d r := by
 induction xs with
 | nil => rfl
 | cons x q ih => rw [List.map_cons,List.cons_append,dep_one (by simp [nmTk]) (by simp [nmTk]) (by simp [nmTk])];exact ih
theorem dep_commas (xs : List ByteArray) (d : Nat) : dep d (commas xs) = some d := by
 induction xs with
 | nil => rfl
 | cons x q ih =>
   cases q with
   | nil => simp [commas,nmTk,dep,isO,isC,isX]
   | cons y q => rw [commas,dep_one (by simp [nmTk]) (by simp [nmTk]) (by simp [nmTk]),dep_one (by simp [Tk.of]) (by simp [Tk.of]) (by simp [Tk.of])];exact ih
theorem dep_pre (k s n : Nat) (xs : List ByteArray) (d : Nat) : dep d (pre k s n xs) = some d := by
 unfold pre
 split <;> first
  | rfl
  | (have := dep_names xs d [];simp only [List.append_nil] at this;rw [this];rfl)
  | (rw [dep_one (by simp [Tk.of]) (by simp [Tk.of]) (by simp [Tk.of]),dep_one (by simp [Tk.of]) (by simp [Tk.of]) (by simp [Tk.of]),dep_names];rfl)
  | (rw [dep_one (by simp [Tk.of]) (by simp [Tk.of]) (by simp [Tk.of]),dep_names];rfl)
  | exact dep_commas xs d
theorem dep_sep {k s m : Nat} {xs : List ByteArray} (h : arB k s xs m = true) (hk : k ≠ 20) (i d : Nat) : dep d (sep k s i) = some d := by
 cases i with
 | zero => rfl
 | succ i =>
   unfold arB at h
   unfold sep
   split at h <;> first
    | rfl
    | (exfalso;exact hk rfl)
    | (simp at h;rcases h with ⟨_,h⟩;simp only;rw [dep_one (by simp [Tk.of];omega) (by simp [Tk.of];omega) (by simp [Tk.of];omega)];rfl)
    | (simp only;split <;> rfl)
    | (simp at h;done)
theorem lo_commas (xs : List ByteArray) (h : xs ≠ []) (p : Bool) : lo p (commas xs) = false := by
 induction xs generalizing p with
 | nil => exact absurd rfl h
 | cons x q ih =>
   cases q with
   | nil => rfl
   | cons y q => rw [commas,lo,lo];exact ih (by simp) _
theorem lo_names (xs : List ByteArray) (p : Bool) (h : xs ≠ []) : lo p (xs.map nmTk) = false := by
 induction xs generalizing p with
 | nil => exact absurd rfl h
 | cons x q ih =>
   cases q with
   | nil => rfl
   | cons y q => rw [List.map_cons,lo];exact ih _ (by simp)
structure Bal (x : List Tk) : Prop where
 dep : ∀ d,dep d x = some d
 lo : ∀ p,lo p x = false
 ne : x ≠ []
theorem Bal.app {x y : List Tk} (hx : Bal x) (hy : Bal y) : Bal (x ++ y) :=
 ⟨fun d => by rw [dep_app,hx.dep];exact hy.dep d,fun p => by rw [lo_app];exact hy.lo _,by intro h;exact hx.ne (List.append_eq_nil_iff.1 h).1⟩
theorem Bal.app_nil {x y : List Tk} (hx : Bal x) (hy : y = [] \/ Bal y) : Bal (x ++ y) := by
 rcases hy with rfl | hy
 ·simpa using hx
 ·exact hx.app hy
theorem Bal.nil_app {x y : List Tk} (hx : ∀ d,Sl.dep d x = some d) (hy : Bal y) : Bal (x ++ y) :=
 ⟨fun d => by rw [dep_app,hx];exact hy.dep d,fun p => by rw [lo_app];exact hy.lo _,by intro h;exact hy.ne (List.append_eq_nil_iff.1 h).2⟩
theorem Bal.wrap {x : List Tk} (hx : Bal x) (b : Nat) : Bal (List.replicate b oB ++ (x ++ List.replicate b cB)) := by
 induction b with
 | zero => simpa using hx
 | succ b ih =>
   have e : List.replicate (b + 1) oB ++ (x ++ List.replicate (b + 1) cB) = oB :: (List.replicate b oB ++ (x ++ List.replicate b cB)) ++ [cB] := by
    rw [List.replicate_succ,List.replicate_succ' (n := b) (a := cB)];simp
   rw [e]
   refine ⟨fun d => ?_,fun p => ?_,by simp⟩
   ·rw [dep_app]
    have : Sl.dep d (oB :: (List.replicate b oB ++ (x ++ List.replicate b cB))) = some (d + 1) := by
     show Sl.dep (d + 1) _ = _;exact ih.dep _
    rw [this];rfl
   ·rw [lo_app];rfl
mutual
theorem fl_bal : ∀ c : T,fine c -> Bal (fl c)
 | .nd b k s n xs kids,h => by
   rw [fl]
   have hf : Bal (pre k s n xs ++ (flk k s 0 kids ++ post k)) := by
    obtain ⟨ha,hk⟩ := h
    by_cases h20 : k = 20
    ·subst h20
     have hm : kids.length = 2 := by simp [arB] at ha;exact ha.1
     match kids,hm,hk with
     | [c,d],_,hk =>
       have hc := fl_bal c hk.1
       have hd := fl_bal d hk.2.1
       simp only [flk,sep,pre,post,if_pos,List.nil_append,List.append_nil]
       refine ⟨fun e => ?_,fun p => ?_,?_⟩
       ·rw [List.append_assoc,dep_app,hc.dep]
        show dep e (Tk.of 18 :: (fl d ++ [cB])) = some e
        show dep (e + 1) (fl d ++ [cB]) = some e
        rw [dep_app,hd.dep];rfl
       ·rw [lo_app];rfl
       ·simp
    ·have hs := flk_bal kids hk k s xs kids.length ha h20
     have hp : post k = [] := by unfold post;rw [if_neg h20]
     rw [hp,List.append_nil]
     cases kids with
     | nil =>
       simp only [flk,List.append_nil]
       refine ⟨dep_pre k s n xs,fun p => ?_,?_⟩
       ·unfold arB at ha
        unfold pre
        split at ha <;> first
         | rfl
         | (simp at ha;done)
         | (simp only;refine lo_names xs p (fun e => ?_);subst e;simp at ha)
         | (simp only;refine lo_commas xs (fun e => ?_) p;subst e;simp at ha)
       ·intro hn
        unfold arB at ha
        unfold pre at hn
        split at ha <;> first
         | (simp at hn;done)
         | (simp at ha;done)
         | (simp at hn;subst hn;simp at ha;done)
         | (simp only at hn;cases xs with | nil => simp at ha | cons x q => cases q <;> simp [commas] at hn)
     | cons c r => exact Bal.nil_app (dep_pre k s n xs) (hs 0 (by simp))
   have := hf.wrap b
   simpa using this
theorem flk_bal : ∀ (kids : List T),fines kids -> ∀ (k s : Nat) (xs : List ByteArray) (m : Nat),arB k s xs m = true -> k ≠ 20 -> ∀ i,kids ≠ [] -> Bal (flk k s i kids)
 | [],_ => by intro k s xs m _ _ i h;exact absurd rfl h
 | c :: r,h => by
   intro k s xs m ha hk i _
   rw [flk]
   refine Bal.nil_app (dep_sep ha hk i) ?_
   have hc := fl_bal c h.1
   refine hc.app_nil ?_
   cases r with
   | nil => exact .inl rfl
   | cons d q => exact .inr (flk_bal (d :: q) h.2 k s xs m ha hk (i + 1) (by simp))
end
end Sl
end Go.Proofs.YtmkdoejpgkgpbaaGreatDoor
namespace Go.Proofs.YtmkdoejpgkgpbaaGreatDoor
namespace Sl
theorem Bal.head {t : Tk} {r : List Tk} (h : Bal (t :: r)) : isC t = false := by
 cases hc : isC t with
 | false => rfl
 | true =>
   have := h.dep 0
   have hn := isC_not hc
   simp [Sl.dep,hn.1,hn.2,hc] at this
theorem Bal.lf {x : List Tk} (h : Bal x) (p : Bool) : lf p x = lf false x := by
 cases x with
 | nil => rfl
 | cons t r => simp [Sl.lf,h.head]
theorem lf_opens (b : Nat) (p : Bool) : lf p (List.replicate b oB) = 0 := by
 induction b generalizing p with
 | zero => rfl
 | succ b ih => rw [List.replicate_succ,lf,ih];simp [isO,Tk.of]
theorem lf_closes (b : Nat) : lf false (List.replicate b cB) = 0 := by
 induction b with
 | zero => rfl
 | succ b ih => rw [List.replicate_succ,lf];simp [isO,isC,Tk.of];exact ih
theorem lf_wrap {x : List Tk} (h : Bal x) (b : Nat) (p : Bool) : lf p (List.replicate b oB ++ (x ++ List.replicate b cB)) = lf false x := by
 rw [lf_app,lf_opens,lf_app,h.lf,h.lo,lf_closes];omega
def bod (k s n : Nat) (xs : List ByteArray) (kids : List T) : List Tk := pre k s n xs ++ (flk k s 0 kids ++ post k)
theorem fl_eq (b k s n : Nat) (xs : List ByteArray) (kids : List T) : fl (.nd b k s n xs kids) = List.replicate b oB ++ (bod k s n xs kids ++ List.replicate b cB) := by
 rw [fl,bod];simp
theorem bod_bal {k s n : Nat} {xs : List ByteArray} {kids : List T} (h : arB k s xs kids.length = true) (hk : fines kids) : Bal (bod k s n xs kids) := by
 have := fl_bal (.nd 0 k s n xs kids) ⟨h,hk⟩
 rw [fl_eq] at this
 simpa using this
def lv (c : T) : Nat := lf false (fl c)
theorem lv_eq {b k s n : Nat} {xs : List ByteArray} {kids : List T} (h : arB k s xs kids.length = true) (hk : fines kids) : lv (.nd b k s n xs kids) = lf false (bod k s n xs kids) := by
 unfold lv
 rw [fl_eq,lf_wrap (bod_bal h hk)]
theorem two_kids {k s n m : Nat} {xs : List ByteArray} (h : arB k s xs m = true) (hp : pre k s n xs = []) : 2 <= m := by
 unfold arB at h
 unfold pre at hp
 split at h <;> first
  | (simp at hp;done)
  | (simp at h;done)
  | (simp at h;omega)
  | (simp at hp;subst hp;simp at h;done)
  | (simp only at hp;cases xs with | nil => simp at h | cons x q => cases q <;> simp [commas] at hp)
theorem pre_head {k s n m : Nat} {xs : List ByteArray} {t : Tk} {r : List Tk} (h : arB k s xs m = true) (hp : pre k s n xs = t :: r) : (k = 6 /\ t = oB /\ r = [cB]) \/ isO t = false := by
 unfold arB at h
 unfold pre at hp
 split at h <;> first
  | (simp at hp;rw [<- hp.1];right;rfl)
  | (simp at hp;left;exact ⟨rfl,hp.1.symm,hp.2.symm⟩)
  | (simp at h;done)
  | (simp at hp;done)
  | (cases xs with
   | nil => simp at h
   | cons x q => simp at hp;rw [<- hp.1];right;rfl)
  | (cases xs with
   | nil => simp at h
   | cons x q => cases q with
     | nil => simp [commas] at hp;rw [<- hp.1];right;rfl
     | cons y q => simp [commas] at hp;rw [<- hp.1];right;rfl)
theorem lv_pos : ∀ (n : Nat) (c : T),SizeOf.sizeOf c <= n -> fine c -> 1 <= lv c := by
 intro n
 induction n with
 | zero => intro c h;cases c;simp at h
 | succ n ih =>
   intro c hs hf
   cases c with
   | nd b k s m xs kids =>
     rw [lv_eq hf.1 hf.2]
     have hb := bod_bal (n := m) hf.1 hf.2
     cases hp : pre k s m xs with
     | cons t r =>
       unfold bod
       rw [hp,List.cons_append,lf]
       rcases pre_head hf.1 hp with ⟨_,rfl,rfl⟩ | ho
       ·simp [lf,isO,isC,Tk.of]
       ·have hc : isC t = false := by unfold bod at hb;rw [hp,List.cons_append] at hb;exact hb.head
        simp [ho,hc]
     | nil =>
       have h2 := two_kids (n := m) hf.1 hp
       cases kids with
       | nil => simp at h2
       | cons c0 r =>
         unfold bod
         rw [hp,flk,List.nil_append]
         have h0 := ih c0 (by simp at hs;omega) hf.2.1
         have e : sep k s 0 = [] := rfl
         rw [e,List.nil_append,List.append_assoc,lf_app]
         unfold lv at h0
         omega
mutual
theorem lv_sh : ∀ (a b : T),fine a -> fine b -> sh a = sh b -> lv a = lv b
 | .nd b1 k s n xs kids,.nd b2 k2 s2 n2 xs2 kids2,h1,h2,h => by
   rw [sh,sh] at h
   injection h with _ e1 e2 e3 e4 e5
   subst e1 e2 e3 e4
   rw [lv_eq h1.1 h1.2,lv_eq h2.1 h2.2]
   unfold bod
   rw [lf_app,lf_app (pre k s n xs)]
   congr 1
   rw [lf_app,lf_app (flk k s 0 kids2)]
   have := lvs_sh kids kids2 h1.2 h2.2 e5 k s 0 (lo false (pre k s n xs))
   rw [this.1,this.2]
theorem lvs_sh : ∀ (a b : List T),fines a -> fines b -> shs a = shs b -> ∀ (k s i : Nat) (p : Bool),lf p (flk k s i a) = lf p (flk k s i b) /\ lo p (flk k s i a) = lo p (flk k s i b)
 | [],[],_,_,_ => by intro k s i p;exact ⟨rfl,rfl⟩
 | [],_ :: _,_,_,h => by simp [shs] at h
 | _ :: _,[],_,_,h => by simp [shs] at h
 | c :: r,d :: q,h1,h2,h => by
   intro k s i p
   rw [shs,shs] at h
   injection h with e1 e2
   have hc := lv_sh c d h1.1 h2.1 e1
   have hb1 := fl_bal c h1.1
   have hb2 := fl_bal d h2.1
   have hr := lvs_sh r q h1.2 h2.2 e2 k s (i + 1) false
   rw [flk,flk]
   simp only [lf_app,lo_app,hb1.lo,hb2.lo,hb1.lf,hb2.lf,hr.1,hr.2]
   unfold lv at hc
   rw [hc]
   simp
end
theorem grp_first : ∀ (n : Nat) (c : T),SizeOf.sizeOf c <= n -> fine c -> ∀ (r q : List Tk) (t : Tk),fl c ++ r = t :: q -> isO t = true -> grp 0 true q <= lv c := by
 intro n
 induction n with
 | zero => intro c h;cases c;simp at h
 | succ n ih =>
   intro c hs hf r q t he ho
   cases c with
   | nd b k s m xs kids =>
     have hb := bod_bal (n := m) hf.1 hf.2
     have hlv := lv_eq (b := b) (n := m) hf.1 hf.2
     cases b with
     | succ b =>
       have hw := hb.wrap b
       have e : fl (.nd (b + 1) k s m xs kids) ++ r = oB :: ((List.replicate b oB ++ (bod k s m xs kids ++ List.replicate b cB)) ++ (cB :: r)) := by
        rw [fl_eq,List.replicate_succ,List.replicate_succ' (n := b) (a := cB)];simp
       rw [e] at he
       injection he with _ he
       rw [<- he,grp_app _ _ 0 0 true (hw.dep 0),lf_wrap hb,hw.lo]
       have : grp 0 false (cB :: r) = 0 := rfl
       omega
     | zero =>
       rw [fl_eq] at he
       simp only [List.replicate_zero,List.nil_append,List.append_nil] at he
       cases hp : pre k s m xs with
       | cons u v =>
         have he' := he
         unfold bod at he'
         rw [hp,List.cons_append,List.cons_append] at he'
         injection he' with e1 e2
         rcases pre_head hf.1 hp with ⟨rfl,rfl,rfl⟩ | hu
         ·have hm : kids = [] := by
           have := hf.1
           simp [arB] at this
           exact this.1
          subst hm
          have : lv (.nd 0 6 s m xs []) = 1 := by
           rw [hlv];unfold bod;rw [hp];rfl
          rw [this,<- e2]
          have : grp 0 true ([cB] ++ (flk 6 s 0 [] ++ post 6) ++ r) = 1 := rfl
          omega
         ·rw [<- e1,hu] at ho;cases ho
       | nil =>
         have h2 := two_kids (n := m) hf.1 hp
         cases kids with
         | nil => simp at h2
         | cons c0 rest =>
           unfold bod at he
           rw [hp,flk,List.nil_append] at he
           have e : sep k s 0 = [] := rfl
           rw [e,List.nil_append,List.append_assoc,List.append_assoc] at he
           have h0 := ih c0 (by simp at hs;omega) hf.2.1 _ q t he ho
           have : lv c0 <= lv (.nd 0 k s m xs (c0 :: rest)) := by
            rw [hlv];unfold bod;rw [hp,flk,List.nil_append,e,List.nil_append,List.append_assoc,lf_app];unfold lv;omega
           omega
theorem clash {k s n : Nat} {xs : List ByteArray} {kids1 kids2 : List T} (ha : arB k s xs kids1.length = true) (ha2 : arB k s xs kids2.length = true) (h1 : fines kids1) (h2 : fines kids2) (hs : shs kids1 = shs kids2)
 (d : Nat) (X Y : List Tk) (h : bod k s n xs kids1 ++ X = oB :: (List.replicate d oB ++ (bod k s n xs kids2 ++ (List.replicate d cB ++ (cB :: Y))))) : False := by
 have hb2 := bod_bal (n := n) ha2 h2
 cases hp : pre k s n xs with
 | cons u v =>
   have h' := h
   unfold bod at h'
   rw [hp,List.cons_append,List.cons_append] at h'
   injection h' with e1 e2
   rcases pre_head ha hp with ⟨rfl,rfl,rfl⟩ | hu
   ·cases d with
    | zero =>
      simp only [List.replicate_zero,List.nil_append,List.cons_append] at e2
      injection e2 with e3 _
      revert e3;decide
    | succ d =>
      rw [List.replicate_succ] at e2
      simp only [List.nil_append,List.cons_append] at e2
      injection e2 with e3 _
      revert e3;decide
   ·rw [e1] at hu;revert hu;decide
 | nil =>
   have hk := two_kids (n := n) ha hp
   match kids1,kids2,hk,ha,ha2,h1,h2,hs,h,hb2 with
   | c0 :: c1 :: r1,[],_,_,_,_,_,hs,_,_ => simp [shs] at hs
   | c0 :: c1 :: r1,[_],_,_,_,_,_,hs,_,_ => simp [shs] at hs
   | c0 :: c1 :: r1,d0 :: d1 :: r2,_,ha,ha2,h1,h2,hs,h,hb2 =>
     simp only [shs] at hs
     injection hs with s0 hs
     injection hs with s1 hs
     have hw := hb2.wrap d
     have e : oB :: (List.replicate d oB ++ (bod k s n xs (d0 :: d1 :: r2) ++ (List.replicate d cB ++ (cB :: Y)))) = oB :: ((List.replicate d oB ++ (bod k s n xs (d0 :: d1 :: r2) ++ List.replicate d cB)) ++ (cB :: Y)) := by simp
     rw [e] at h
     have hl : bod k s n xs (c0 :: c1 :: r1) ++ X = fl c0 ++ (flk k s 1 (c1 :: r1) ++ post k ++ X) := by
      unfold bod;rw [hp,flk];simp [sep]
     rw [hl] at h
     have g1 := grp_first _ c0 (Nat.le_refl _) h1.1 _ _ _ h rfl
     rw [grp_app _ _ 0 0 true (hw.dep 0),lf_wrap hb2] at g1
     have g2 : lv d0 + lv d1 <= lf false (bod k s n xs (d0 :: d1 :: r2)) := by
      unfold bod
      have b0 := fl_bal d0 h2.1
      have b1 := fl_bal d1 h2.2.1
      rw [hp,flk,flk]
      simp only [List.nil_append,show sep k s 0 = [] from rfl,lf_app,b0.lo,b1.lf,lv]
      omega
     have g3 := lv_sh c0 d0 h1.1 h2.1 s0
     have g4 := lv_pos _ d1 (Nat.le_refl _) h2.2.1
     omega
mutual
theorem inj : ∀ (a b : T),fine a -> fine b -> sh a = sh b -> ∀ r1 r2,fl a ++ r1 = fl b ++ r2 -> a = b /\ r1 = r2
 | .nd b1 k s n xs kids,.nd b2 k2 s2 n2 xs2 kids2,h1,h2,h => by
   intro r1 r2 he
   rw [sh,sh] at h
   injection h with _ e1 e2 e3 e4 e5
   subst e1 e2 e3 e4
   rw [fl_eq,fl_eq] at he
   rcases Nat.lt_trichotomy b1 b2 with hlt | heq | hgt
   ·exfalso
    obtain ⟨d,rfl⟩ : ∃ d,b2 = b1 + (d + 1) := ⟨b2 - b1 - 1,by omega⟩
    refine clash h1.1 h2.1 h1.2 h2.2 e5 d (List.replicate b1 cB ++ r1) (List.replicate b1 cB ++ r2) (n := n) ?_
    have e : List.replicate (b1 + (d + 1)) oB = List.replicate b1 oB ++ (oB :: List.replicate d oB) := by rw [<- List.replicate_append_replicate,List.replicate_succ]
    have e' : List.replicate (b1 + (d + 1)) cB = List.replicate d cB ++ (cB :: List.replicate b1 cB) := by
     rw [show b1 + (d + 1) = d + (b1 + 1) by omega,<- List.replicate_append_replicate,List.replicate_succ (n := b1)]
    rw [e,e'] at he
    simpa using he
   ·subst heq
    simp only [List.append_assoc,List.append_cancel_left_eq] at he
    unfold bod at he
    simp only [List.append_assoc,List.append_cancel_left_eq] at he
    have := injs kids kids2 h1.2 h2.2 e5 k s 0 _ _ he
    refine ⟨by rw [this.1],?_⟩
    have h3 := this.2
    simp only [List.append_cancel_left_eq] at h3
    exact h3
   ·exfalso
    obtain ⟨d,rfl⟩ : ∃ d,b1 = b2 + (d + 1) := ⟨b1 - b2 - 1,by omega⟩
    refine clash h2.1 h1.1 h2.2 h1.2 e5.symm d (List.replicate b2 cB ++ r2) (List.replicate b2 cB ++ r1) (n := n) ?_
    have e : List.replicate (b2 + (d + 1)) oB = List.replicate b2 oB ++ (oB :: List.replicate d oB) := by rw [<- List.replicate_append_replicate,List.replicate_succ]
    have e' : List.replicate (b2 + (d + 1)) cB = List.replicate d cB ++ (cB :: List.replicate b2 cB) := by
     rw [show b2 + (d + 1) = d + (b2 + 1) by omega,<- List.replicate_append_replicate,List.replicate_succ (n := b2)]
    rw [e,e'] at he
    simpa using he.symm
theorem injs : ∀ (a b : List T),fines a -> fines b -> shs a = shs b -> ∀ (k s i : Nat) r1 r2,flk k s i a ++ r1 = flk k s i b ++ r2 -> a = b /\ r1 = r2
 | [],[],_,_,_ => by intro k s i r1 r2 h;exact ⟨rfl,h⟩
 | [],_ :: _,_,_,h => by simp [shs] at h
 | _ :: _,[],_,_,h => by simp [shs] at h
 | c :: r,d :: q,h1,h2,h => by
   intro k s i r1 r2 he
   rw [shs,shs] at h
   injection h with e1 e2
   rw [flk,flk] at he
   simp only [List.append_assoc,List.append_cancel_left_eq] at he
   have hc := inj c d h1.1 h2.1 e1 _ _ he
   have hr := injs r q h1.2 h2.2 e2 k s (i + 1) _ _ hc.2
   exact ⟨by rw [hc.1,hr.1],hr.2⟩
end
end Sl
end Go.Proofs.YtmkdoejpgkgpbaaGreatDoor
namespace Go.Proofs.YtmkdoejpgkgpbaaGreatDoor
namespace Sl
def rk (k : Nat) : Nat :=
 match k with
 | 8 | 9 | 10 | 11 | 12 | 18 => 0
 | 17 => 1
 | 16 => 2
 | 15 => 3
 | 13 | 14 => 4
 | 19 | 21 | 22 | 23 | 24 => 5
 | 20 => 6
 | _ => 7
def wanted (k i : Nat) : Nat :=
 match k with
 | 17 => 2
 | 16 => if i = 0 then 2 else 3
 | 15 => if i = 0 then 3 else 4
 | 13 | 14 => 4
 | 19 | 21 | 22 | 23 | 24 => 6
 | 18 => if i = 0 then 1 else 0
 | 20 => if i = 0 then 6 else 0
 | _ => 0
theorem rk_le (k : Nat) : rk k <= 7 := by unfold rk;split <;> omega
theorem wanted_le (k i : Nat) : wanted k i <= 7 := by unfold wanted;split <;> (try split) <;> omega
def rkT : T -> Nat
 | .nd b k _ _ _ _ => if 1 <= b then 7 else rk k
mutual
def wf : T -> Prop
 | .nd b k s n xs kids => arB k s xs kids.length = true /\ (k = 7 -> 1 <= b) /\ (k = 25 -> b = 1) /\ wfs k 0 kids
def wfs (k : Nat) : Nat -> List T -> Prop
 | _,[] => True
 | i,c :: r => wf c /\ wanted k i <= rkT c /\ (c.k = 25 ↔ (k = 10 /\ i = 0)) /\ wfs k (i + 1) r
end
def patOk (k i : Nat) (c : T) : Prop := c.k = 25 ↔ (k = 10 /\ i = 0)
mutual
theorem wf_fine : ∀ c : T,wf c -> fine c
 | .nd _ _ _ _ _ kids,h => ⟨h.1,wfs_fines kids _ _ h.2.2.2⟩
theorem wfs_fines : ∀ (l : List T) (k i : Nat),wfs k i l -> fines l
 | [],_,_,_ => trivial
 | c :: r,k,i,h => ⟨wf_fine c h.1,wfs_fines r k (i + 1) h.2.2.2⟩
end
def Says (l : List Tk) (t : T) : Prop := ∃ c,wf c /\ c.k ≠ 25 /\ fl c = l /\ sh c = t
def fb (k : Nat) : Nat := if k <= 6 then 0 else 1
def need (q k : Nat) : Nat := if k = 7 \/ k = 25 then 1 else if rk k < q then 1 else 0
mutual
def fu : T -> T
 | .nd _ k s n xs kids => .nd (fb k) k s n xs (fus kids)
def fus : List T -> List T
 | [] => []
 | c :: r => fu c :: fus r
end
mutual
def mi (q : Nat) : T -> T
 | .nd _ k s n xs kids => .nd (need q k) k s n xs (mik k 0 kids)
def mik (k : Nat) : Nat -> List T -> List T
 | _,[] => []
 | i,c :: r => mi (wanted k i) c :: mik k (i + 1) r
end
mutual
def pats : T -> Prop
 | .nd _ k _ _ _ kids => patss k 0 kids
def patss (k : Nat) : Nat -> List T -> Prop
 | _,[] => True
 | i,c :: r => patOk k i c /\ pats c /\ patss k (i + 1) r
end
theorem fus_len : ∀ l : List T,(fus l).length = l.length
 | [] => rfl
 | c :: r => by rw [fus,List.length_cons,List.length_cons,fus_len r]
theorem mik_len (k : Nat) : ∀ (l : List T) (i : Nat),(mik k i l).length = l.length
 | [],_ => rfl
 | c :: r,i => by rw [mik,List.length_cons,List.length_cons,mik_len k r (i + 1)]
theorem fu_k (c : T) : (fu c).k = c.k := by cases c;rfl
theorem mi_k (q : Nat) (c : T) : (mi q c).k = c.k := by cases c;rfl
theorem rkT_fu (c : T) (h : fine c) : rkT (fu c) = 7 := by
 cases c with
 | nd b k s n xs kids =>
   have ha := h.1
   rw [fu,rkT]
   unfold fb
   by_cases hk : k <= 6
   ·rw [if_pos hk,if_neg (by omega)]
    unfold rk
    split <;> first | rfl | omega
   ·rw [if_neg hk,if_pos (by omega)]
mutual
theorem fu_wf : ∀ c : T,fine c -> pats c -> wf (fu c)
 | .nd b k s n xs kids,h,hp => by
   rw [fu,wf]
   refine ⟨by rw [fus_len];exact h.1,?_,?_,fus_wf kids h.2 k 0 hp⟩
   ·rintro rfl;exact Nat.le_refl _
   ·rintro rfl;rfl
theorem fus_wf : ∀ (l : List T),fines l -> ∀ k i,patss k i l -> wfs k i (fus l)
 | [],_ => by intro k i _;trivial
 | c :: r,h => by
   intro k i hp
   rw [fus,wfs]
   refine ⟨fu_wf c h.1 hp.2.1,?_,?_,fus_wf r h.2 k (i + 1) hp.2.2⟩
   ·rw [rkT_fu c h.1];exact wanted_le k i
   ·rw [fu_k];exact hp.1
end
theorem rkT_mi (q : Nat) (c : T) (hq : q <= 7) : q <= rkT (mi q c) := by
 cases c with
 | nd b k s n xs kids =>
   rw [mi,rkT]
   unfold need
   split
   ·exact hq
   ·split at * <;> (try split at *) <;> omega
mutual
theorem mi_wf : ∀ c : T,fine c -> pats c -> ∀ q,wf (mi q c)
 | .nd b k s n xs kids,h,hp => by
   intro q
   rw [mi,wf]
   refine ⟨by rw [mik_len];exact h.1,?_,?_,mik_wf kids h.2 k 0 hp⟩
   ·rintro rfl;exact Nat.le_refl _
   ·rintro rfl;rfl
theorem mik_wf : ∀ (l : List T),fines l -> ∀ k i,patss k i l -> wfs k i (mik k i l)
 | [],_ => by intro k i _;trivial
 | c :: r,h => by
   intro k i hp
   rw [mik,wfs]
   exact ⟨mi_wf c h.1 hp.2.1 _,rkT_mi _ c (wanted_le k i),by rw [mi_k];exact hp.1,mik_wf r h.2 k (i + 1) hp.2.2⟩
end
mutual
theorem sh_fu : ∀ c : T,sh (fu c) = sh c
 | .nd _ k s n xs kids => by rw [fu,sh,sh,shs_fus kids]
theorem shs_fus : ∀ l : List T,shs (fus l) = shs l
 | [] => rfl
 | c :: r => by rw [fus,shs,shs,sh_fu c,shs_fus r]
end
mutual
theorem sh_mi : ∀ (c : T) (q : Nat),sh (mi q c) = sh c
 | .nd _ k s n xs kids,q => by rw [mi,sh,sh,shs_mik kids]
theorem shs_mik : ∀ (l : List T) (k i : Nat),shs (mik k i l) = shs l
 | [],_,_ => rfl
 | c :: r,k,i => by rw [mik,shs,shs,sh_mi c,shs_mik r]
end
theorem shs_app : ∀ a b : List T,shs (a ++ b) = shs a ++ shs b
 | [],b => rfl
 | c :: r,b => by rw [List.cons_append,shs,shs,shs_app r b];rfl
theorem wfs_app (k : Nat) : ∀ (a b : List T) (i : Nat),wfs k i (a ++ b) ↔ wfs k i a /\ wfs k (i + a.length) b
 | [],b,i => by simp [wfs]
 | c :: r,b,i => by
   rw [List.cons_append,wfs,wfs,wfs_app k r b (i + 1),List.length_cons,show i + 1 + r.length = i + (r.length + 1) by omega]
   constructor
   ·rintro ⟨h1,h2,h3,h4,h5⟩;exact ⟨⟨h1,h2,h3,h4⟩,h5⟩
   ·rintro ⟨⟨h1,h2,h3,h4⟩,h5⟩;exact ⟨h1,h2,h3,h4,h5⟩
theorem flk_app (k s : Nat) : ∀ (a b : List T) (i : Nat),flk k s i (a ++ b) = flk k s i a ++ flk k s (i + a.length) b
 | [],b,i => by simp [flk]
 | c :: r,b,i => by rw [List.cons_append,flk,flk,flk_app k s r b (i + 1),List.length_cons,show i + 1 + r.length = i + (r.length + 1) by omega];simp
theorem fines_app : ∀ a b : List T,fines (a ++ b) ↔ fines a /\ fines b
 | [],b => by simp [fines]
 | c :: r,b => by
   rw [List.cons_append,fines,fines,fines_app r b]
   exact ⟨fun h => ⟨⟨h.1,h.2.1⟩,h.2.2⟩,fun h => ⟨h.1.1,h.1.2,h.2⟩⟩
structure Frame where
 b : Nat
 k : Nat
 s : Nat
 n : Nat
 xs : List ByteArray
 l : List T
 r : List T
def Frame.plug (f : Frame) (c : T) : T := .nd f.b f.k f.s f.n f.xs (f.l ++ c :: f.r)
def plug : List Frame -> T -> T
 | [],c => c
 | f :: C,c => plug C (f.plug c)
def ahead : List Frame -> List Tk
 | [] => []
 | f :: C => ahead C ++ (List.replicate f.b oB ++ (pre f.k f.s f.n f.xs ++ (flk f.k f.s 0 f.l ++ sep f.k f.s f.l.length)))
def behind : List Frame -> List Tk
 | [] => []
 | f :: C => flk f.k f.s (f.l.length + 1) f.r ++ (post f.k ++ (List.replicate f.b cB ++ behind C))
theorem fl_plug : ∀ (C : List Frame) (c : T),fl (plug C c) = ahead C ++ (fl c ++ behind C)
 | [],c => by simp [plug,ahead,behind]
 | f :: C,c => by
   rw [plug,fl_plug C,Frame.plug,fl,flk_app,flk,ahead,behind]
   simp
def wantC : List Frame -> Nat
 | [] => 0
 | f :: _ => wanted f.k f.l.length
def patC : List Frame -> T -> Prop
 | [],c => c.k ≠ 25
 | f :: _,c => patOk f.k f.l.length c
def okC : List Frame -> Prop
 | [] => True
 | f :: C => (∀ c,patOk f.k f.l.length c -> wf c -> wanted f.k f.l.length <= rkT c -> wf (f.plug c)) /\ (∀ c,wantC C <= rkT (f.plug c)) /\ (∀ c,patC C (f.plug c)) /\ okC C
theorem ok_plug : ∀ (C : List Frame) (c : T),okC C -> wf c -> wantC C <= rkT c -> patC C c -> wf (plug C c) /\ (plug C c).k ≠ 25
 | [],c,_,h,_,hp => ⟨h,hp⟩
 | f :: C,c,hC,h,hw,hp => by
   rw [plug]
   exact ok_plug C (f.plug c) hC.2.2.2 (hC.1 c hp h hw) (hC.2.1 c) (hC.2.2.1 c)
theorem of_plug : ∀ (C : List Frame) (c : T),wf (plug C c) -> wf c /\ wantC C <= rkT c
 | [],c,h => ⟨h,Nat.zero_le _⟩
 | f :: C,c,h => by
   rw [plug] at h
   have h1 := (of_plug C _ h).1
   rw [Frame.plug,wf] at h1
   have h2 := (wfs_app f.k f.l (c :: f.r) 0).1 h1.2.2.2
   rw [Nat.zero_add,wfs] at h2
   exact ⟨h2.2.1,h2.2.2.1⟩
theorem sh_plug : ∀ (C : List Frame) (c d : T),sh c = sh d -> sh (plug C c) = sh (plug C d)
 | [],_,_,h => h
 | f :: C,c,d,h => by
   rw [plug,plug]
   refine sh_plug C _ _ ?_
   rw [Frame.plug,Frame.plug,sh,sh,shs_app,shs_app,shs,shs,h]
theorem fine_plug : ∀ (C : List Frame) (c d : T),fine (plug C c) -> fine d -> fine (plug C d)
 | [],_,_,_,h => h
 | f :: C,c,d,h,hd => by
   rw [plug] at *
   refine fine_plug C _ _ h ?_
   have h1 := fine_hole C _ h
   rw [Frame.plug,fine] at *
   refine ⟨by simpa using h1.1,?_⟩
   rw [fines_app,fines] at *
   exact ⟨h1.2.1,hd,h1.2.2.2⟩
where
 fine_hole : ∀ (C : List Frame) (c : T),fine (plug C c) -> fine c
  | [],_,h => h
  | f :: C,c,h => by
    rw [plug] at h
    have h1 := fine_hole C _ h
    rw [Frame.plug,fine,fines_app,fines] at h1
    exact h1.2.2.1
end Sl
end Go.Proofs.YtmkdoejpgkgpbaaGreatDoor
namespace Go.Proofs.YtmkdoejpgkgpbaaGreatDoor
namespace Sl
def Tok.tk (t : Tok) : Tk := ⟨t.k,if t.k = 1 then t.n else 0,if t.k = 2 then t.t else ⟨#[]⟩⟩
inductive V where
 | tk (t : Tok)
 | tr (c : T)
 | nm (xs : List ByteArray)
inductive J where
 | expr | lett | cmp | sum | prod | sign | call | operand | atom | bracket
 | rest (a : T) | cmpd (a : T) | terms (a : T) | facs (a : T) | index (a : T)
 | args (m : Nat) (az : List T) | items (m : Nat) (az : List T)
 | params (m : Nat) (xs : List ByteArray) | names (m : Nat) (xs : List ByteArray)
inductive St where
 | tm (k : Nat)
 | op (k : Nat)
 | cl
 | jb (j : J)
inductive Fin' where
 | out (v : V)
 | go (j : J)
def isCmp (k : Nat) : Bool := k == 27 || k == 19 || k == 20 || k == 21 || k == 28 || k == 29
def isSum (k : Nat) : Bool := k == 30 || k == 31
def isPro (k : Nat) : Bool := k == 32 || k == 33 || k == 34
def isLeaf (k : Nat) : Bool := k == 1 || k == 2 || k == 11 || k == 12 || k == 13
def isOpd (k : Nat) : Bool := isLeaf k || k == 23
def nop : Fin' := .out (.nm [])
def leaf (t : Tok) : T :=
 if t.k = 1 then .nd 0 1 0 t.n [] [] else if t.k = 2 then .nd 0 5 0 0 [t.t] [] else if t.k = 11 then .nd 0 2 0 0 [] [] else if t.k = 12 then .nd 0 3 0 0 [] [] else .nd 0 4 0 0 [] []
def brk : T -> T
 | .nd b k s n xs kids => .nd (b + 1) k s n xs kids
def argsT : List T -> T
 | [a] => a
 | az => .nd 0 19 0 0 [] az
def itemsT : List T -> T
 | [a] => brk a
 | az => .nd 1 7 0 0 [] az
def expand (j : J) (h : Nat) : Option (List St × (List V -> Fin')) :=
 match j with
 | .expr =>
   if h = 3 then some ([.tm 3,.jb .lett],fun | [_,v] => .out v | _ => nop)
   else if h = 6 then some ([.tm 6,.jb .expr,.tm 7,.jb .expr,.tm 8,.jb .expr],fun | [_,.tr a,_,.tr b,_,.tr c] => .out (.tr (.nd 0 11 0 0 [] [a,b,c])) | _ => nop)
   else if h = 9 then some ([.tm 9,.tm 2,.jb (.params 3 []),.tm 22,.jb .expr],fun | [_,.tk x,.nm xs,_,.tr b] => .out (.tr (.nd 0 12 0 0 (x.t :: xs) [b])) | _ => nop)
   else some ([.jb .cmp],fun | [.tr a] => .go (.rest a) | _ => nop)
 | .lett =>
   if h = 4 then some ([.tm 4,.tm 2,.tm 2,.jb (.params 3 []),.tm 27,.jb .expr,.tm 5,.jb .expr],fun | [_,.tk f,.tk x,.nm xs,_,.tr a,_,.tr b] => .out (.tr (.nd 0 9 0 0 (f.t :: x.t :: xs) [a,b])) | _ => nop)
   else if h = 23 then some ([.op 23,.tm 2,.tm 25,.tm 2,.jb (.names 4 []),.cl,.tm 27,.jb .expr,.tm 5,.jb .expr],fun | [_,.tk x,_,.tk y,.nm xs,_,_,.tr a,_,.tr b] => .out (.tr (.nd 0 10 0 0 [] [.nd 1 25 0 0 (x.t :: y.t :: xs) [],a,b])) | _ => nop)
   else some ([.tm 2,.tm 27,.jb .expr,.tm 5,.jb .expr],fun | [.tk x,_,.tr a,_,.tr b] => .out (.tr (.nd 0 8 0 0 [x.t] [a,b])) | _ => nop)
 | .rest a => if h = 26 then some ([.tm 26,.jb .expr],fun | [_,.tr b] => .out (.tr (.nd 0 18 0 0 [] [a,b])) | _ => nop) else some ([],fun _ => .out (.tr a))
 | .cmp => some ([.jb .sum],fun | [.tr a] => .go (.cmpd a) | _ => nop)
 | .cmpd a => if isCmp h then some ([.tm h,.jb .sum],fun | [_,.tr b] => .out (.tr (.nd 0 17 h 0 [] [a,b])) | _ => nop) else some ([],fun _ => .out (.tr a))
 | .sum => some ([.jb .prod],fun | [.tr a] => .go (.terms a) | _ => nop)
 | .terms a => if isSum h then some ([.tm h,.jb .prod],fun | [_,.tr b] => .go (.terms (.nd 0 16 h 0 [] [a,b])) | _ => nop) else some ([],fun _ => .out (.tr a))
 | .prod => some ([.jb .sign],fun | [.tr a] => .go (.facs a) | _ => nop)
 | .facs a => if isPro h then some ([.tm h,.jb .sign],fun | [_,.tr b] => .go (.facs (.nd 0 15 h 0 [] [a,b])) | _ => nop) else some ([],fun _ => .out (.tr a))
 | .sign =>
   if h = 31 then some ([.tm 31,.jb .sign],fun | [_,.tr a] => .out (.tr (.nd 0 13 0 0 [] [a])) | _ => nop)
   else if h = 10 then some ([.tm 10,.jb .sign],fun | [_,.tr a] => .out (.tr (.nd 0 14 0 0 [] [a])) | _ => nop)
   else some ([.jb .call],fun | [v] => .out v | _ => nop)
 | .call =>
   if h = 14 then some ([.tm 14,.jb .operand],fun | [_,.tr a] => .out (.tr (.nd 0 21 0 0 [] [a])) | _ => nop)
   else if h = 15 then some ([.tm 15,.jb .operand],fun | [_,.tr a] => .out (.tr (.nd 0 22 0 0 [] [a])) | _ => nop)
   else if h = 16 then some ([.tm 16,.jb .operand,.jb .operand],fun | [_,.tr a,.tr b] => .out (.tr (.nd 0 23 0 0 [] [a,b])) | _ => nop)
   else if h = 17 then some ([.tm 17,.jb .operand,.jb .operand,.jb .operand],fun | [_,.tr a,.tr b,.tr c] => .out (.tr (.nd 0 24 0 0 [] [a,b,c])) | _ => nop)
   else some ([.jb .operand],fun | [.tr a] => .go (.args 4 [a]) | _ => nop)
 | .args m az => if isOpd h && decide (0 < m) then some ([.jb .operand],fun | [.tr b] => .go (.args (m - 1) (az ++ [b])) | _ => nop) else some ([],fun _ => .out (.tr (argsT az)))
 | .operand => some ([.jb .atom],fun | [.tr a] => .go (.index a) | _ => nop)
 | .index a => if h = 18 then some ([.op 18,.jb .expr,.cl],fun | [_,.tr b,_] => .go (.index (.nd 0 20 0 0 [] [a,b])) | _ => nop) else some ([],fun _ => .out (.tr a))
 | .atom =>
   if h = 23 then some ([.op 23,.jb .bracket],fun | [_,v] => .out v | _ => nop)
   else if isLeaf h then some ([.tm h],fun | [.tk t] => .out (.tr (leaf t)) | _ => nop)
   else none
 | .bracket => if h = 24 then some ([.cl],fun _ => .out (.tr (.nd 0 6 0 0 [] []))) else some ([.jb .expr],fun | [.tr a] => .go (.items 5 [a]) | _ => nop)
 | .items m az => if h = 25 /\ 0 < m then some ([.tm 25,.jb .expr],fun | [_,.tr b] => .go (.items (m - 1) (az ++ [b])) | _ => nop) else some ([.cl],fun _ => .out (.tr (itemsT az)))
 | .params m xs => if h = 2 /\ 0 < m then some ([.tm 2],fun | [.tk x] => .go (.params (m - 1) (xs ++ [x.t])) | _ => nop) else some ([],fun _ => .out (.nm xs))
 | .names m xs => if h = 25 /\ 0 < m then some ([.tm 25,.tm 2],fun | [_,.tk x] => .go (.names (m - 1) (xs ++ [x.t])) | _ => nop) else some ([],fun _ => .out (.nm xs))
inductive Res (α : Type) where
 | bad (e p : Nat)
 | ok (v : α) (l : List Tok) (o : Nat)
def Res.cons (v : V) : Res (List V) -> Res (List V)
 | .bad e p => .bad e p
 | .ok vs l o => .ok (v :: vs) l o
mutual
inductive Sq (N : Nat) : List St -> List Tok -> Nat -> Res (List V) -> Prop
 | nil (l : List Tok) (o : Nat) : Sq N [] l o (.ok [] l o)
 | tm {k : Nat} {ss : List St} {t : Tok} {l : List Tok} {o : Nat} {r : Res (List V)} : t.k = k -> Sq N ss l o r -> Sq N (.tm k :: ss) (t :: l) o (r.cons (.tk t))
 | tmBad {k : Nat} {ss : List St} {t : Tok} {l : List Tok} {o : Nat} : t.k ≠ k -> Sq N (.tm k :: ss) (t :: l) o (.bad 4 t.p)
 | op {k : Nat} {ss : List St} {t : Tok} {l : List Tok} {o : Nat} {r : Res (List V)} : t.k = k -> o < N -> Sq N ss l (o + 1) r -> Sq N (.op k :: ss) (t :: l) o (r.cons (.tk t))
 | opBad {k : Nat} {ss : List St} {t : Tok} {l : List Tok} {o : Nat} : t.k ≠ k -> Sq N (.op k :: ss) (t :: l) o (.bad 4 t.p)
 | opNest {k : Nat} {ss : List St} {t : Tok} {l : List Tok} {o : Nat} : t.k = k -> N <= o -> Sq N (.op k :: ss) (t :: l) o (.bad 5 t.p)
 | cl {ss : List St} {t : Tok} {l : List Tok} {o : Nat} {r : Res (List V)} : t.k = 24 -> Sq N ss l (o - 1) r -> Sq N (.cl :: ss) (t :: l) o (r.cons (.tk t))
 | clBad {ss : List St} {t : Tok} {l : List Tok} {o : Nat} : t.k ≠ 24 -> Sq N (.cl :: ss) (t :: l) o (.bad 4 t.p)
 | jb {j : J} {ss : List St} {l l' : List Tok} {o o' : Nat} {v : V} {r : Res (List V)} : Jb N j l o (.ok v l' o') -> Sq N ss l' o' r -> Sq N (.jb j :: ss) l o (r.cons v)
 | jbBad {j : J} {ss : List St} {l : List Tok} {o e p : Nat} : Jb N j l o (.bad e p) -> Sq N (.jb j :: ss) l o (.bad e p)
inductive Jb (N : Nat) : J -> List Tok -> Nat -> Res V -> Prop
 | none {j : J} {t : Tok} {l : List Tok} {o : Nat} : expand j t.k = none -> Jb N j (t :: l) o (.bad 4 t.p)
 | bad {j : J} {t : Tok} {l : List Tok} {o e p : Nat} {ss : List St} {fin : List V -> Fin'} : expand j t.k = some (ss,fin) -> Sq N ss (t :: l) o (.bad e p) -> Jb N j (t :: l) o (.bad e p)
 | out {j : J} {t : Tok} {l l' : List Tok} {o o' : Nat} {ss : List St} {fin : List V -> Fin'} {vs : List V} {v : V} : expand j t.k = some (ss,fin) -> Sq N ss (t :: l) o (.ok vs l' o') -> fin vs = .out v -> Jb N j (t :: l) o (.ok v l' o')
 | go {j j' : J} {t : Tok} {l l' : List Tok} {o o' : Nat} {ss : List St} {fin : List V -> Fin'} {vs : List V} {r : Res V} : expand j t.k = some (ss,fin) -> Sq N ss (t :: l) o (.ok vs l' o') -> fin vs = .go j' -> Jb N j' l' o' r -> Jb N j (t :: l) o r
end
end Sl
end Go.Proofs.YtmkdoejpgkgpbaaGreatDoor
namespace Go.Proofs.YtmkdoejpgkgpbaaGreatDoor
namespace Sl
theorem tk_of {t : Tok} {k : Nat} (h : t.k = k) (h1 : k ≠ 1) (h2 : k ≠ 2) : t.tk = Tk.of k := by
 unfold Tok.tk Tk.of
 rw [h,if_neg h1,if_neg h2]
theorem tk_name {t : Tok} (h : t.k = 2) : t.tk = nmTk t.t := by
 unfold Tok.tk nmTk
 rw [h];rfl
theorem tk_num {t : Tok} (h : t.k = 1) : t.tk = nuTk t.n := by
 unfold Tok.tk nuTk
 rw [h];rfl
def Tr (q : Nat) (u : List Tk) (v : V) : Prop := ∃ c,v = .tr c /\ wf c /\ q <= rkT c /\ c.k ≠ 25 /\ fl c = u
def okA (q : Nat) (a : T) : Prop := wf a /\ q <= rkT a /\ a.k ≠ 25
def okAs (q : Nat) : List T -> Prop
 | [] => True
 | a :: r => okA q a /\ okAs q r
def SpJ : J -> List Tk -> V -> Prop
 | .expr,u,v => Tr 0 u v
 | .lett,u,v => Tr 0 (Tk.of 3 :: u) v
 | .cmp,u,v => Tr 1 u v
 | .sum,u,v => Tr 2 u v
 | .prod,u,v => Tr 3 u v
 | .sign,u,v => Tr 4 u v
 | .call,u,v => Tr 5 u v
 | .operand,u,v => Tr 6 u v
 | .atom,u,v => Tr 7 u v
 | .bracket,u,v => Tr 7 (oB :: u) v
 | .rest a,u,v => Tr 0 (fl a ++ u) v
 | .cmpd a,u,v => Tr 1 (fl a ++ u) v
 | .terms a,u,v => Tr 2 (fl a ++ u) v
 | .facs a,u,v => Tr 3 (fl a ++ u) v
 | .index a,u,v => Tr 6 (fl a ++ u) v
 | .args _ az,u,v => Tr 5 (flk 19 0 0 az ++ u) v
 | .items _ az,u,v => Tr 7 (oB :: (flk 7 0 0 az ++ u)) v
 | .params m xs,u,v => ∃ zs,v = .nm (xs ++ zs) /\ zs.length <= m /\ u = zs.map nmTk
 | .names m xs,u,v => ∃ zs,v = .nm (xs ++ zs) /\ zs.length <= m /\ u = zs.flatMap fun z => [Tk.of 25,nmTk z]
def PreJ : J -> Prop
 | .rest a => okA 1 a
 | .cmpd a => okA 2 a
 | .terms a => okA 2 a
 | .facs a => okA 3 a
 | .index a => okA 6 a
 | .args m az => az ≠ [] /\ az.length + m = 5 /\ okAs 6 az
 | .items m az => az ≠ [] /\ az.length + m = 6 /\ okAs 0 az
 | _ => True
def SpS : List St -> List Tk -> List V -> Prop
 | [],u,vs => u = [] /\ vs = []
 | .tm k :: ss,u,vs => ∃ t vs' u',t.k = k /\ vs = .tk t :: vs' /\ u = t.tk :: u' /\ SpS ss u' vs'
 | .op k :: ss,u,vs => ∃ t vs' u',t.k = k /\ vs = .tk t :: vs' /\ u = t.tk :: u' /\ SpS ss u' vs'
 | .cl :: ss,u,vs => ∃ t vs' u',t.k = 24 /\ vs = .tk t :: vs' /\ u = t.tk :: u' /\ SpS ss u' vs'
 | .jb j :: ss,u,vs => ∃ v vs' u1 u2,vs = v :: vs' /\ u = u1 ++ u2 /\ SpJ j u1 v /\ SpS ss u2 vs'
def PreS : List St -> Prop
 | [] => True
 | .jb j :: ss => PreJ j /\ PreS ss
 | _ :: ss => PreS ss
theorem preS_expand {j : J} {h : Nat} {ss : List St} {fin : List V -> Fin'} (he : expand j h = some (ss,fin)) : PreS ss := by
 unfold expand at he
 split at he <;> (try split at he) <;> (try split at he) <;> (try split at he) <;> (try split at he) <;> first
  | (simp at he;done)
  | (injection he with he;injection he with h1 _;rw [<- h1];simp [PreS,PreJ])
theorem okAs_app (q : Nat) : ∀ a b : List T,okAs q (a ++ b) ↔ okAs q a /\ okAs q b
 | [],b => by simp [okAs]
 | c :: r,b => by
   rw [List.cons_append,okAs,okAs,okAs_app q r b]
   exact ⟨fun h => ⟨⟨h.1,h.2.1⟩,h.2.2⟩,fun h => ⟨h.1.1,h.1.2,h.2⟩⟩
theorem wfs_of_okAs (k q : Nat) (hk : k ≠ 10) (hw : ∀ i,wanted k i <= q) : ∀ (l : List T) (i : Nat),okAs q l -> wfs k i l
 | [],_,_ => trivial
 | c :: r,i,h => ⟨h.1.1,Nat.le_trans (hw i) h.1.2.1,⟨fun e => absurd e h.1.2.2,fun e => absurd e.1 hk⟩,wfs_of_okAs k q hk hw r (i + 1) h.2⟩
theorem patNot {k i : Nat} {c : T} (h : c.k ≠ 25) (hk : k ≠ 10 \/ i ≠ 0) : c.k = 25 ↔ (k = 10 /\ i = 0) :=
 ⟨fun e => absurd e h,fun e => by rcases hk with hk | hk;exact absurd e.1 hk;exact absurd e.2 hk⟩
theorem mkTr {q b k s n : Nat} {xs : List ByteArray} {kids : List T} {u : List Tk} (ha : arB k s xs kids.length = true) (h7 : k = 7 -> 1 <= b) (h25 : k ≠ 25) (hk : wfs k 0 kids) (hq : q <= rkT (.nd b k s n xs kids))
 (hu : fl (.nd b k s n xs kids) = u) : Tr q u (.tr (.nd b k s n xs kids)) :=
 ⟨_,rfl,⟨ha,h7,fun e => absurd e h25,hk⟩,hq,h25,hu⟩
theorem rkT_brk (c : T) : rkT (brk c) = 7 := by cases c;simp [brk,rkT]
theorem wf_brk {c : T} (h : wf c) (h25 : c.k ≠ 25) : wf (brk c) := by
 cases c with
 | nd b k s n xs kids =>
   rw [brk,wf]
   rw [wf] at h
   exact ⟨h.1,fun _ => by omega,fun e => absurd e h25,h.2.2.2⟩
theorem fl_brk (c : T) : fl (brk c) = oB :: (fl c ++ [cB]) := by
 cases c with
 | nd b k s n xs kids =>
   rw [brk,fl_eq,fl_eq,List.replicate_succ,List.replicate_succ' (n := b) (a := cB)];simp
end Sl
end Go.Proofs.YtmkdoejpgkgpbaaGreatDoor
namespace Go.Proofs.YtmkdoejpgkgpbaaGreatDoor
namespace Sl
theorem rk0 {b k s n : Nat} {xs : List ByteArray} {kids : List T} {q : Nat} (h : q <= rk k) : q <= rkT (.nd b k s n xs kids) := by
 rw [rkT]
 split
 ·exact Nat.le_trans h (rk_le k)
 ·exact h
theorem Tr.mono {q q' : Nat} {u : List Tk} {v : V} (h : Tr q u v) (hq : q' <= q) : Tr q' u v := by
 obtain ⟨c,h1,h2,h3,h4,h5⟩ := h
 exact ⟨c,h1,h2,Nat.le_trans hq h3,h4,h5⟩
theorem one_tm {k : Nat} {u : List Tk} {vs : List V} (h : SpS [.tm k] u vs) : ∃ t,t.k = k /\ vs = [.tk t] /\ u = [t.tk] := by
 obtain ⟨t,vs',u',h1,rfl,rfl,rfl,rfl⟩ := h
 exact ⟨t,h1,rfl,rfl⟩
theorem one_jb {j : J} {u : List Tk} {vs : List V} (h : SpS [.jb j] u vs) : ∃ v,vs = [v] /\ SpJ j u v := by
 obtain ⟨v,vs',u1,u2,rfl,rfl,h1,rfl,rfl⟩ := h
 exact ⟨v,rfl,by simpa using h1⟩
theorem tm_jb {k : Nat} {j : J} {u : List Tk} {vs : List V} (h : SpS [.tm k,.jb j] u vs) : ∃ t v u',t.k = k /\ vs = [.tk t,v] /\ u = t.tk :: u' /\ SpJ j u' v := by
 obtain ⟨t,vs',u',h1,rfl,rfl,h2⟩ := h
 obtain ⟨v,rfl,h3⟩ := one_jb h2
 exact ⟨t,v,u',h1,rfl,rfl,h3⟩
theorem out_expr {h : Nat} {ss : List St} {fin : List V -> Fin'} {u : List Tk} {vs : List V} {v : V} (he : expand .expr h = some (ss,fin)) (hs : SpS ss u vs) (hf : fin vs = .out v) : SpJ .expr u v := by
 simp only [expand] at he
 split at he
 ·injection he with he;injection he with h1 h2;subst h1 h2
  obtain ⟨t,v',u',h1,rfl,rfl,h3⟩ := tm_jb hs
  injection hf with hf;subst hf
  rw [tk_of h1 (by decide) (by decide)]
  exact h3
 ·split at he
  ·injection he with he;injection he with h1 h2;subst h1 h2
   obtain ⟨t,vs',u',h1,rfl,rfl,v1,vs1,u1,u2,rfl,rfl,⟨a,rfl,ha⟩,t2,vs2,u3,h2,rfl,rfl,v2,vs3,u4,u5,rfl,rfl,⟨b,rfl,hb⟩,t3,vs4,u6,h3,rfl,rfl,hs⟩ := hs
   obtain ⟨v3,rfl,⟨c,rfl,hc⟩⟩ := one_jb hs
   injection hf with hf;subst hf
   rw [tk_of h1 (by decide) (by decide),tk_of h2 (by decide) (by decide),tk_of h3 (by decide) (by decide)]
   refine mkTr rfl (by decide) (by decide) ⟨ha.1,Nat.zero_le _,patNot ha.2.2.1 (.inl (by decide)),hb.1,Nat.zero_le _,patNot hb.2.2.1 (.inl (by decide)),hc.1,Nat.zero_le _,patNot hc.2.2.1 (.inl (by decide)),trivial⟩ (Nat.zero_le _) ?_
   rw [fl_eq]
   simp [bod,pre,flk,sep,post,ha.2.2.2,hb.2.2.2,hc.2.2.2]
  ·split at he
   ·injection he with he;injection he with h1 h2;subst h1 h2
    obtain ⟨t,vs',u',h1,rfl,rfl,x,vs1,u1,hx,rfl,rfl,v1,vs2,u2,u3,rfl,rfl,⟨zs,rfl,hz,rfl⟩,t2,vs3,u4,h2,rfl,rfl,hs⟩ := hs
    obtain ⟨v3,rfl,⟨c,rfl,hc⟩⟩ := one_jb hs
    injection hf with hf;subst hf
    rw [tk_of h1 (by decide) (by decide),tk_of h2 (by decide) (by decide),tk_name hx]
    refine mkTr ?_ (by decide) (by decide) ⟨hc.1,Nat.zero_le _,patNot hc.2.2.1 (.inl (by decide)),trivial⟩ (Nat.zero_le _) ?_
    ·simp [arB];omega
    ·rw [fl_eq]
     simp [bod,pre,flk,sep,post,hc.2.2.2]
   ·injection he with he;injection he with h1 h2;subst h1 h2
    obtain ⟨v',rfl,c,rfl,h3⟩ := one_jb hs
    simp at hf
theorem out_lett {h : Nat} {ss : List St} {fin : List V -> Fin'} {u : List Tk} {vs : List V} {v : V} (he : expand .lett h = some (ss,fin)) (hs : SpS ss u vs) (hf : fin vs = .out v) : SpJ .lett u v := by
 simp only [expand] at he
 split at he
 ·injection he with he;injection he with h1 h2;subst h1 h2
  obtain ⟨t,vs',u',h1,rfl,rfl,f,vs1,u1,hf',rfl,rfl,x,vs2,u2,hx,rfl,rfl,v1,vs3,u3,u4,rfl,rfl,⟨zs,rfl,hz,rfl⟩,t2,vs4,u5,h2,rfl,rfl,v2,vs5,u6,u7,rfl,rfl,⟨a,rfl,ha⟩,t3,vs6,u8,h3,rfl,rfl,hs⟩ := hs
  obtain ⟨v3,rfl,⟨b,rfl,hb⟩⟩ := one_jb hs
  injection hf with hf;subst hf
  rw [tk_of h1 (by decide) (by decide),tk_of h2 (by decide) (by decide),tk_of h3 (by decide) (by decide),tk_name hf',tk_name hx]
  refine mkTr ?_ (by decide) (by decide) ⟨ha.1,Nat.zero_le _,patNot ha.2.2.1 (.inl (by decide)),hb.1,Nat.zero_le _,patNot hb.2.2.1 (.inl (by decide)),trivial⟩ (Nat.zero_le _) ?_
  ·simp [arB];omega
  ·rw [fl_eq]
   simp [bod,pre,flk,sep,post,ha.2.2.2,hb.2.2.2]
 ·split at he
  ·injection he with he;injection he with h1 h2;subst h1 h2
   obtain ⟨t,vs',u',h1,rfl,rfl,x,vs1,u1,hx,rfl,rfl,t1,vs2,u2,h2,rfl,rfl,y,vs3,u3,hy,rfl,rfl,v1,vs4,u4,u5,rfl,rfl,⟨zs,rfl,hz,rfl⟩,t2,vs5,u6,h3,rfl,rfl,t3,vs6,u7,h4,rfl,rfl,v2,vs7,u8,u9,rfl,rfl,⟨a,rfl,ha⟩,t4,vs8,u10,h5,rfl,rfl,hs⟩ := hs
   obtain ⟨v3,rfl,⟨b,rfl,hb⟩⟩ := one_jb hs
   injection hf with hf;subst hf
   rw [tk_of h1 (by decide) (by decide),tk_of h2 (by decide) (by decide),tk_of h3 (by decide) (by decide),tk_of h4 (by decide) (by decide),tk_of h5 (by decide) (by decide),tk_name hx,tk_name hy]
   refine mkTr rfl (by decide) (by decide) ⟨⟨?_,by decide,by decide,trivial⟩,Nat.zero_le _,⟨fun _ => ⟨rfl,rfl⟩,fun _ => rfl⟩,ha.1,Nat.zero_le _,patNot ha.2.2.1 (.inr (by decide)),hb.1,Nat.zero_le _,patNot hb.2.2.1 (.inr (by decide)),trivial⟩ (Nat.zero_le _) ?_
   ·simp [arB];omega
   ·have hc : ∀ (zs : List ByteArray) (x : ByteArray),commas (x :: zs) = nmTk x :: zs.flatMap (fun z => [Tk.of 25,nmTk z]) := by
     intro zs
     induction zs with
     | nil => intro x;rfl
     | cons z r ih => intro x;rw [commas,ih z];rfl
    rw [fl_eq]
    simp [bod,pre,flk,sep,post,ha.2.2.2,hb.2.2.2,fl_eq,hc]
  ·injection he with he;injection he with h1 h2;subst h1 h2
   obtain ⟨x,vs',u',hx,rfl,rfl,t1,vs2,u2,h2,rfl,rfl,v2,vs7,u8,u9,rfl,rfl,⟨a,rfl,ha⟩,t4,vs8,u10,h5,rfl,rfl,hs⟩ := hs
   obtain ⟨v3,rfl,⟨b,rfl,hb⟩⟩ := one_jb hs
   injection hf with hf;subst hf
   rw [tk_of h2 (by decide) (by decide),tk_of h5 (by decide) (by decide),tk_name hx]
   refine mkTr rfl (by decide) (by decide) ⟨ha.1,Nat.zero_le _,patNot ha.2.2.1 (.inl (by decide)),hb.1,Nat.zero_le _,patNot hb.2.2.1 (.inl (by decide)),trivial⟩ (Nat.zero_le _) ?_
   rw [fl_eq]
   simp [bod,pre,flk,sep,post,ha.2.2.2,hb.2.2.2]
end Sl
end Go.Proofs.YtmkdoejpgkgpbaaGreatDoor
namespace Go.Proofs.YtmkdoejpgkgpbaaGreatDoor
namespace Sl
theorem flk19 (l : List T) (c : T) (i : Nat) : flk 19 0 i (l ++ [c]) = flk 19 0 i l ++ fl c := by
 rw [flk_app,flk,flk]
 have : sep 19 0 (i + l.length) = [] := by unfold sep;split <;> rfl
 rw [this];simp
theorem flk7 (l : List T) (c : T) (h : l ≠ []) : flk 7 0 0 (l ++ [c]) = flk 7 0 0 l ++ (Tk.of 25 :: fl c) := by
 rw [flk_app,flk,flk]
 have : sep 7 0 (0 + l.length) = [Tk.of 25] := by
  cases l with
  | nil => exact absurd rfl h
  | cons x r => simp [sep]
 rw [this];simp
theorem fin_out {j : J} {h : Nat} {ss : List St} {fin : List V -> Fin'} {u : List Tk} {vs : List V} {v : V} (hp : PreJ j) (he : expand j h = some (ss,fin)) (hs : SpS ss u vs) (hf : fin vs = .out v) : SpJ j u v := by
 cases j with
 | expr => exact out_expr he hs hf
 | lett => exact out_lett he hs hf
 | cmp =>
   simp only [expand] at he
   injection he with he;injection he with h1 h2;subst h1 h2
   obtain ⟨v',rfl,c,rfl,h3⟩ := one_jb hs
   simp at hf
 | sum =>
   simp only [expand] at he
   injection he with he;injection he with h1 h2;subst h1 h2
   obtain ⟨v',rfl,c,rfl,h3⟩ := one_jb hs
   simp at hf
 | prod =>
   simp only [expand] at he
   injection he with he;injection he with h1 h2;subst h1 h2
   obtain ⟨v',rfl,c,rfl,h3⟩ := one_jb hs
   simp at hf
 | sign =>
   simp only [expand] at he
   split at he
   ·injection he with he;injection he with h1 h2;subst h1 h2
    obtain ⟨t,v',u',h1,rfl,rfl,a,rfl,ha⟩ := tm_jb hs
    injection hf with hf;subst hf
    rw [tk_of h1 (by decide) (by decide)]
    refine mkTr rfl (by decide) (by decide) ⟨ha.1,ha.2.1,patNot ha.2.2.1 (.inl (by decide)),trivial⟩ (rk0 (by decide)) ?_
    rw [fl_eq];simp [bod,pre,flk,sep,post,ha.2.2.2]
   ·split at he
    ·injection he with he;injection he with h1 h2;subst h1 h2
     obtain ⟨t,v',u',h1,rfl,rfl,a,rfl,ha⟩ := tm_jb hs
     injection hf with hf;subst hf
     rw [tk_of h1 (by decide) (by decide)]
     refine mkTr rfl (by decide) (by decide) ⟨ha.1,ha.2.1,patNot ha.2.2.1 (.inl (by decide)),trivial⟩ (rk0 (by decide)) ?_
     rw [fl_eq];simp [bod,pre,flk,sep,post,ha.2.2.2]
    ·injection he with he;injection he with h1 h2;subst h1 h2
     obtain ⟨v',rfl,h3⟩ := one_jb hs
     injection hf with hf;subst hf
     exact Tr.mono h3 (by decide)
 | call =>
   simp only [expand] at he
   split at he
   ·injection he with he;injection he with h1 h2;subst h1 h2
    obtain ⟨t,v',u',h1,rfl,rfl,a,rfl,ha⟩ := tm_jb hs
    injection hf with hf;subst hf
    rw [tk_of h1 (by decide) (by decide)]
    refine mkTr rfl (by decide) (by decide) ⟨ha.1,ha.2.1,patNot ha.2.2.1 (.inl (by decide)),trivial⟩ (rk0 (by decide)) ?_
    rw [fl_eq];simp [bod,pre,flk,sep,post,ha.2.2.2]
   ·split at he
    ·injection he with he;injection he with h1 h2;subst h1 h2
     obtain ⟨t,v',u',h1,rfl,rfl,a,rfl,ha⟩ := tm_jb hs
     injection hf with hf;subst hf
     rw [tk_of h1 (by decide) (by decide)]
     refine mkTr rfl (by decide) (by decide) ⟨ha.1,ha.2.1,patNot ha.2.2.1 (.inl (by decide)),trivial⟩ (rk0 (by decide)) ?_
     rw [fl_eq];simp [bod,pre,flk,sep,post,ha.2.2.2]
    ·split at he
     ·injection he with he;injection he with h1 h2;subst h1 h2
      obtain ⟨t,vs',u',h1,rfl,rfl,v1,vs1,u1,u2,rfl,rfl,⟨a,rfl,ha⟩,hs⟩ := hs
      obtain ⟨v2,rfl,⟨b,rfl,hb⟩⟩ := one_jb hs
      injection hf with hf;subst hf
      rw [tk_of h1 (by decide) (by decide)]
      refine mkTr rfl (by decide) (by decide) ⟨ha.1,ha.2.1,patNot ha.2.2.1 (.inl (by decide)),hb.1,hb.2.1,patNot hb.2.2.1 (.inl (by decide)),trivial⟩ (rk0 (by decide)) ?_
      rw [fl_eq];simp [bod,pre,flk,sep,post,ha.2.2.2,hb.2.2.2]
     ·split at he
      ·injection he with he;injection he with h1 h2;subst h1 h2
       obtain ⟨t,vs',u',h1,rfl,rfl,v1,vs1,u1,u2,rfl,rfl,⟨a,rfl,ha⟩,v2,vs2,u3,u4,rfl,rfl,⟨b,rfl,hb⟩,hs⟩ := hs
       obtain ⟨v3,rfl,⟨c,rfl,hc⟩⟩ := one_jb hs
       injection hf with hf;subst hf
       rw [tk_of h1 (by decide) (by decide)]
       refine mkTr rfl (by decide) (by decide) ⟨ha.1,ha.2.1,patNot ha.2.2.1 (.inl (by decide)),hb.1,hb.2.1,patNot hb.2.2.1 (.inl (by decide)),hc.1,hc.2.1,patNot hc.2.2.1 (.inl (by decide)),trivial⟩ (rk0 (by decide)) ?_
       rw [fl_eq];simp [bod,pre,flk,sep,post,ha.2.2.2,hb.2.2.2,hc.2.2.2]
      ·injection he with he;injection he with h1 h2;subst h1 h2
       obtain ⟨v',rfl,c,rfl,h3⟩ := one_jb hs
       simp at hf
 | operand =>
   simp only [expand] at he
   injection he with he;injection he with h1 h2;subst h1 h2
   obtain ⟨v',rfl,c,rfl,h3⟩ := one_jb hs
   simp at hf
 | atom =>
   simp only [expand] at he
   split at he
   ·injection he with he;injection he with h1 h2;subst h1 h2
    obtain ⟨t,vs',u',h1,rfl,rfl,hs⟩ := hs
    obtain ⟨v',rfl,h3⟩ := one_jb hs
    injection hf with hf;subst hf
    rw [tk_of h1 (by decide) (by decide)]
    exact h3
   ·split at he
    ·rename_i hl
     injection he with he;injection he with h1 h2;subst h1 h2
     obtain ⟨t,h1,rfl,rfl⟩ := one_tm hs
     injection hf with hf;subst hf
     rw [<- h1] at hl
     simp only [isLeaf,Bool.or_eq_true,beq_iff_eq] at hl
     have key : ∀ k n xs u,arB k 0 xs 0 = true -> k ≠ 7 -> k ≠ 25 -> rk k = 7 -> pre k 0 n xs = u -> post k = [] -> Tr 7 u (.tr (.nd 0 k 0 n xs [])) := by
      intro k n xs u ha h7 h25 hr hu hpo
      refine mkTr ha (fun e => absurd e h7) h25 trivial (rk0 (by omega)) ?_
      rw [fl_eq];simp [bod,flk,hu,hpo]
     show Tr 7 _ _
     unfold leaf
     rcases hl with (((hl | hl) | hl) | hl) | hl
     ·rw [if_pos hl,tk_num hl];exact key 1 _ _ _ rfl (by decide) (by decide) rfl rfl rfl
     ·rw [if_neg (by omega),if_pos hl,tk_name hl];exact key 5 _ _ _ rfl (by decide) (by decide) rfl rfl rfl
     ·rw [if_neg (by omega),if_neg (by omega),if_pos hl,tk_of hl (by decide) (by decide)];exact key 2 _ _ _ rfl (by decide) (by decide) rfl rfl rfl
     ·rw [if_neg (by omega),if_neg (by omega),if_neg (by omega),if_pos hl,tk_of hl (by decide) (by decide)];exact key 3 _ _ _ rfl (by decide) (by decide) rfl rfl rfl
     ·rw [if_neg (by omega),if_neg (by omega),if_neg (by omega),if_neg (by omega),tk_of hl (by decide) (by decide)];exact key 4 _ _ _ rfl (by decide) (by decide) rfl rfl rfl
    ·cases he
 | bracket =>
   simp only [expand] at he
   split at he
   ·injection he with he;injection he with h1 h2;subst h1 h2
    obtain ⟨t,vs',u',h1,rfl,rfl,rfl,rfl⟩ := hs
    injection hf with hf;subst hf
    rw [tk_of h1 (by decide) (by decide)]
    exact mkTr rfl (by decide) (by decide) trivial (rk0 (by decide)) rfl
   ·injection he with he;injection he with h1 h2;subst h1 h2
    obtain ⟨v',rfl,c,rfl,h3⟩ := one_jb hs
    simp at hf
 | rest a =>
   simp only [expand] at he
   split at he
   ·injection he with he;injection he with h1 h2;subst h1 h2
    obtain ⟨t,v',u',h1,rfl,rfl,b,rfl,hb⟩ := tm_jb hs
    injection hf with hf;subst hf
    rw [tk_of h1 (by decide) (by decide)]
    refine mkTr rfl (by decide) (by decide) ⟨hp.1,hp.2.1,patNot hp.2.2 (.inl (by decide)),hb.1,Nat.zero_le _,patNot hb.2.2.1 (.inl (by decide)),trivial⟩ (Nat.zero_le _) ?_
    rw [fl_eq];simp [bod,pre,flk,sep,post,hb.2.2.2]
   ·injection he with he;injection he with h1 h2;subst h1 h2
    obtain ⟨rfl,rfl⟩ := hs
    injection hf with hf;subst hf
    exact ⟨a,rfl,hp.1,Nat.zero_le _,hp.2.2,by simp⟩
 | cmpd a =>
   simp only [expand] at he
   split at he
   ·rename_i hc
    injection he with he;injection he with h1 h2;subst h1 h2
    obtain ⟨t,v',u',h1,rfl,rfl,b,rfl,hb⟩ := tm_jb hs
    injection hf with hf;subst hf
    simp only [isCmp,Bool.or_eq_true,beq_iff_eq] at hc
    rw [tk_of h1 (by omega) (by omega)]
    refine mkTr ?_ (by decide) (by decide) ⟨hp.1,hp.2.1,patNot hp.2.2 (.inl (by decide)),hb.1,hb.2.1,patNot hb.2.2.1 (.inl (by decide)),trivial⟩ (rk0 (by decide)) ?_
    ·simp [arB];omega
    ·rw [fl_eq];simp [bod,pre,flk,sep,post,hb.2.2.2]
   ·injection he with he;injection he with h1 h2;subst h1 h2
    obtain ⟨rfl,rfl⟩ := hs
    injection hf with hf;subst hf
    exact ⟨a,rfl,hp.1,Nat.le_trans (by decide) hp.2.1,hp.2.2,by simp⟩
 | terms a =>
   simp only [expand] at he
   split at he
   ·injection he with he;injection he with h1 h2;subst h1 h2
    obtain ⟨t,v',u',h1,rfl,rfl,b,rfl,hb⟩ := tm_jb hs
    simp at hf
   ·injection he with he;injection he with h1 h2;subst h1 h2
    obtain ⟨rfl,rfl⟩ := hs
    injection hf with hf;subst hf
    exact ⟨a,rfl,hp.1,hp.2.1,hp.2.2,by simp⟩
 | facs a =>
   simp only [expand] at he
   split at he
   ·injection he with he;injection he with h1 h2;subst h1 h2
    obtain ⟨t,v',u',h1,rfl,rfl,b,rfl,hb⟩ := tm_jb hs
    simp at hf
   ·injection he with he;injection he with h1 h2;subst h1 h2
    obtain ⟨rfl,rfl⟩ := hs
    injection hf with hf;subst hf
    exact ⟨a,rfl,hp.1,hp.2.1,hp.2.2,by simp⟩
 | index a =>
   simp only [expand] at he
   split at he
   ·injection he with he;injection he with h1 h2;subst h1 h2
    obtain ⟨t,vs',u',h1,rfl,rfl,v1,vs1,u1,u2,rfl,rfl,⟨b,rfl,hb⟩,t2,vs2,u3,h2,rfl,rfl,rfl,rfl⟩ := hs
    simp at hf
   ·injection he with he;injection he with h1 h2;subst h1 h2
    obtain ⟨rfl,rfl⟩ := hs
    injection hf with hf;subst hf
    exact ⟨a,rfl,hp.1,hp.2.1,hp.2.2,by simp⟩
 | args m az =>
   simp only [expand] at he
   split at he
   ·injection he with he;injection he with h1 h2;subst h1 h2
    obtain ⟨v',rfl,c,rfl,h3⟩ := one_jb hs
    simp at hf
   ·injection he with he;injection he with h1 h2;subst h1 h2
    obtain ⟨rfl,rfl⟩ := hs
    injection hf with hf;subst hf
    obtain ⟨hne,hlen,hok⟩ := hp
    match az,hne,hlen,hok with
    | [a],_,_,hok =>
      exact ⟨a,rfl,hok.1.1,Nat.le_trans (by decide) hok.1.2.1,hok.1.2.2,by simp [flk,sep]⟩
    | a :: b :: r,_,hlen,hok =>
      refine mkTr ?_ (by decide) (by decide) (wfs_of_okAs 19 6 (by decide) (fun _ => Nat.le_refl _) _ 0 hok) (rk0 (by decide)) ?_
      ·simp [arB] at hlen ⊢;omega
      ·rw [fl_eq];simp [bod,pre,post]
 | items m az =>
   simp only [expand] at he
   split at he
   ·injection he with he;injection he with h1 h2;subst h1 h2
    obtain ⟨t,v',u',h1,rfl,rfl,b,rfl,hb⟩ := tm_jb hs
    simp at hf
   ·injection he with he;injection he with h1 h2;subst h1 h2
    obtain ⟨t,vs',u',h1,rfl,rfl,rfl,rfl⟩ := hs
    injection hf with hf;subst hf
    rw [tk_of h1 (by decide) (by decide)]
    obtain ⟨hne,hlen,hok⟩ := hp
    match az,hne,hlen,hok with
    | [a],_,_,hok =>
      refine ⟨brk a,rfl,wf_brk hok.1.1 hok.1.2.2,by rw [rkT_brk];exact Nat.le_refl _,?_,by rw [fl_brk];simp [flk,sep]⟩
      have := hok.1.2.2
      cases a;exact this
    | a :: b :: r,_,hlen,hok =>
      refine mkTr ?_ (fun _ => Nat.le_refl _) (by decide) (wfs_of_okAs 7 0 (by decide) (fun _ => Nat.le_refl _) _ 0 hok) (by rw [rkT,if_pos (by omega)];exact Nat.le_refl _) ?_
      ·simp [arB] at hlen ⊢;omega
      ·rw [fl_eq];simp [bod,pre,post]
 | params m xs =>
   simp only [expand] at he
   split at he
   ·injection he with he;injection he with h1 h2;subst h1 h2
    obtain ⟨t,h1,rfl,rfl⟩ := one_tm hs
    simp at hf
   ·injection he with he;injection he with h1 h2;subst h1 h2
    obtain ⟨rfl,rfl⟩ := hs
    injection hf with hf;subst hf
    exact ⟨[],by simp,Nat.zero_le _,rfl⟩
 | names m xs =>
   simp only [expand] at he
   split at he
   ·injection he with he;injection he with h1 h2;subst h1 h2
    obtain ⟨t,vs',u',h1,rfl,rfl,hs⟩ := hs
    obtain ⟨t2,h2,rfl,rfl⟩ := one_tm hs
    simp at hf
   ·injection he with he;injection he with h1 h2;subst h1 h2
    obtain ⟨rfl,rfl⟩ := hs
    injection hf with hf;subst hf
    exact ⟨[],by simp,Nat.zero_le _,rfl⟩
end Sl
end Go.Proofs.YtmkdoejpgkgpbaaGreatDoor
namespace Go.Proofs.YtmkdoejpgkgpbaaGreatDoor
namespace Sl
theorem Tr.okA {q : Nat} {u : List Tk} {c : T} (h : wf c /\ q <= rkT c /\ c.k ≠ 25 /\ fl c = u) : okA q c := ⟨h.1,h.2.1,h.2.2.1⟩
theorem fin_go {j j' : J} {h : Nat} {ss : List St} {fin : List V -> Fin'} {u : List Tk} {vs : List V} (hp : PreJ j) (he : expand j h = some (ss,fin)) (hs : SpS ss u vs) (hf : fin vs = .go j') : PreJ j' /\ ∀ u2 v,SpJ j' u2 v -> SpJ j (u ++ u2) v := by
 cases j with
 | expr =>
   simp only [expand] at he
   split at he
   ·injection he with he;injection he with h1 h2;subst h1 h2
    obtain ⟨t,v',u',h1,rfl,rfl,h3⟩ := tm_jb hs
    simp at hf
   ·split at he
    ·injection he with he;injection he with h1 h2;subst h1 h2
     obtain ⟨t,vs',u',h1,rfl,rfl,v1,vs1,u1,u2,rfl,rfl,⟨a,rfl,ha⟩,t2,vs2,u3,h2,rfl,rfl,v2,vs3,u4,u5,rfl,rfl,⟨b,rfl,hb⟩,t3,vs4,u6,h3,rfl,rfl,hs⟩ := hs
     obtain ⟨v3,rfl,⟨c,rfl,hc⟩⟩ := one_jb hs
     simp at hf
    ·split at he
     ·injection he with he;injection he with h1 h2;subst h1 h2
      obtain ⟨t,vs',u',h1,rfl,rfl,x,vs1,u1,hx,rfl,rfl,v1,vs2,u2,u3,rfl,rfl,⟨zs,rfl,hz,rfl⟩,t2,vs3,u4,h2,rfl,rfl,hs⟩ := hs
      obtain ⟨v3,rfl,⟨c,rfl,hc⟩⟩ := one_jb hs
      simp at hf
     ·injection he with he;injection he with h1 h2;subst h1 h2
      obtain ⟨v',rfl,c,rfl,h3⟩ := one_jb hs
      simp only at hf
      injection hf with hf;subst hf
      exact ⟨Tr.okA h3,fun u2 v hv => by rw [SpJ,h3.2.2.2] at hv;exact hv⟩
 | lett =>
   simp only [expand] at he
   split at he
   ·injection he with he;injection he with h1 h2;subst h1 h2
    obtain ⟨t,vs',u',h1,rfl,rfl,f,vs1,u1,hf',rfl,rfl,x,vs2,u2,hx,rfl,rfl,v1,vs3,u3,u4,rfl,rfl,⟨zs,rfl,hz,rfl⟩,t2,vs4,u5,h2,rfl,rfl,v2,vs5,u6,u7,rfl,rfl,⟨a,rfl,ha⟩,t3,vs6,u8,h3,rfl,rfl,hs⟩ := hs
    obtain ⟨v3,rfl,⟨b,rfl,hb⟩⟩ := one_jb hs
    simp at hf
   ·split at he
    ·injection he with he;injection he with h1 h2;subst h1 h2
     obtain ⟨t,vs',u',h1,rfl,rfl,x,vs1,u1,hx,rfl,rfl,t1,vs2,u2,h2,rfl,rfl,y,vs3,u3,hy,rfl,rfl,v1,vs4,u4,u5,rfl,rfl,⟨zs,rfl,hz,rfl⟩,t2,vs5,u6,h3,rfl,rfl,t3,vs6,u7,h4,rfl,rfl,v2,vs7,u8,u9,rfl,rfl,⟨a,rfl,ha⟩,t4,vs8,u10,h5,rfl,rfl,hs⟩ := hs
     obtain ⟨v3,rfl,⟨b,rfl,hb⟩⟩ := one_jb hs
     simp at hf
    ·injection he with he;injection he with h1 h2;subst h1 h2
     obtain ⟨x,vs',u',hx,rfl,rfl,t1,vs2,u2,h2,rfl,rfl,v2,vs7,u8,u9,rfl,rfl,⟨a,rfl,ha⟩,t4,vs8,u10,h5,rfl,rfl,hs⟩ := hs
     obtain ⟨v3,rfl,⟨b,rfl,hb⟩⟩ := one_jb hs
     simp at hf
 | cmp =>
   simp only [expand] at he
   injection he with he;injection he with h1 h2;subst h1 h2
   obtain ⟨v',rfl,c,rfl,h3⟩ := one_jb hs
   simp only at hf
   injection hf with hf;subst hf
   exact ⟨Tr.okA h3,fun u2 v hv => by rw [SpJ,h3.2.2.2] at hv;exact hv⟩
 | sum =>
   simp only [expand] at he
   injection he with he;injection he with h1 h2;subst h1 h2
   obtain ⟨v',rfl,c,rfl,h3⟩ := one_jb hs
   simp only at hf
   injection hf with hf;subst hf
   exact ⟨⟨h3.1,Nat.le_trans (by decide) h3.2.1,h3.2.2.1⟩,fun u2 v hv => by rw [SpJ,h3.2.2.2] at hv;exact hv⟩
 | prod =>
   simp only [expand] at he
   injection he with he;injection he with h1 h2;subst h1 h2
   obtain ⟨v',rfl,c,rfl,h3⟩ := one_jb hs
   simp only at hf
   injection hf with hf;subst hf
   exact ⟨⟨h3.1,Nat.le_trans (by decide) h3.2.1,h3.2.2.1⟩,fun u2 v hv => by rw [SpJ,h3.2.2.2] at hv;exact hv⟩
 | sign =>
   simp only [expand] at he
   split at he
   ·injection he with he;injection he with h1 h2;subst h1 h2
    obtain ⟨t,v',u',h1,rfl,rfl,a,rfl,ha⟩ := tm_jb hs
    simp at hf
   ·split at he
    ·injection he with he;injection he with h1 h2;subst h1 h2
     obtain ⟨t,v',u',h1,rfl,rfl,a,rfl,ha⟩ := tm_jb hs
     simp at hf
    ·injection he with he;injection he with h1 h2;subst h1 h2
     obtain ⟨v',rfl,h3⟩ := one_jb hs
     simp at hf
 | call =>
   simp only [expand] at he
   split at he
   ·injection he with he;injection he with h1 h2;subst h1 h2
    obtain ⟨t,v',u',h1,rfl,rfl,a,rfl,ha⟩ := tm_jb hs
    simp at hf
   ·split at he
    ·injection he with he;injection he with h1 h2;subst h1 h2
     obtain ⟨t,v',u',h1,rfl,rfl,a,rfl,ha⟩ := tm_jb hs
     simp at hf
    ·split at he
     ·injection he with he;injection he with h1 h2;subst h1 h2
      obtain ⟨t,vs',u',h1,rfl,rfl,v1,vs1,u1,u2,rfl,rfl,⟨a,rfl,ha⟩,hs⟩ := hs
      obtain ⟨v2,rfl,⟨b,rfl,hb⟩⟩ := one_jb hs
      simp at hf
     ·split at he
      ·injection he with he;injection he with h1 h2;subst h1 h2
       obtain ⟨t,vs',u',h1,rfl,rfl,v1,vs1,u1,u2,rfl,rfl,⟨a,rfl,ha⟩,v2,vs2,u3,u4,rfl,rfl,⟨b,rfl,hb⟩,hs⟩ := hs
       obtain ⟨v3,rfl,⟨c,rfl,hc⟩⟩ := one_jb hs
       simp at hf
      ·injection he with he;injection he with h1 h2;subst h1 h2
       obtain ⟨v',rfl,c,rfl,h3⟩ := one_jb hs
       simp only at hf
       injection hf with hf;subst hf
       refine ⟨⟨by simp,rfl,⟨h3.1,h3.2.1,h3.2.2.1⟩,trivial⟩,fun u2 v hv => ?_⟩
       have : flk 19 0 0 [c] = u := by simp [flk,sep,h3.2.2.2]
       rw [SpJ,this] at hv
       exact hv
 | operand =>
   simp only [expand] at he
   injection he with he;injection he with h1 h2;subst h1 h2
   obtain ⟨v',rfl,c,rfl,h3⟩ := one_jb hs
   simp only at hf
   injection hf with hf;subst hf
   exact ⟨⟨h3.1,Nat.le_trans (by decide) h3.2.1,h3.2.2.1⟩,fun u2 v hv => by rw [SpJ,h3.2.2.2] at hv;exact hv⟩
 | atom =>
   simp only [expand] at he
   split at he
   ·injection he with he;injection he with h1 h2;subst h1 h2
    obtain ⟨t,vs',u',h1,rfl,rfl,hs⟩ := hs
    obtain ⟨v',rfl,h3⟩ := one_jb hs
    simp at hf
   ·split at he
    ·injection he with he;injection he with h1 h2;subst h1 h2
     obtain ⟨t,h1,rfl,rfl⟩ := one_tm hs
     simp at hf
    ·cases he
 | bracket =>
   simp only [expand] at he
   split at he
   ·injection he with he;injection he with h1 h2;subst h1 h2
    simp at hf
   ·injection he with he;injection he with h1 h2;subst h1 h2
    obtain ⟨v',rfl,c,rfl,h3⟩ := one_jb hs
    simp only at hf
    injection hf with hf;subst hf
    refine ⟨⟨by simp,rfl,⟨h3.1,h3.2.1,h3.2.2.1⟩,trivial⟩,fun u2 v hv => ?_⟩
    have : flk 7 0 0 [c] = u := by simp [flk,sep,h3.2.2.2]
    rw [SpJ,this] at hv
    exact hv
 | rest a =>
   simp only [expand] at he
   split at he
   ·injection he with he;injection he with h1 h2;subst h1 h2
    obtain ⟨t,v',u',h1,rfl,rfl,b,rfl,hb⟩ := tm_jb hs
    simp at hf
   ·injection he with he;injection he with h1 h2;subst h1 h2
    simp at hf
 | cmpd a =>
   simp only [expand] at he
   split at he
   ·injection he with he;injection he with h1 h2;subst h1 h2
    obtain ⟨t,v',u',h1,rfl,rfl,b,rfl,hb⟩ := tm_jb hs
    simp at hf
   ·injection he with he;injection he with h1 h2;subst h1 h2
    simp at hf
 | terms a =>
   simp only [expand] at he
   split at he
   ·rename_i hc
    injection he with he;injection he with h1 h2;subst h1 h2
    obtain ⟨t,v',u',h1,rfl,rfl,b,rfl,hb⟩ := tm_jb hs
    simp only at hf
    injection hf with hf;subst hf
    simp only [isSum,Bool.or_eq_true,beq_iff_eq] at hc
    rw [tk_of h1 (by omega) (by omega)]
    refine ⟨⟨⟨?_,by decide,by decide,hp.1,hp.2.1,patNot hp.2.2 (.inl (by decide)),hb.1,hb.2.1,patNot hb.2.2.1 (.inl (by decide)),trivial⟩,rk0 (by decide),by simp [T.k]⟩,fun u2 v hv => ?_⟩
    ·simp [arB];omega
    ·rw [SpJ,fl_eq] at hv
     rw [SpJ]
     simpa [bod,pre,flk,sep,post,hb.2.2.2] using hv
   ·injection he with he;injection he with h1 h2;subst h1 h2
    simp at hf
 | facs a =>
   simp only [expand] at he
   split at he
   ·rename_i hc
    injection he with he;injection he with h1 h2;subst h1 h2
    obtain ⟨t,v',u',h1,rfl,rfl,b,rfl,hb⟩ := tm_jb hs
    simp only at hf
    injection hf with hf;subst hf
    simp only [isPro,Bool.or_eq_true,beq_iff_eq] at hc
    rw [tk_of h1 (by omega) (by omega)]
    refine ⟨⟨⟨?_,by decide,by decide,hp.1,hp.2.1,patNot hp.2.2 (.inl (by decide)),hb.1,hb.2.1,patNot hb.2.2.1 (.inl (by decide)),trivial⟩,rk0 (by decide),by simp [T.k]⟩,fun u2 v hv => ?_⟩
    ·simp [arB];omega
    ·rw [SpJ,fl_eq] at hv
     rw [SpJ]
     simpa [bod,pre,flk,sep,post,hb.2.2.2] using hv
   ·injection he with he;injection he with h1 h2;subst h1 h2
    simp at hf
 | index a =>
   simp only [expand] at he
   split at he
   ·injection he with he;injection he with h1 h2;subst h1 h2
    obtain ⟨t,vs',u',h1,rfl,rfl,v1,vs1,u1,u2,rfl,rfl,⟨b,rfl,hb⟩,t2,vs2,u3,h2,rfl,rfl,rfl,rfl⟩ := hs
    simp only at hf
    injection hf with hf;subst hf
    rw [tk_of h1 (by decide) (by decide),tk_of h2 (by decide) (by decide)]
    refine ⟨⟨⟨rfl,by decide,by decide,hp.1,hp.2.1,patNot hp.2.2 (.inl (by decide)),hb.1,hb.2.1,patNot hb.2.2.1 (.inl (by decide)),trivial⟩,rk0 (by decide),by simp [T.k]⟩,fun u2 v hv => ?_⟩
    rw [SpJ,fl_eq] at hv
    rw [SpJ]
    simpa [bod,pre,flk,sep,post,hb.2.2.2] using hv
   ·injection he with he;injection he with h1 h2;subst h1 h2
    simp at hf
 | args m az =>
   simp only [expand] at he
   split at he
   ·rename_i hc
    simp only [Bool.and_eq_true,decide_eq_true_eq] at hc
    injection he with he;injection he with h1 h2;subst h1 h2
    obtain ⟨v',rfl,c,rfl,h3⟩ := one_jb hs
    simp only at hf
    injection hf with hf;subst hf
    refine ⟨⟨by simp,by have := hp.2.1;simp;omega,(okAs_app 6 az [c]).2 ⟨hp.2.2,⟨h3.1,h3.2.1,h3.2.2.1⟩,trivial⟩⟩,fun u2 v hv => ?_⟩
    rw [SpJ,flk19,h3.2.2.2] at hv
    rw [SpJ]
    simpa using hv
   ·injection he with he;injection he with h1 h2;subst h1 h2
    simp at hf
 | items m az =>
   simp only [expand] at he
   split at he
   ·rename_i hc
    injection he with he;injection he with h1 h2;subst h1 h2
    obtain ⟨t,v',u',h1,rfl,rfl,b,rfl,hb⟩ := tm_jb hs
    simp only at hf
    injection hf with hf;subst hf
    rw [tk_of h1 (by decide) (by decide)]
    refine ⟨⟨by simp,by have := hp.2.1;simp;omega,(okAs_app 0 az [b]).2 ⟨hp.2.2,⟨hb.1,hb.2.1,hb.2.2.1⟩,trivial⟩⟩,fun u2 v hv => ?_⟩
    rw [SpJ,flk7 az b hp.1,hb.2.2.2] at hv
    rw [SpJ]
    simpa using hv
   ·injection he with he;injection he with h1 h2;subst h1 h2
    simp at hf
 | params m xs =>
   simp only [expand] at he
   split at he
   ·rename_i hc
    injection he with he;injection he with h1 h2;subst h1 h2
    obtain ⟨t,h1,rfl,rfl⟩ := one_tm hs
    simp only at hf
    injection hf with hf;subst hf
    rw [tk_name h1]
    refine ⟨trivial,fun u2 v hv => ?_⟩
    obtain ⟨zs,rfl,hz,rfl⟩ := hv
    exact ⟨t.t :: zs,by simp,by simp;omega,by simp⟩
   ·injection he with he;injection he with h1 h2;subst h1 h2
    simp at hf
 | names m xs =>
   simp only [expand] at he
   split at he
   ·rename_i hc
    injection he with he;injection he with h1 h2;subst h1 h2
    obtain ⟨t,vs',u',h1,rfl,rfl,hs⟩ := hs
    obtain ⟨t2,h2,rfl,rfl⟩ := one_tm hs
    simp only at hf
    injection hf with hf;subst hf
    rw [tk_of h1 (by decide) (by decide),tk_name h2]
    refine ⟨trivial,fun u2 v hv => ?_⟩
    obtain ⟨zs,rfl,hz,rfl⟩ := hv
    exact ⟨t2.t :: zs,by simp,by simp;omega,by simp⟩
   ·injection he with he;injection he with h1 h2;subst h1 h2
    simp at hf
theorem Res.cons_ok {v : V} {r : Res (List V)} {vs : List V} {l : List Tok} {o : Nat} (h : r.cons v = .ok vs l o) : ∃ vs1,vs = v :: vs1 /\ r = .ok vs1 l o := by
 cases r with
 | bad e p => cases h
 | ok vs1 l1 o1 =>
   simp only [Res.cons] at h
   injection h with h1 h2 h3
   subst h1 h2 h3
   exact ⟨vs1,rfl,rfl⟩
mutual
theorem sq_sound {N : Nat} {ss : List St} {l : List Tok} {o : Nat} {r : Res (List V)} (H : Sq N ss l o r) (hp : PreS ss) (vs : List V) (l' : List Tok) (o' : Nat) (h : r = .ok vs l' o') : ∃ u,l = u ++ l' /\ SpS ss (u.map Tok.tk) vs := by
 match H with
 | .nil l o =>
   injection h with h1 h2 h3;subst h1 h2
   exact ⟨[],rfl,rfl,rfl⟩
 | .tm (t := t) hk hs =>
   obtain ⟨vs1,rfl,hr⟩ := Res.cons_ok h
   obtain ⟨u,hu,hsp⟩ := sq_sound hs hp vs1 l' o' hr
   exact ⟨t :: u,by rw [hu];rfl,t,vs1,u.map Tok.tk,hk,rfl,rfl,hsp⟩
 | .tmBad _ => cases h
 | .op (t := t) hk _ hs =>
   obtain ⟨vs1,rfl,hr⟩ := Res.cons_ok h
   obtain ⟨u,hu,hsp⟩ := sq_sound hs hp vs1 l' o' hr
   exact ⟨t :: u,by rw [hu];rfl,t,vs1,u.map Tok.tk,hk,rfl,rfl,hsp⟩
 | .opBad _ => cases h
 | .opNest _ _ => cases h
 | .cl (t := t) hk hs =>
   obtain ⟨vs1,rfl,hr⟩ := Res.cons_ok h
   obtain ⟨u,hu,hsp⟩ := sq_sound hs hp vs1 l' o' hr
   exact ⟨t :: u,by rw [hu];rfl,t,vs1,u.map Tok.tk,hk,rfl,rfl,hsp⟩
 | .clBad _ => cases h
 | .jb (v := v) hj hs =>
   obtain ⟨vs1,rfl,hr⟩ := Res.cons_ok h
   obtain ⟨u,hu,hsp⟩ := sq_sound hs hp.2 vs1 l' o' hr
   obtain ⟨u0,hu0,hsp0⟩ := jb_sound hj hp.1 v _ _ rfl
   exact ⟨u0 ++ u,by rw [hu0,hu,List.append_assoc],v,vs1,u0.map Tok.tk,u.map Tok.tk,rfl,by simp,hsp0,hsp⟩
 | .jbBad _ => cases h
theorem jb_sound {N : Nat} {j : J} {l : List Tok} {o : Nat} {r : Res V} (H : Jb N j l o r) (hp : PreJ j) (v : V) (l' : List Tok) (o' : Nat) (h : r = .ok v l' o') : ∃ u,l = u ++ l' /\ SpJ j (u.map Tok.tk) v := by
 match H with
 | .none _ => cases h
 | .bad _ _ => cases h
 | .out (vs := vs) he hs hf =>
   injection h with h1 h2 h3
   obtain ⟨u,hu,hsp⟩ := sq_sound hs (preS_expand he) vs _ _ rfl
   exact ⟨u,by rw [hu,h2],by rw [<- h1];exact fin_out hp he hsp hf⟩
 | .go (vs := vs) he hs hf hj =>
   obtain ⟨u,hu,hsp⟩ := sq_sound hs (preS_expand he) vs _ _ rfl
   obtain ⟨hp',hgo⟩ := fin_go hp he hsp hf
   obtain ⟨u2,hu2,hsp2⟩ := jb_sound hj hp' v l' o' h
   exact ⟨u ++ u2,by rw [hu,hu2,List.append_assoc],by rw [List.map_append];exact hgo _ _ hsp2⟩
end
end Sl
end Go.Proofs.YtmkdoejpgkgpbaaGreatDoor
