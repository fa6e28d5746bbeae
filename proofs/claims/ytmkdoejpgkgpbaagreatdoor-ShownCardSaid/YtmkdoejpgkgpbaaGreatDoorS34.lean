import Derived.Test.YtmkdoejpgkgpbaaGreatDoorS29
set_option linter.unusedVariables false
set_option linter.unusedSimpArgs false
set_option maxHeartbeats 20000000
namespace Go.Proofs.YtmkdoejpgkgpbaaGreatDoor
open Go.RowKit Sl
inductive Sg where
 | ok (l : List Tok) (o : Nat)
 | bad (e p : Nat)
def Sg.pot : Sg -> Nat
 | .ok l _ => 100 * l.length
 | .bad _ _ => 0
def Sg.good : Sg -> Bool
 | .ok _ _ => true
 | .bad _ _ => false
def Sg.res : Sg -> Sl.Res (List V)
 | .ok l o => .ok [] l o
 | .bad e p => .bad e p
def Sg.tm (k : Nat) : Sg -> Sg
 | .ok (t :: l) o => if t.k = k then .ok l o else .bad 4 t.p
 | .ok [] _ => .bad 4 0
 | .bad e p => .bad e p
def Sg.cl : Sg -> Sg
 | .ok (t :: l) o => if t.k = 24 then .ok l (o - 1) else .bad 4 t.p
 | .ok [] _ => .bad 4 0
 | .bad e p => .bad e p
theorem tm_ok (k : Nat) (t : Tok) (l : List Tok) (o : Nat) : (Sg.ok (t :: l) o).tm k = if t.k = k then .ok l o else .bad 4 t.p := rfl
theorem cl_ok (t : Tok) (l : List Tok) (o : Nat) : (Sg.ok (t :: l) o).cl = if t.k = 24 then .ok l (o - 1) else .bad 4 t.p := rfl
def SimS (L : List Tok) (q : Q) (oi : Int) : Sg -> Prop
 | .ok l o => L.drop q.S.next = l /\ q.S.err = 0 /\ (o : Int) = oi /\ Sl.Ends l /\ oi <= 12
 | .bad e p => q.S.err = (e : Int) /\ e ≠ 0 /\ q.S.at' = (p : Int) /\ L.length <= q.S.next /\ q.S.next <= L.length + 1
structure Sim (L : List Tok) (q : Q) (oi : Int) (s : Sg) : Prop where
 opn : q.S.opn = oi
 lo : 0 <= oi
 hi : oi <= 13
 st : SimS L q oi s
theorem drop_at {L : List Tok} {n : Nat} {t : Tok} {l : List Tok} (h : L.drop n = t :: l) : L[n]? = some t /\ L.drop (n + 1) = l /\ n < L.length := by
 have h1 : n < L.length := by
  apply Nat.lt_of_not_le;intro h2
  rw [List.drop_eq_nil_of_le h2] at h;cases h
 have h2 : L.drop n = L[n] :: L.drop (n + 1) := List.drop_eq_getElem_cons h1
 rw [h2] at h
 injection h with h3 h4
 exact ⟨by rw [List.getElem?_eq_getElem h1,h3],h4,h1⟩
section
variable {L : List Tok} {q : Q} {oi : Int} {s : Sg} {t : Tok} {l : List Tok} {o : Nat}
theorem Sim.word (h : Sim L q oi (.ok (t :: l) o)) : q.word L = t := by
 have := (drop_at h.st.1).1
 simp [Q.word,cwAt,this]
theorem Sim.kind (h : Sim L q oi (.ok (t :: l) o)) : q.kind L = t.k := by
 have := h.word
 unfold Q.kind
 unfold Q.word at this
 rw [this]
theorem Sim.kind0 {e p : Nat} (h : Sim L q oi (.bad e p)) : q.kind L = 0 := by
 have := h.st.2.2.2.1
 simp [Q.kind,cwAt,List.getElem?_eq_none this]
theorem Sim.take (h : Sim L q oi (.ok (t :: l) o)) (hk : t.k ≠ 0) : Sim L q.take oi (.ok l o) :=
 ⟨h.opn,h.lo,h.hi,(drop_at h.st.1).2.1,h.st.2.1,h.st.2.2.1,h.st.2.2.2.1.tail hk,h.st.2.2.2.2⟩
theorem Sim.failT (h : Sim L q oi (.ok (t :: l) o)) (e : Nat) (he : e ≠ 0) : Sim L (q.fail L e) oi (.bad e t.p) := by
 have hw := h.word
 unfold Q.word at hw
 refine ⟨h.opn,h.lo,h.hi,?_,he,?_,Nat.le_refl _,Nat.le_succ _⟩
 ·show (if q.S.err = 0 then (e : Int) else q.S.err) = _
  rw [if_pos h.st.2.1]
 ·show (if q.S.err = 0 then (((cwAt L q.S.next).p : Nat) : Int) else q.S.at') = _
  rw [if_pos h.st.2.1,hw]
theorem Sim.failB {e p : Nat} (h : Sim L q oi (.bad e p)) (e' : Int) : Sim L (q.fail L e') oi (.bad e p) := by
 have h0 : ¬ q.S.err = 0 := by rw [h.st.1];have := h.st.2.1;omega
 refine ⟨h.opn,h.lo,h.hi,?_,h.st.2.1,?_,Nat.le_refl _,Nat.le_succ _⟩
 ·show (if q.S.err = 0 then e' else q.S.err) = _
  rw [if_neg h0];exact h.st.1
 ·show (if q.S.err = 0 then (((cwAt L q.S.next).p : Nat) : Int) else q.S.at') = _
  rw [if_neg h0];exact h.st.2.2.1
theorem Sim.failN {e p : Nat} {S : PF} {e' : Int} {ps : List CP} (h : Sim L ⟨S.fail L e',ps⟩ oi (.bad e p)) : Sim L ⟨(S.fail L e').take,ps⟩ oi (.bad e p) :=
 ⟨h.opn,h.lo,h.hi,h.st.1,h.st.2.1,h.st.2.2.1,Nat.le_succ _,Nat.le_refl _⟩
theorem Sim.want (h : Sim L q oi s) {k : Nat} (hk : k ≠ 0) : Sim L (q.want L k) oi (s.tm k) := by
 cases s with
 | ok l o =>
   obtain ⟨t,r,rfl⟩ := h.st.2.2.2.1.ne
   have hw := h.word
   unfold Q.word at hw
   rw [tm_ok]
   by_cases h1 : t.k = k
   ·rw [if_pos h1]
    have : q.want L k = q.take := by
     unfold Q.want Q.take PF.want
     rw [hw,if_pos h1]
    rw [this]
    exact h.take (by rw [h1];exact hk)
   ·rw [if_neg h1]
    have : q.want L k = ⟨(q.S.fail L 4).take,q.ps⟩ := by
     unfold Q.want PF.want
     rw [hw,if_neg h1]
    rw [this]
    exact (h.failT 4 (by omega)).failN
 | bad e p =>
   have hw := h.kind0
   unfold Q.kind at hw
   have : q.want L k = ⟨(q.S.fail L 4).take,q.ps⟩ := by
    unfold Q.want PF.want
    rw [hw,if_neg (fun h => hk h.symm)]
   rw [this]
   exact (h.failB 4).failN
theorem Sim.finish (h : Sim L q oi s) (ho : 1 <= oi) : Sim L (q.finish L) (oi - 1) s.cl := by
 have h1 := h.want (k := 24) (by omega)
 have e : q.finish L = ⟨(q.want L 24).S.shut,q.ps⟩ := rfl
 rw [e]
 have hlo := h.lo
 have hhi := h.hi
 cases s with
 | ok l o =>
   obtain ⟨t,r,rfl⟩ := h.st.2.2.2.1.ne
   rw [tm_ok] at h1
   rw [cl_ok]
   by_cases h2 : t.k = 24
   ·rw [if_pos h2] at h1 ⊢
    have := h1.st.2.2.1
    have := h1.st.2.2.2.2
    exact ⟨by show (q.want L 24).S.opn - 1 = _;rw [h1.opn],by omega,by omega,h1.st.1,h1.st.2.1,by omega,h1.st.2.2.2.1,by omega⟩
   ·rw [if_neg h2] at h1 ⊢
    exact ⟨by show (q.want L 24).S.opn - 1 = _;rw [h1.opn],by omega,by omega,h1.st⟩
 | bad e p => exact ⟨by show (q.want L 24).S.opn - 1 = _;rw [h1.opn],by omega,by omega,h1.st⟩
def opS (t : Tok) (l : List Tok) (o : Nat) : Sg := if o < 12 then .ok l (o + 1) else .bad 5 t.p
theorem Sim.beg (h : Sim L q oi (.ok (t :: l) o)) {k : Nat} (hk : t.k = k) (h0 : k ≠ 0) : Sim L (q.beg L 12 k) (oi + 1) (opS t l o) := by
 have hw := h.word
 unfold Q.word at hw
 have hoo := h.opn
 have hlo := h.lo
 have h12 := h.st.2.2.2.2
 have hoi := h.st.2.2.1
 unfold opS
 by_cases h1 : o < 12
 ·rw [if_pos h1]
  have e : q.beg L 12 k = ⟨q.S.wide.take,q.ps⟩ := by
   unfold Q.beg PF.begin PF.beg0
   rw [hw,if_pos hk,if_neg (by omega)]
  rw [e]
  have h2 := h.take (by rw [hk];exact h0)
  exact ⟨by show q.S.opn + 1 = _;omega,by omega,by omega,h2.st.1,h2.st.2.1,by omega,h2.st.2.2.2.1,by omega⟩
 ·rw [if_neg h1]
  have e : q.beg L 12 k = ⟨(q.S.fail L 5).wide.take,q.ps⟩ := by
   unfold Q.beg PF.begin PF.beg0
   rw [hw,if_pos hk,if_pos (by omega)]
  rw [e]
  have h2 := (h.failT 5 (by omega)).failN
  exact ⟨by show q.S.opn + 1 = _;omega,by omega,by omega,h2.st⟩
theorem Sim.begW (h : Sim L q oi (.ok (t :: l) o)) {k : Nat} (hk : t.k = k) (ho : (opS t l o).good = true) : q.begW L 12 k = t := by
 have hw := h.word
 unfold Q.word at hw
 have hoo := h.opn
 have hoi := h.st.2.2.1
 unfold opS at ho
 split at ho
 ·unfold Q.begW PF.beg0
  rw [if_pos (by rw [hw];exact hk),if_neg (by omega)]
  exact hw
 ·cases ho
theorem Sim.fine (h : Sim L q oi s) (hL : L.length <= 1000) (hp : q.ps.length <= 90000) : q.fine := by
 have h1 := h.lo
 have h2 := h.hi
 have h3 := h.opn
 refine ⟨?_,by omega,by omega,hp⟩
 cases s with
 | ok l o =>
   obtain ⟨t,r,rfl⟩ := h.st.2.2.2.1.ne
   have := (drop_at h.st.1).2.2
   omega
 | bad e p => have := h.st.2.2.2.2;omega
theorem Sim.ps {ps : List CP} (h : Sim L q oi s) : Sim L ⟨q.S,ps⟩ oi s := ⟨h.opn,h.lo,h.hi,by cases s <;> exact h.st⟩
theorem Sim.add {c : CP} (h : Sim L q oi s) : Sim L (q.add c) oi s := h.ps
theorem tm_good {k : Nat} (h : (s.tm k).good = true) : ∃ t l o,s = .ok (t :: l) o /\ t.k = k /\ s.tm k = .ok l o := by
 cases s with
 | bad e p => cases h
 | ok l o =>
   cases l with
   | nil => cases h
   | cons t l =>
     have e : (Sg.ok (t :: l) o).tm k = if t.k = k then .ok l o else .bad 4 t.p := rfl
     rw [e] at h ⊢
     by_cases hk : t.k = k
     ·exact ⟨t,l,o,rfl,hk,if_pos hk⟩
     ·rw [if_neg hk] at h;cases h
theorem tm_pot (k : Nat) (s : Sg) : (s.tm k).pot <= s.pot /\ ((s.tm k).good = true -> (s.tm k).pot + 100 <= s.pot) := by
 cases s with
 | bad e p => exact ⟨Nat.le_refl _,fun h => by cases h⟩
 | ok l o =>
   cases l with
   | nil => exact ⟨Nat.zero_le _,fun h => by cases h⟩
   | cons t l =>
     have e : (Sg.ok (t :: l) o).tm k = if t.k = k then .ok l o else .bad 4 t.p := rfl
     rw [e]
     by_cases hk : t.k = k
     ·rw [if_pos hk];exact ⟨by simp [Sg.pot];omega,fun _ => by simp [Sg.pot];omega⟩
     ·rw [if_neg hk];exact ⟨Nat.zero_le _,fun h => by cases h⟩
theorem cl_good (h : s.cl.good = true) : ∃ t l o,s = .ok (t :: l) o /\ t.k = 24 /\ s.cl = .ok l (o - 1) := by
 cases s with
 | bad e p => cases h
 | ok l o =>
   cases l with
   | nil => cases h
   | cons t l =>
     have e : (Sg.ok (t :: l) o).cl = if t.k = 24 then .ok l (o - 1) else .bad 4 t.p := rfl
     rw [e] at h ⊢
     by_cases hk : t.k = 24
     ·exact ⟨t,l,o,rfl,hk,if_pos hk⟩
     ·rw [if_neg hk] at h;cases h
theorem cl_pot (s : Sg) : s.cl.pot <= s.pot /\ (s.cl.good = true -> s.cl.pot + 100 <= s.pot) := by
 cases s with
 | bad e p => exact ⟨Nat.le_refl _,fun h => by cases h⟩
 | ok l o =>
   cases l with
   | nil => exact ⟨Nat.zero_le _,fun h => by cases h⟩
   | cons t l =>
     have e : (Sg.ok (t :: l) o).cl = if t.k = 24 then .ok l (o - 1) else .bad 4 t.p := rfl
     rw [e]
     by_cases hk : t.k = 24
     ·rw [if_pos hk];exact ⟨by simp [Sg.pot];omega,fun _ => by simp [Sg.pot];omega⟩
     ·rw [if_neg hk];exact ⟨Nat.zero_le _,fun h => by cases h⟩
theorem bad_pot (h : s.good = false) : s.pot = 0 := by cases s with | ok _ _ => cases h | bad _ _ => rfl
end
def Jx (j : J) (s s' : Sg) (v : V) : Prop :=
 match s with
 | .bad e p => s' = .bad e p
 | .ok l o => (∃ l' o',Jb 12 j l o (.ok v l' o') /\ s' = .ok l' o') \/ (∃ e p,Jb 12 j l o (.bad e p) /\ s' = .bad e p)
def Sx (ss : List St) (s : Sg) (r : Sl.Res (List V)) : Prop :=
 match s with
 | .bad e p => r = .bad e p
 | .ok l o => Sq 12 ss l o r
def Fx (fin : List V -> Fin') (r : Sl.Res (List V)) (s' : Sg) (v : V) : Prop :=
 match r with
 | .bad e p => s' = .bad e p
 | .ok vs l' o' => (fin vs = .out v /\ s' = .ok l' o') \/ ∃ j',fin vs = .go j' /\ Jx j' (.ok l' o') s' v
theorem jx_inv {j : J} {t : Tok} {l : List Tok} {o : Nat} {s' : Sg} {v : V} (h : Jx j (.ok (t :: l) o) s' v) :
 (expand j t.k = none /\ s' = .bad 4 t.p) \/ ∃ ss fin r,expand j t.k = some (ss,fin) /\ Sx ss (.ok (t :: l) o) r /\ Fx fin r s' v := by
 rcases h with ⟨l',o',hj,rfl⟩ | ⟨e,p,hj,rfl⟩
 ·cases hj with
  | out h1 h2 h3 => exact .inr ⟨_,_,_,h1,h2,.inl ⟨h3,rfl⟩⟩
  | go h1 h2 h3 h4 => exact .inr ⟨_,_,_,h1,h2,.inr ⟨_,h3,.inl ⟨_,_,h4,rfl⟩⟩⟩
 ·cases hj with
  | none h1 => exact .inl ⟨h1,rfl⟩
  | bad h1 h2 => exact .inr ⟨_,_,_,h1,h2,rfl⟩
  | go h1 h2 h3 h4 => exact .inr ⟨_,_,_,h1,h2,.inr ⟨_,h3,.inr ⟨_,_,h4,rfl⟩⟩⟩
theorem sx_nil {s : Sg} {r : Sl.Res (List V)} (h : Sx [] s r) : r = s.res := by
 cases s with
 | bad e p => exact h
 | ok l o => cases h;rfl
theorem sx_tm {k : Nat} {ss : List St} {s : Sg} {r : Sl.Res (List V)} (h : Sx (.tm k :: ss) s r) : ∃ v r',Sx ss (s.tm k) r' /\ r = r'.cons v /\ ∀ t l o,s = .ok (t :: l) o -> t.k = k -> v = .tk t := by
 cases s with
 | bad e p => exact ⟨.nm [],.bad e p,rfl,h,fun _ _ _ h => by cases h⟩
 | ok l o =>
   cases h with
   | tm h1 h2 => refine ⟨_,_,?_,rfl,fun t l o h3 _ => by injection h3 with h4 _;injection h4 with h5 _;rw [h5]⟩;rw [tm_ok,if_pos h1];exact h2
   | tmBad h1 => refine ⟨.nm [],.bad 4 _,?_,rfl,fun t l o h3 h4 => by injection h3 with h5 _;injection h5 with h6 _;subst h6;exact absurd h4 h1⟩;rw [tm_ok,if_neg h1];rfl
theorem sx_cl {ss : List St} {s : Sg} {r : Sl.Res (List V)} (h : Sx (.cl :: ss) s r) : ∃ v r',Sx ss s.cl r' /\ r = r'.cons v := by
 cases s with
 | bad e p => exact ⟨.nm [],.bad e p,rfl,h⟩
 | ok l o =>
   cases h with
   | cl h1 h2 => refine ⟨_,_,?_,rfl⟩;rw [cl_ok,if_pos h1];exact h2
   | clBad h1 => refine ⟨.nm [],.bad 4 _,?_,rfl⟩;rw [cl_ok,if_neg h1];rfl
theorem sx_op {k : Nat} {ss : List St} {t : Tok} {l : List Tok} {o : Nat} {r : Sl.Res (List V)} (h : Sx (.op k :: ss) (.ok (t :: l) o) r) (hk : t.k = k) : ∃ r',Sx ss (opS t l o) r' /\ r = r'.cons (.tk t) := by
 cases h with
 | op h1 h2 h3 => refine ⟨_,?_,rfl⟩;unfold opS;rw [if_pos h2];exact h3
 | opBad h1 => exact absurd hk h1
 | opNest h1 h2 => refine ⟨.bad 5 _,?_,rfl⟩;unfold opS;rw [if_neg (by omega)];rfl
theorem sx_jb {j : J} {ss : List St} {s : Sg} {r : Sl.Res (List V)} (h : Sx (.jb j :: ss) s r) : ∃ v r' s',Jx j s s' v /\ Sx ss s' r' /\ r = r'.cons v := by
 cases s with
 | bad e p => exact ⟨.nm [],.bad e p,.bad e p,rfl,rfl,h⟩
 | ok l o =>
   cases h with
   | jb h1 h2 => exact ⟨_,_,.ok _ _,.inl ⟨_,_,h1,rfl⟩,h2,rfl⟩
   | jbBad h1 => exact ⟨.nm [],_,.bad _ _,.inr ⟨_,_,h1,rfl⟩,rfl,rfl⟩
theorem jx_good {j : J} {s s' : Sg} {v : V} (h : Jx j s s' v) (hg : s'.good = true) : s.good = true := by
 cases s with
 | bad e p => have h : s' = .bad e p := h;subst h;cases hg
 | ok l o => rfl
theorem fx_out {fin : List V -> Fin'} {s s' : Sg} {v : V} {vs : List V} (h : Fx fin (match s with | .ok l o => .ok vs l o | .bad e p => .bad e p) s' v) (hn : ∀ j',fin vs ≠ .go j') : s' = s /\ (s.good = true -> fin vs = .out v) := by
 cases s with
 | bad e p => exact ⟨h,fun h => by cases h⟩
 | ok l o =>
   rcases h with ⟨h1,h2⟩ | ⟨j',h1,_⟩
   ·exact ⟨h2,fun _ => h1⟩
   ·exact absurd h1 (hn j')
theorem fx_go {fin : List V -> Fin'} {s s' : Sg} {v : V} {vs : List V} (h : Fx fin (match s with | .ok l o => .ok vs l o | .bad e p => .bad e p) s' v) (hn : s.good = true -> ∀ v,fin vs ≠ .out v) : (s.good = false /\ s' = s) \/ (s.good = true /\ ∃ j',fin vs = .go j' /\ Jx j' s s' v) := by
 cases s with
 | bad e p => exact .inl ⟨rfl,h⟩
 | ok l o =>
   rcases h with ⟨h1,h2⟩ | ⟨j',h1,h2⟩
   ·exact absurd h1 (hn rfl v)
   ·exact .inr ⟨rfl,j',h1,h2⟩
theorem cons_res (s : Sg) (v : V) (vs : List V) : (match s with | .ok l o => Sl.Res.ok vs l o | .bad e p => .bad e p).cons v = (match s with | .ok l o => Sl.Res.ok (v :: vs) l o | .bad e p => .bad e p) := by cases s <;> rfl
theorem res_eq (s : Sg) : s.res = (match s with | .ok l o => Sl.Res.ok [] l o | .bad e p => .bad e p) := by cases s <;> rfl
theorem pr_dead {L : List Tok} {q : Q} {oi : Int} {e p : Nat} (h : Sim L q oi (.bad e p)) (hL : L.length <= 1000) (hp : q.ps.length <= 90000) (m : Md) (hm : m = .expr \/ m = .cmp \/ m = .sum \/ m = .prod \/ m = .un \/ m = .call \/ m = .operand \/ m = .atom) :
 pr L 12 9 m q = some (-1,q.fail L 4) := by
 have k0 := h.kind0
 have h1 := h.failB 4
 have k1 := h1.kind0
 have f0 := h.fine hL hp
 have f1 := h1.fine hL (show q.ps.length <= 90000 from hp)
 have p1 : ∀ n,pr L 12 (n + 1) .atom q = some (-1,q.fail L 4) := fun n => by simp [pr,pstp,f0,k0,out,f1]
 have p2 : ∀ n,pr L 12 (n + 2) .operand q = some (-1,q.fail L 4) := fun n => by rw [pr,if_pos f0,pstp,p1];simp [bnd,f1,pr,pstp,k1,out]
 have p3 : ∀ n,pr L 12 (n + 3) .call q = some (-1,q.fail L 4) := fun n => by rw [pr,if_pos f0,pstp,p2];simp [bnd,f1,pr,pstp,k0,k1,out,cOpd]
 have p4 : ∀ n,pr L 12 (n + 4) .un q = some (-1,q.fail L 4) := fun n => by rw [pr,if_pos f0,pstp,p3];simp [k0]
 have p5 : ∀ n,pr L 12 (n + 5) .prod q = some (-1,q.fail L 4) := fun n => by rw [pr,if_pos f0,pstp,p4];simp [bnd,f1,pr,pstp,k0,k1,out,cOp]
 have p6 : ∀ n,pr L 12 (n + 6) .sum q = some (-1,q.fail L 4) := fun n => by rw [pr,if_pos f0,pstp,p5];simp [bnd,f1,pr,pstp,k0,k1,out,cOp]
 have p7 : ∀ n,pr L 12 (n + 7) .cmp q = some (-1,q.fail L 4) := fun n => by rw [pr,if_pos f0,pstp,p6];simp [bnd,f1,pr,pstp,k0,k1,out,cOp]
 have p8 : ∀ n,pr L 12 (n + 8) .seq q = some (-1,q.fail L 4) := fun n => by rw [pr,if_pos f0,pstp,p7];simp [bnd,f1,pr,pstp,k0,k1,out,cOp]
 have p9 : ∀ n,pr L 12 (n + 9) .expr q = some (-1,q.fail L 4) := fun n => by rw [pr,if_pos f0,pstp,p8];simp [k0]
 rcases hm with rfl | rfl | rfl | rfl | rfl | rfl | rfl | rfl
 ·exact p9 0
 ·exact p7 2
 ·exact p6 3
 ·exact p5 4
 ·exact p4 5
 ·exact p3 6
 ·exact p2 7
 ·exact p1 8
def wdO (k s : Nat) : Nat :=
 match k with
 | 2 => 11
 | 3 => 12
 | 4 => 13
 | 8 | 9 | 10 => 3
 | 11 => 6
 | 12 => 9
 | 13 => 31
 | 14 => 10
 | 15 | 16 | 17 => s
 | 18 => 26
 | 20 => 18
 | 21 => 14
 | 22 => 15
 | 23 => 16
 | 24 => 17
 | _ => 0
mutual
def Rep (ps : List CP) : Int -> T -> Prop
 | i,.nd _ k s n xs kids => if k = 25 then i = -1 else ∃ (j : Nat) (c : CP),i = j /\ ps[j]? = some c /\ c.k = k /\ c.wd = wdO k s /\ (k = 1 -> c.nm = n) /\ c.ns = (if k = 10 then patNames kids else xs) /\ Reps ps j (if k = 10 then -1 :: c.ks else c.ks) kids
def Reps (ps : List CP) (j : Nat) : List Int -> List T -> Prop
 | i :: is,c :: cs => i < j /\ Rep ps i c /\ Reps ps j is cs
 | [],[] => True
 | _,_ => False
end
mutual
theorem Rep.ext {ps : List CP} (z : List CP) : ∀ (c : T) (i : Int),Rep ps i c -> Rep (ps ++ z) i c
 | .nd _ k s n xs kids,i,h => by
   rw [Rep] at h ⊢
   split at h
   ·rw [if_pos (by assumption)];exact h
   ·rw [if_neg (by assumption)]
    obtain ⟨j,c,h1,h2,h3,h4,h5,h6,h7⟩ := h
    refine ⟨j,c,h1,?_,h3,h4,h5,h6,Reps.ext z kids _ _ h7⟩
    rw [List.getElem?_append_left (by have := (List.getElem?_eq_some_iff.1 h2).1;exact this)];exact h2
theorem Reps.ext {ps : List CP} (z : List CP) : ∀ (cs : List T) (j : Nat) (is : List Int),Reps ps j is cs -> Reps (ps ++ z) j is cs
 | [],j,is,h => by
   cases is with
   | nil => trivial
   | cons _ _ => rw [Reps] at h;exact h.elim;all_goals (intros;simp_all)
 | c :: cs,j,is,h => by
   cases is with
   | nil => rw [Reps] at h;exact h.elim;all_goals (intros;simp_all)
   | cons i is => rw [Reps] at h ⊢;exact ⟨h.1,Rep.ext z c i h.2.1,Reps.ext z cs j is h.2.2⟩
end
theorem Rep.lt {ps : List CP} {i : Int} {c : T} (h : Rep ps i c) (h25 : c.k ≠ 25) : 0 <= i /\ i < ps.length := by
 cases c with
 | nd b k s n xs kids =>
   have h25 : k ≠ 25 := h25
   rw [Rep,if_neg h25] at h
   obtain ⟨j,c,rfl,h2,_⟩ := h
   have := (List.getElem?_eq_some_iff.1 h2).1
   omega
theorem rep_brk {ps : List CP} {i : Int} {c : T} : Rep ps i (brk c) ↔ Rep ps i c := by cases c;exact Iff.rfl
def Sg.g : Sg -> Nat
 | .ok _ _ => 1
 | .bad _ _ => 0
theorem g_le (s : Sg) : s.g <= 1 := by cases s <;> simp [Sg.g]
theorem g_pot {s : Sg} (h : s.g = 0) : s.pot = 0 := by cases s with | ok _ _ => cases h | bad _ _ => rfl
theorem g_good {s : Sg} : s.good = true ↔ s.g = 1 := by cases s <;> simp [Sg.g,Sg.good]
theorem tm_b (k : Nat) (s : Sg) : (s.tm k).pot + 100 * (s.tm k).g <= s.pot /\ (s.tm k).g <= s.g /\ s.pot <= 1000000 * s.pot := by
 have h := tm_pot k s
 refine ⟨?_,?_,by omega⟩
 ·have h1 := g_le (s.tm k)
  by_cases h2 : (s.tm k).g = 1
  ·have := h.2 (g_good.2 h2);omega
  ·have := h.1;omega
 ·by_cases h2 : (s.tm k).g = 1
  ·obtain ⟨t,l,o,rfl,_⟩ := tm_good (g_good.2 h2);rw [h2];exact Nat.le_refl _
  ·have := g_le (s.tm k);omega
theorem cl_b (s : Sg) : s.cl.pot + 100 * s.cl.g <= s.pot /\ s.cl.g <= s.g := by
 have h := cl_pot s
 refine ⟨?_,?_⟩
 ·have h1 := g_le s.cl
  by_cases h2 : s.cl.g = 1
  ·have := h.2 (g_good.2 h2);omega
  ·have := h.1;omega
 ·by_cases h2 : s.cl.g = 1
  ·obtain ⟨t,l,o,rfl,_⟩ := cl_good (g_good.2 h2);rw [h2];exact Nat.le_refl _
  ·have := g_le s.cl;omega
theorem op_b (t : Tok) (l : List Tok) (o : Nat) : (opS t l o).pot <= 100 * l.length /\ (opS t l o).g <= 1 /\ ((opS t l o).g = 1 -> opS t l o = .ok l (o + 1)) := by
 unfold opS
 split
 ·exact ⟨Nat.le_refl _,Nat.le_refl _,fun _ => rfl⟩
 ·exact ⟨Nat.zero_le _,Nat.zero_le _,fun h => by cases h⟩
theorem jx_g {j : J} {s s' : Sg} {v : V} (h : Jx j s s' v) : s'.g <= s.g := by
 have h1 := g_le s'
 by_cases h2 : s'.g = 1
 ·have := g_good.1 (jx_good h (g_good.2 h2));omega
 ·omega
structure Got (L : List Tok) (q q' : Q) (x oi : Int) (s s' : Sg) (v : V) (lv dn up : Nat) : Prop where
 sim : Sim L q' oi s'
 ext : ∃ z,q'.ps = q.ps ++ z
 rep : s'.g = 1 -> ∃ c,v = .tr c /\ Rep q'.ps x c /\ c.k ≠ 25
 mon : s'.g <= s.g
 bnd : q'.ps.length + s'.pot + (dn + lv + 1) * s'.g <= q.ps.length + s.pot + up * s'.g + (lv + 1) * s.g
theorem Got.len {L : List Tok} {q q' : Q} {x oi : Int} {s s' : Sg} {v : V} {lv dn up : Nat} (h : Got L q q' x oi s s' v lv dn up) : q.ps.length <= q'.ps.length := by
 obtain ⟨z,hz⟩ := h.ext
 rw [hz];simp
def Does (L : List Tok) (q : Q) (m : Md) (s s' : Sg) (v : V) (oi oi' : Int) (lv dn up : Nat) : Prop := ∃ n x q',pr L 12 n m q = some (x,q') /\ Got L q q' x oi' s s' v lv dn up
theorem ext_trans {a b c : List CP} (h : ∃ z,b = a ++ z) (h' : ∃ z,c = b ++ z) : ∃ z,c = a ++ z := by
 obtain ⟨z,rfl⟩ := h
 obtain ⟨y,rfl⟩ := h'
 exact ⟨z ++ y,by rw [List.append_assoc]⟩
theorem Rep.up {a b : List CP} {i : Int} {c : T} (h : Rep a i c) (he : ∃ z,b = a ++ z) : Rep b i c := by
 obtain ⟨z,rfl⟩ := he
 exact Rep.ext z c i h
theorem Reps.wide {ps : List CP} : ∀ (cs : List T) (j j' : Nat) (is : List Int),j <= j' -> Reps ps j is cs -> Reps ps j' is cs
 | [],j,j',is,hj,h => by
   cases is with
   | nil => trivial
   | cons _ _ => rw [Reps] at h;exact h.elim;all_goals (intros;simp_all)
 | c :: cs,j,j',is,hj,h => by
   cases is with
   | nil => rw [Reps] at h;exact h.elim;all_goals (intros;simp_all)
   | cons i is => rw [Reps] at h ⊢;exact ⟨by omega,h.2.1,Reps.wide cs j j' is hj h.2.2⟩
theorem Reps.up {a b : List CP} {is : List Int} {cs : List T} (h : Reps a a.length is cs) (he : ∃ z,b = a ++ z) : Reps b b.length is cs := by
 obtain ⟨z,rfl⟩ := he
 exact Reps.wide _ _ _ _ (by simp) (Reps.ext z cs _ _ h)
theorem Reps.snoc {ps : List CP} {j : Nat} {i : Int} {c : T} (hi : i < j) (hc : Rep ps i c) : ∀ (cs : List T) (is : List Int),Reps ps j is cs -> Reps ps j (is ++ [i]) (cs ++ [c])
 | [],is,h => by
   cases is with
   | nil => exact ⟨hi,hc,trivial⟩
   | cons _ _ => rw [Reps] at h;exact h.elim;all_goals (intros;simp_all)
 | c' :: cs,is,h => by
   cases is with
   | nil => rw [Reps] at h;exact h.elim;all_goals (intros;simp_all)
   | cons i' is => rw [Reps] at h;exact ⟨h.1,h.2.1,Reps.snoc hi hc cs is h.2.2⟩
theorem Reps.len {ps : List CP} {j : Nat} : ∀ (cs : List T) (is : List Int),Reps ps j is cs -> is.length = cs.length
 | [],is,h => by
   cases is with
   | nil => rfl
   | cons _ _ => rw [Reps] at h;exact h.elim;all_goals (intros;simp_all)
 | c' :: cs,is,h => by
   cases is with
   | nil => rw [Reps] at h;exact h.elim;all_goals (intros;simp_all)
   | cons i' is => rw [Reps] at h;simp [Reps.len cs is h.2.2]
theorem rep_new {ps : List CP} {c : CP} {b k s n : Nat} {xs : List ByteArray} {kids : List T} (hk : c.k = k) (h25 : k ≠ 25) (hw : c.wd = wdO k s) (hn : k = 1 -> c.nm = n) (hns : c.ns = (if k = 10 then patNames kids else xs)) (hks : Reps ps ps.length (if k = 10 then -1 :: c.ks else c.ks) kids) : Rep (ps ++ [c]) ps.length (.nd b k s n xs kids) := by
 rw [Rep,if_neg h25]
 exact ⟨ps.length,c,rfl,by simp,hk,hw,hn,hns,Reps.ext _ _ _ _ hks⟩
theorem reps1 {ps : List CP} {x : Int} {a : T} (h : Rep ps x a) (h25 : a.k ≠ 25) : Reps ps ps.length [x] [a] := ⟨(h.lt h25).2,h,trivial⟩
theorem reps2 {ps : List CP} {x y : Int} {a b : T} (h : Rep ps x a) (h25 : a.k ≠ 25) (h' : Rep ps y b) (h25' : b.k ≠ 25) : Reps ps ps.length [x,y] [a,b] := ⟨(h.lt h25).2,h,reps1 h' h25'⟩
theorem reps3 {ps : List CP} {x y z : Int} {a b c : T} (h : Rep ps x a) (h25 : a.k ≠ 25) (h' : Rep ps y b) (h25' : b.k ≠ 25) (h'' : Rep ps z c) (h25'' : c.k ≠ 25) : Reps ps ps.length [x,y,z] [a,b,c] := ⟨(h.lt h25).2,h,reps2 h' h25' h'' h25''⟩
theorem got_add {L : List Tok} {q q3 : Q} {oi : Int} {s s3 : Sg} {v : V} {lv dn up : Nat} {c : CP} (hs : Sim L q3 oi s3) (he : ∃ z,q3.ps = q.ps ++ z) (hr : s3.g = 1 -> ∃ cc,v = .tr cc /\ Rep (q3.ps ++ [c]) q3.ps.length cc /\ cc.k ≠ 25) (hm : s3.g <= s.g)
 (hb : q3.ps.length + 1 + s3.pot + (dn + lv + 1) * s3.g <= q.ps.length + s.pot + up * s3.g + (lv + 1) * s.g) : Got L q (q3.add c) q3.ps.length oi s s3 v lv dn up :=
 ⟨hs.add,ext_trans he ⟨[c],rfl⟩,hr,hm,by show (q3.ps ++ [c]).length + _ + _ <= _;simp only [List.length_append,List.length_cons,List.length_nil];omega⟩
theorem does_dead {L : List Tok} {q : Q} {oi : Int} {j : J} {s s' : Sg} {v : V} {m : Md} {lv dn up e p : Nat} (hL : L.length <= 1000) (hm : m = .expr \/ m = .cmp \/ m = .sum \/ m = .prod \/ m = .un \/ m = .call \/ m = .operand \/ m = .atom) (he : s = .bad e p) (hJ : Jx j s s' v) (hS : Sim L q oi s) (hP : q.ps.length + s.pot + 5000 * s.g <= 85000) : Does L q m s s' v oi oi lv dn up := by
 subst he
 have hs : s' = .bad e p := hJ
 subst hs
 have hp : q.ps.length <= 90000 := by omega
 exact ⟨9,-1,q.fail L 4,pr_dead hS hL hp m hm,hS.failB 4,⟨[],by simp [Q.fail]⟩,fun h => (by cases h),Nat.le_refl _,(by simp [Sg.g,Sg.pot,Q.fail])⟩
def tj : J -> Bool
 | .expr | .cmp | .sum | .prod | .sign | .call | .operand | .atom => true
 | _ => false
def jmd : J -> Md
 | .expr => .expr
 | .cmp => .cmp
 | .sum => .sum
 | .prod => .prod
 | .sign => .un
 | .call => .call
 | .operand => .operand
 | _ => .atom
def jlv : J -> Nat
 | .expr => 20
 | .cmp => 16
 | .sum => 14
 | .prod => 12
 | .sign => 10
 | .call => 8
 | .operand => 4
 | _ => 2
def jdn : J -> Nat
 | .operand | .atom => 50
 | _ => 40
structure Al (L : List Tok) (M : Nat) : Prop where
 tr : ∀ j,tj j = true -> ∀ {s s' : Sg} {v : V} {q : Q} {oi : Int},Jx j s s' v -> Sim L q oi s -> q.ps.length + s.pot + 5000 * s.g <= 85000 -> s.pot + jlv j < M -> Does L q (jmd j) s s' v oi oi (jlv j) (jdn j) 0
 terms : ∀ {a : T} {i : Int} {s s' : Sg} {v : V} {q : Q} {oi : Int},Jx (.terms a) s s' v -> Sim L q oi s -> Rep q.ps i a -> a.k ≠ 25 -> s.g = 1 -> q.ps.length + s.pot + 5000 * s.g <= 85000 -> s.pot < M -> Does L q (.sumL i) s s' v oi oi 5 0 0
 facs : ∀ {a : T} {i : Int} {s s' : Sg} {v : V} {q : Q} {oi : Int},Jx (.facs a) s s' v -> Sim L q oi s -> Rep q.ps i a -> a.k ≠ 25 -> s.g = 1 -> q.ps.length + s.pot + 5000 * s.g <= 85000 -> s.pot < M -> Does L q (.prodL i) s s' v oi oi 5 0 0
 index : ∀ {a : T} {i : Int} {s s' : Sg} {v : V} {q : Q} {oi : Int},Jx (.index a) s s' v -> Sim L q oi s -> Rep q.ps i a -> a.k ≠ 25 -> s.g = 1 -> q.ps.length + s.pot + 5000 * s.g <= 85000 -> s.pot < M -> Does L q (.operL i) s s' v oi oi 5 0 0
 args : ∀ {zs : List T} {ks : List Int} {m : Nat} {s s' : Sg} {v : V} {q : Q} {oi : Int},Jx (.args m zs) s s' v -> Sim L q oi s -> Reps q.ps q.ps.length ks zs -> (∀ c ∈ zs,c.k ≠ 25) -> m + ks.length = 5 -> ks ≠ [] -> s.g = 1 -> q.ps.length + s.pot + 5000 * s.g <= 85000 -> s.pot + 6 < M -> Does L q (.callL ks) s s' v oi oi 6 0 1
 items : ∀ {zs : List T} {ks : List Int} {m : Nat} {t : Tok} {s s' : Sg} {v : V} {q : Q} {oi : Int},Jx (.items m zs) s s' v -> Sim L q oi s -> Reps q.ps q.ps.length ks zs -> (∀ c ∈ zs,c.k ≠ 25) -> m + ks.length = 6 -> ks ≠ [] -> s.g = 1 -> 1 <= oi -> q.ps.length + s.pot + 5000 * s.g <= 85000 -> s.pot < M -> Does L q (.tupL t ks) s s' v oi (oi - 1) 5 0 0
section
variable {L : List Tok} {M : Nat} {s s' : Sg} {v : V} {q : Q} {oi : Int}
theorem g_ok (l : List Tok) (o : Nat) : (Sg.ok l o).g = 1 := rfl
theorem pot_ok (t : Tok) (l : List Tok) (o : Nat) : (Sg.ok (t :: l) o).pot = 100 * l.length + 100 := by simp [Sg.pot];omega
theorem pot_ok' (l : List Tok) (o : Nat) : (Sg.ok l o).pot = 100 * l.length := rfl
theorem pl_step {n k c : Nat} {t : Tok} {ks : List Int} {x : Int} {q1 : Q} (hq : q.fine) (hl : ks.length < c) (h : pr L 12 n .operand q = some (x,q1)) (h1 : q1.fine) : pr L 12 (n + 1) (.prefL k c t ks) q = pr L 12 n (.prefL k c t (ks ++ [x])) q1 := by
 rw [pr,if_pos hq,pstp,if_pos hl,h]
 simp only [bnd,if_pos h1]
theorem pl_end {n k c : Nat} {t : Tok} {ks : List Int} (hq : q.fine) (hl : ¬ ks.length < c) : pr L 12 (n + 1) (.prefL k c t ks) q = some ((q.ps.length : Int),q.add ⟨k,t.p,t.k,0,[],ks⟩) := by
 rw [pr,if_pos hq,pstp,if_neg hl]
 simp only [addR,if_pos hq]
theorem pref_open {n k c : Nat} (hq : q.fine) : pr L 12 (n + 1) (.pref k c) q = pr L 12 n (.prefL k c (q.word L) []) q.take := by
 rw [pr,if_pos hq];rfl
theorem do_if (hL : L.length <= 1000) (A : Al L M) {t : Tok} {r : List Tok} {o : Nat} (hJ : Jx .expr (.ok (t :: r) o) s' v) (h6 : t.k = 6) (hS : Sim L q oi (.ok (t :: r) o)) (hP : q.ps.length + (Sg.ok (t :: r) o).pot + 5000 * (Sg.ok (t :: r) o).g <= 85000) (hM : (Sg.ok (t :: r) o).pot + 20 < M + 1) : Does L q .expr (.ok (t :: r) o) s' v oi oi 20 40 0 := by
 have hk := hS.kind
 have hw := hS.word
 rw [pot_ok,g_ok] at hP
 rw [pot_ok] at hM
 rcases jx_inv hJ with ⟨h,_⟩ | ⟨ss,fin,r0,hx,hs,hf⟩
 ·rw [h6] at h;cases h
 rw [h6] at hx
 cases hx
 obtain ⟨v0,r0,hs0,rfl,hv0⟩ := sx_tm hs
 rw [tm_ok,if_pos h6] at hs0
 have S0 := hS.take (by omega)
 have z0 : q.take.ps.length = q.ps.length := rfl
 have hgk0 := hv0 t r o rfl h6
 obtain ⟨s_0,hs_0⟩ : ∃ s_0,s_0 = Sg.ok r o := ⟨_,rfl⟩
 have pA0 : s_0.pot = 100 * r.length := by rw [hs_0];rfl
 have gA0 : s_0.g = 1 := by rw [hs_0];rfl
 rw [<- hs_0] at hs0 S0
 obtain ⟨v1,r1,s1,j1,hs1,rfl⟩ := sx_jb hs0
 obtain ⟨n1,x1,q1,p1,g1⟩ := A.tr .expr rfl j1 S0 (by omega) (by simp only [jlv];omega)
 have m1 := g1.mon
 have l1 := g1.len
 have b1 := g1.bnd
 simp only [jlv,jdn,jmd] at b1 p1
 have y1 := g_le s1
 obtain ⟨v2,r2,hs2,rfl,hv2⟩ := sx_tm hs1
 have S2 := g1.sim.want (k := 7) (by omega)
 obtain ⟨c2,d2,-⟩ := tm_b 7 s1
 have z2 : ((q1).want L 7).ps.length = (q1).ps.length := rfl
 obtain ⟨v3,r3,s3,j3,hs3,rfl⟩ := sx_jb hs2
 obtain ⟨n3,x3,q3,p3,g3⟩ := A.tr .expr rfl j3 S2 (by omega) (by simp only [jlv];omega)
 have m3 := g3.mon
 have l3 := g3.len
 have b3 := g3.bnd
 simp only [jlv,jdn,jmd] at b3 p3
 have y3 := g_le s3
 obtain ⟨v4,r4,hs4,rfl,hv4⟩ := sx_tm hs3
 have S4 := g3.sim.want (k := 8) (by omega)
 obtain ⟨c4,d4,-⟩ := tm_b 8 s3
 have z4 : ((q3).want L 8).ps.length = (q3).ps.length := rfl
 obtain ⟨v5,r5,s5,j5,hs5,rfl⟩ := sx_jb hs4
 obtain ⟨n5,x5,q5,p5,g5⟩ := A.tr .expr rfl j5 S4 (by omega) (by simp only [jlv];omega)
 have m5 := g5.mon
 have l5 := g5.len
 have b5 := g5.bnd
 simp only [jlv,jdn,jmd] at b5 p5
 have y5 := g_le s5
 have hr := sx_nil hs5
 subst hr
 simp only [res_eq,cons_res] at hf
 have p1 := pr_up (show n1 <= n1 + n3 + n5 by omega) p1
 have p3 := pr_up (show n3 <= n1 + n3 + n5 by omega) p3
 have p5 := pr_up (show n5 <= n1 + n3 + n5 by omega) p5
 obtain ⟨rfl,hout⟩ := fx_out hf (fun j' h => by split at h <;> simp [nop] at h)
 have f0 := hS.fine hL (by omega)
 have f1 := g1.sim.fine hL (by omega)
 have f3 := g3.sim.fine hL (by omega)
 have f5 := g5.sim.fine hL (by omega)
 refine ⟨n1 + n3 + n5 + 2,q5.ps.length,q5.add ⟨11,t.p,t.k,0,[],[x1,x3,x5]⟩,?_,?_⟩
 ·simp [pr,pstp,f0,hk,h6,p1,p3,p5,bnd,f1,f3,f5,addR,hw]
 ·have x12 : ∃ z,q3.ps = q1.ps ++ z := g3.ext
  have x23 : ∃ z,q5.ps = q3.ps ++ z := g5.ext
  refine got_add g5.sim (ext_trans g1.ext (ext_trans x12 x23)) (fun hg => ?_) (by rw [g_ok];omega) (by rw [pot_ok,g_ok];omega)
  obtain ⟨a1,rfl,ra1,ka1⟩ := g1.rep (by omega)
  obtain ⟨a2,rfl,ra2,ka2⟩ := g3.rep (by omega)
  obtain ⟨a3,rfl,ra3,ka3⟩ := g5.rep hg
  have ho := hout (g_good.2 hg)
  injection ho with ho
  exact ⟨_,ho.symm,rep_new rfl (by omega) (by rw [h6];rfl) (fun h => by omega) rfl (reps3 (ra1.up (ext_trans x12 x23)) ka1 (ra2.up x23) ka2 ra3 ka3),by show (11 : Nat) ≠ 25;omega⟩
theorem do_neg (hL : L.length <= 1000) (A : Al L M) {t : Tok} {r : List Tok} {o : Nat} (hJ : Jx .sign (.ok (t :: r) o) s' v) (h6 : t.k = 31) (hS : Sim L q oi (.ok (t :: r) o)) (hP : q.ps.length + (Sg.ok (t :: r) o).pot + 5000 * (Sg.ok (t :: r) o).g <= 85000) (hM : (Sg.ok (t :: r) o).pot + 10 < M + 1) : Does L q .un (.ok (t :: r) o) s' v oi oi 10 40 0 := by
 have hk := hS.kind
 have hw := hS.word
 rw [pot_ok,g_ok] at hP
 rw [pot_ok] at hM
 rcases jx_inv hJ with ⟨h,_⟩ | ⟨ss,fin,r0,hx,hs,hf⟩
 ·rw [h6] at h;cases h
 rw [h6] at hx
 cases hx
 obtain ⟨v0,r0,hs0,rfl,hv0⟩ := sx_tm hs
 rw [tm_ok,if_pos h6] at hs0
 have S0 := hS.take (by omega)
 have z0 : q.take.ps.length = q.ps.length := rfl
 have hgk0 := hv0 t r o rfl h6
 obtain ⟨s_0,hs_0⟩ : ∃ s_0,s_0 = Sg.ok r o := ⟨_,rfl⟩
 have pA0 : s_0.pot = 100 * r.length := by rw [hs_0];rfl
 have gA0 : s_0.g = 1 := by rw [hs_0];rfl
 rw [<- hs_0] at hs0 S0
 obtain ⟨v1,r1,s1,j1,hs1,rfl⟩ := sx_jb hs0
 obtain ⟨n1,x1,q1,p1,g1⟩ := A.tr .sign rfl j1 S0 (by omega) (by simp only [jlv];omega)
 have m1 := g1.mon
 have l1 := g1.len
 have b1 := g1.bnd
 simp only [jlv,jdn,jmd] at b1 p1
 have y1 := g_le s1
 have hr := sx_nil hs1
 subst hr
 simp only [res_eq,cons_res] at hf
 have p1 := pr_up (show n1 <= n1 by omega) p1
 obtain ⟨rfl,hout⟩ := fx_out hf (fun j' h => by split at h <;> simp [nop] at h)
 have f0 := hS.fine hL (by omega)
 have f1 := g1.sim.fine hL (by omega)
 refine ⟨n1 + 1,q1.ps.length,q1.add ⟨13,t.p,t.k,0,[],[x1]⟩,?_,?_⟩
 ·simp [pr,pstp,f0,hk,h6,p1,bnd,f1,addR,hw]
 ·refine got_add g1.sim g1.ext (fun hg => ?_) (by rw [g_ok];omega) (by rw [pot_ok,g_ok];omega)
  obtain ⟨a1,rfl,ra1,ka1⟩ := g1.rep hg
  have ho := hout (g_good.2 hg)
  injection ho with ho
  exact ⟨_,ho.symm,rep_new rfl (by omega) (by rw [h6];rfl) (fun h => by omega) rfl (reps1 ra1 ka1),by show (13 : Nat) ≠ 25;omega⟩
theorem do_not (hL : L.length <= 1000) (A : Al L M) {t : Tok} {r : List Tok} {o : Nat} (hJ : Jx .sign (.ok (t :: r) o) s' v) (h6 : t.k = 10) (hS : Sim L q oi (.ok (t :: r) o)) (hP : q.ps.length + (Sg.ok (t :: r) o).pot + 5000 * (Sg.ok (t :: r) o).g <= 85000) (hM : (Sg.ok (t :: r) o).pot + 10 < M + 1) : Does L q .un (.ok (t :: r) o) s' v oi oi 10 40 0 := by
 have hk := hS.kind
 have hw := hS.word
 rw [pot_ok,g_ok] at hP
 rw [pot_ok] at hM
 rcases jx_inv hJ with ⟨h,_⟩ | ⟨ss,fin,r0,hx,hs,hf⟩
 ·rw [h6] at h;cases h
 rw [h6] at hx
 cases hx
 obtain ⟨v0,r0,hs0,rfl,hv0⟩ := sx_tm hs
 rw [tm_ok,if_pos h6] at hs0
 have S0 := hS.take (by omega)
 have z0 : q.take.ps.length = q.ps.length := rfl
 have hgk0 := hv0 t r o rfl h6
 obtain ⟨s_0,hs_0⟩ : ∃ s_0,s_0 = Sg.ok r o := ⟨_,rfl⟩
 have pA0 : s_0.pot = 100 * r.length := by rw [hs_0];rfl
 have gA0 : s_0.g = 1 := by rw [hs_0];rfl
 rw [<- hs_0] at hs0 S0
 obtain ⟨v1,r1,s1,j1,hs1,rfl⟩ := sx_jb hs0
 obtain ⟨n1,x1,q1,p1,g1⟩ := A.tr .sign rfl j1 S0 (by omega) (by simp only [jlv];omega)
 have m1 := g1.mon
 have l1 := g1.len
 have b1 := g1.bnd
 simp only [jlv,jdn,jmd] at b1 p1
 have y1 := g_le s1
 have hr := sx_nil hs1
 subst hr
 simp only [res_eq,cons_res] at hf
 have p1 := pr_up (show n1 <= n1 by omega) p1
 obtain ⟨rfl,hout⟩ := fx_out hf (fun j' h => by split at h <;> simp [nop] at h)
 have f0 := hS.fine hL (by omega)
 have f1 := g1.sim.fine hL (by omega)
 refine ⟨n1 + 1,q1.ps.length,q1.add ⟨14,t.p,t.k,0,[],[x1]⟩,?_,?_⟩
 ·simp [pr,pstp,f0,hk,h6,p1,bnd,f1,addR,hw]
 ·refine got_add g1.sim g1.ext (fun hg => ?_) (by rw [g_ok];omega) (by rw [pot_ok,g_ok];omega)
  obtain ⟨a1,rfl,ra1,ka1⟩ := g1.rep hg
  have ho := hout (g_good.2 hg)
  injection ho with ho
  exact ⟨_,ho.symm,rep_new rfl (by omega) (by rw [h6];rfl) (fun h => by omega) rfl (reps1 ra1 ka1),by show (14 : Nat) ≠ 25;omega⟩
theorem do_print (hL : L.length <= 1000) (A : Al L M) {t : Tok} {r : List Tok} {o : Nat} (hJ : Jx .call (.ok (t :: r) o) s' v) (h6 : t.k = 14) (hS : Sim L q oi (.ok (t :: r) o)) (hP : q.ps.length + (Sg.ok (t :: r) o).pot + 5000 * (Sg.ok (t :: r) o).g <= 85000) (hM : (Sg.ok (t :: r) o).pot + 8 < M + 1) : Does L q .call (.ok (t :: r) o) s' v oi oi 8 40 0 := by
 have hk := hS.kind
 have hw := hS.word
 rw [pot_ok,g_ok] at hP
 rw [pot_ok] at hM
 rcases jx_inv hJ with ⟨h,_⟩ | ⟨ss,fin,r0,hx,hs,hf⟩
 ·rw [h6] at h;cases h
 rw [h6] at hx
 cases hx
 obtain ⟨v0,r0,hs0,rfl,hv0⟩ := sx_tm hs
 rw [tm_ok,if_pos h6] at hs0
 have S0 := hS.take (by omega)
 have z0 : q.take.ps.length = q.ps.length := rfl
 have hgk0 := hv0 t r o rfl h6
 obtain ⟨s_0,hs_0⟩ : ∃ s_0,s_0 = Sg.ok r o := ⟨_,rfl⟩
 have pA0 : s_0.pot = 100 * r.length := by rw [hs_0];rfl
 have gA0 : s_0.g = 1 := by rw [hs_0];rfl
 rw [<- hs_0] at hs0 S0
 obtain ⟨v1,r1,s1,j1,hs1,rfl⟩ := sx_jb hs0
 obtain ⟨n1,x1,q1,p1,g1⟩ := A.tr .operand rfl j1 S0 (by omega) (by simp only [jlv];omega)
 have m1 := g1.mon
 have l1 := g1.len
 have b1 := g1.bnd
 simp only [jlv,jdn,jmd] at b1 p1
 have y1 := g_le s1
 have hr := sx_nil hs1
 subst hr
 simp only [res_eq,cons_res] at hf
 have p1 := pr_up (show n1 <= n1 by omega) p1
 obtain ⟨rfl,hout⟩ := fx_out hf (fun j' h => by split at h <;> simp [nop] at h)
 have f0 := hS.fine hL (by omega)
 have f1' := (hS.take (by omega)).fine hL (show q.ps.length <= 90000 by omega)
 have f1 := g1.sim.fine hL (by omega)
 refine ⟨n1 + 4,q1.ps.length,q1.add ⟨21,t.p,t.k,0,[],[x1]⟩,?_,?_⟩
 ·rw [pr,if_pos f0,pstp]
  rw [hk,h6]
  simp only [show (14 : Nat) = 14 ↔ True from by decide,show (14 : Nat) = 15 ↔ False from by decide,show (14 : Nat) = 16 ↔ False from by decide,show (14 : Nat) = 17 ↔ False from by decide,if_true,if_false]
  rw [pref_open f0]
  rw [pl_step f1' (by simp) (pr_up (show n1 <= n1 + 1 by omega) p1) f1]
  rw [pl_end f1 (by simp),hw,h6]
  rfl
 ·have _h0 := True.intro
  refine got_add g1.sim g1.ext (fun hg => ?_) (by rw [g_ok];omega) (by rw [pot_ok,g_ok];omega)
  obtain ⟨a1,rfl,ra1,ka1⟩ := g1.rep (by omega)
  have ho := hout (g_good.2 hg)
  injection ho with ho
  exact ⟨_,ho.symm,rep_new rfl (by omega) (by rw [h6];rfl) (fun h => by omega) rfl (reps1 ra1 ka1),by show (21 : Nat) ≠ 25;omega⟩
theorem do_len (hL : L.length <= 1000) (A : Al L M) {t : Tok} {r : List Tok} {o : Nat} (hJ : Jx .call (.ok (t :: r) o) s' v) (h6 : t.k = 15) (hS : Sim L q oi (.ok (t :: r) o)) (hP : q.ps.length + (Sg.ok (t :: r) o).pot + 5000 * (Sg.ok (t :: r) o).g <= 85000) (hM : (Sg.ok (t :: r) o).pot + 8 < M + 1) : Does L q .call (.ok (t :: r) o) s' v oi oi 8 40 0 := by
 have hk := hS.kind
 have hw := hS.word
 rw [pot_ok,g_ok] at hP
 rw [pot_ok] at hM
 rcases jx_inv hJ with ⟨h,_⟩ | ⟨ss,fin,r0,hx,hs,hf⟩
 ·rw [h6] at h;cases h
 rw [h6] at hx
 cases hx
 obtain ⟨v0,r0,hs0,rfl,hv0⟩ := sx_tm hs
 rw [tm_ok,if_pos h6] at hs0
 have S0 := hS.take (by omega)
 have z0 : q.take.ps.length = q.ps.length := rfl
 have hgk0 := hv0 t r o rfl h6
 obtain ⟨s_0,hs_0⟩ : ∃ s_0,s_0 = Sg.ok r o := ⟨_,rfl⟩
 have pA0 : s_0.pot = 100 * r.length := by rw [hs_0];rfl
 have gA0 : s_0.g = 1 := by rw [hs_0];rfl
 rw [<- hs_0] at hs0 S0
 obtain ⟨v1,r1,s1,j1,hs1,rfl⟩ := sx_jb hs0
 obtain ⟨n1,x1,q1,p1,g1⟩ := A.tr .operand rfl j1 S0 (by omega) (by simp only [jlv];omega)
 have m1 := g1.mon
 have l1 := g1.len
 have b1 := g1.bnd
 simp only [jlv,jdn,jmd] at b1 p1
 have y1 := g_le s1
 have hr := sx_nil hs1
 subst hr
 simp only [res_eq,cons_res] at hf
 have p1 := pr_up (show n1 <= n1 by omega) p1
 obtain ⟨rfl,hout⟩ := fx_out hf (fun j' h => by split at h <;> simp [nop] at h)
 have f0 := hS.fine hL (by omega)
 have f1' := (hS.take (by omega)).fine hL (show q.ps.length <= 90000 by omega)
 have f1 := g1.sim.fine hL (by omega)
 refine ⟨n1 + 4,q1.ps.length,q1.add ⟨22,t.p,t.k,0,[],[x1]⟩,?_,?_⟩
 ·rw [pr,if_pos f0,pstp]
  rw [hk,h6]
  simp only [show (15 : Nat) = 14 ↔ False from by decide,show (15 : Nat) = 15 ↔ True from by decide,show (15 : Nat) = 16 ↔ False from by decide,show (15 : Nat) = 17 ↔ False from by decide,if_true,if_false]
  rw [pref_open f0]
  rw [pl_step f1' (by simp) (pr_up (show n1 <= n1 + 1 by omega) p1) f1]
  rw [pl_end f1 (by simp),hw,h6]
  rfl
 ·have _h0 := True.intro
  refine got_add g1.sim g1.ext (fun hg => ?_) (by rw [g_ok];omega) (by rw [pot_ok,g_ok];omega)
  obtain ⟨a1,rfl,ra1,ka1⟩ := g1.rep (by omega)
  have ho := hout (g_good.2 hg)
  injection ho with ho
  exact ⟨_,ho.symm,rep_new rfl (by omega) (by rw [h6];rfl) (fun h => by omega) rfl (reps1 ra1 ka1),by show (22 : Nat) ≠ 25;omega⟩
theorem do_array (hL : L.length <= 1000) (A : Al L M) {t : Tok} {r : List Tok} {o : Nat} (hJ : Jx .call (.ok (t :: r) o) s' v) (h6 : t.k = 16) (hS : Sim L q oi (.ok (t :: r) o)) (hP : q.ps.length + (Sg.ok (t :: r) o).pot + 5000 * (Sg.ok (t :: r) o).g <= 85000) (hM : (Sg.ok (t :: r) o).pot + 8 < M + 1) : Does L q .call (.ok (t :: r) o) s' v oi oi 8 40 0 := by
 have hk := hS.kind
 have hw := hS.word
 rw [pot_ok,g_ok] at hP
 rw [pot_ok] at hM
 rcases jx_inv hJ with ⟨h,_⟩ | ⟨ss,fin,r0,hx,hs,hf⟩
 ·rw [h6] at h;cases h
 rw [h6] at hx
 cases hx
 obtain ⟨v0,r0,hs0,rfl,hv0⟩ := sx_tm hs
 rw [tm_ok,if_pos h6] at hs0
 have S0 := hS.take (by omega)
 have z0 : q.take.ps.length = q.ps.length := rfl
 have hgk0 := hv0 t r o rfl h6
 obtain ⟨s_0,hs_0⟩ : ∃ s_0,s_0 = Sg.ok r o := ⟨_,rfl⟩
 have pA0 : s_0.pot = 100 * r.length := by rw [hs_0];rfl
 have gA0 : s_0.g = 1 := by rw [hs_0];rfl
 rw [<- hs_0] at hs0 S0
 obtain ⟨v1,r1,s1,j1,hs1,rfl⟩ := sx_jb hs0
 obtain ⟨n1,x1,q1,p1,g1⟩ := A.tr .operand rfl j1 S0 (by omega) (by simp only [jlv];omega)
 have m1 := g1.mon
 have l1 := g1.len
 have b1 := g1.bnd
 simp only [jlv,jdn,jmd] at b1 p1
 have y1 := g_le s1
 obtain ⟨v2,r2,s2,j2,hs2,rfl⟩ := sx_jb hs1
 obtain ⟨n2,x2,q2,p2,g2⟩ := A.tr .operand rfl j2 g1.sim (by omega) (by simp only [jlv];omega)
 have m2 := g2.mon
 have l2 := g2.len
 have b2 := g2.bnd
 simp only [jlv,jdn,jmd] at b2 p2
 have y2 := g_le s2
 have hr := sx_nil hs2
 subst hr
 simp only [res_eq,cons_res] at hf
 have p1 := pr_up (show n1 <= n1 + n2 by omega) p1
 have p2 := pr_up (show n2 <= n1 + n2 by omega) p2
 obtain ⟨rfl,hout⟩ := fx_out hf (fun j' h => by split at h <;> simp [nop] at h)
 have f0 := hS.fine hL (by omega)
 have f1' := (hS.take (by omega)).fine hL (show q.ps.length <= 90000 by omega)
 have f1 := g1.sim.fine hL (by omega)
 have f2 := g2.sim.fine hL (by omega)
 refine ⟨n1 + n2 + 5,q2.ps.length,q2.add ⟨23,t.p,t.k,0,[],[x1,x2]⟩,?_,?_⟩
 ·rw [pr,if_pos f0,pstp]
  rw [hk,h6]
  simp only [show (16 : Nat) = 14 ↔ False from by decide,show (16 : Nat) = 15 ↔ False from by decide,show (16 : Nat) = 16 ↔ True from by decide,show (16 : Nat) = 17 ↔ False from by decide,if_true,if_false]
  rw [pref_open f0]
  rw [pl_step f1' (by simp) (pr_up (show n1 + n2 <= n1 + n2 + 2 by omega) p1) f1]
  rw [pl_step f1 (by simp) (pr_up (show n1 + n2 <= n1 + n2 + 1 by omega) p2) f2]
  rw [pl_end f2 (by simp),hw,h6]
  rfl
 ·have _h0 := True.intro
  have x12 : ∃ z,q2.ps = q1.ps ++ z := g2.ext
  refine got_add g2.sim (ext_trans g1.ext x12) (fun hg => ?_) (by rw [g_ok];omega) (by rw [pot_ok,g_ok];omega)
  obtain ⟨a1,rfl,ra1,ka1⟩ := g1.rep (by omega)
  obtain ⟨a2,rfl,ra2,ka2⟩ := g2.rep (by omega)
  have ho := hout (g_good.2 hg)
  injection ho with ho
  exact ⟨_,ho.symm,rep_new rfl (by omega) (by rw [h6];rfl) (fun h => by omega) rfl (reps2 (ra1.up x12) ka1 ra2 ka2),by show (23 : Nat) ≠ 25;omega⟩
theorem do_put (hL : L.length <= 1000) (A : Al L M) {t : Tok} {r : List Tok} {o : Nat} (hJ : Jx .call (.ok (t :: r) o) s' v) (h6 : t.k = 17) (hS : Sim L q oi (.ok (t :: r) o)) (hP : q.ps.length + (Sg.ok (t :: r) o).pot + 5000 * (Sg.ok (t :: r) o).g <= 85000) (hM : (Sg.ok (t :: r) o).pot + 8 < M + 1) : Does L q .call (.ok (t :: r) o) s' v oi oi 8 40 0 := by
 have hk := hS.kind
 have hw := hS.word
 rw [pot_ok,g_ok] at hP
 rw [pot_ok] at hM
 rcases jx_inv hJ with ⟨h,_⟩ | ⟨ss,fin,r0,hx,hs,hf⟩
 ·rw [h6] at h;cases h
 rw [h6] at hx
 cases hx
 obtain ⟨v0,r0,hs0,rfl,hv0⟩ := sx_tm hs
 rw [tm_ok,if_pos h6] at hs0
 have S0 := hS.take (by omega)
 have z0 : q.take.ps.length = q.ps.length := rfl
 have hgk0 := hv0 t r o rfl h6
 obtain ⟨s_0,hs_0⟩ : ∃ s_0,s_0 = Sg.ok r o := ⟨_,rfl⟩
 have pA0 : s_0.pot = 100 * r.length := by rw [hs_0];rfl
 have gA0 : s_0.g = 1 := by rw [hs_0];rfl
 rw [<- hs_0] at hs0 S0
 obtain ⟨v1,r1,s1,j1,hs1,rfl⟩ := sx_jb hs0
 obtain ⟨n1,x1,q1,p1,g1⟩ := A.tr .operand rfl j1 S0 (by omega) (by simp only [jlv];omega)
 have m1 := g1.mon
 have l1 := g1.len
 have b1 := g1.bnd
 simp only [jlv,jdn,jmd] at b1 p1
 have y1 := g_le s1
 obtain ⟨v2,r2,s2,j2,hs2,rfl⟩ := sx_jb hs1
 obtain ⟨n2,x2,q2,p2,g2⟩ := A.tr .operand rfl j2 g1.sim (by omega) (by simp only [jlv];omega)
 have m2 := g2.mon
 have l2 := g2.len
 have b2 := g2.bnd
 simp only [jlv,jdn,jmd] at b2 p2
 have y2 := g_le s2
 obtain ⟨v3,r3,s3,j3,hs3,rfl⟩ := sx_jb hs2
 obtain ⟨n3,x3,q3,p3,g3⟩ := A.tr .operand rfl j3 g2.sim (by omega) (by simp only [jlv];omega)
 have m3 := g3.mon
 have l3 := g3.len
 have b3 := g3.bnd
 simp only [jlv,jdn,jmd] at b3 p3
 have y3 := g_le s3
 have hr := sx_nil hs3
 subst hr
 simp only [res_eq,cons_res] at hf
 have p1 := pr_up (show n1 <= n1 + n2 + n3 by omega) p1
 have p2 := pr_up (show n2 <= n1 + n2 + n3 by omega) p2
 have p3 := pr_up (show n3 <= n1 + n2 + n3 by omega) p3
 obtain ⟨rfl,hout⟩ := fx_out hf (fun j' h => by split at h <;> simp [nop] at h)
 have f0 := hS.fine hL (by omega)
 have f1' := (hS.take (by omega)).fine hL (show q.ps.length <= 90000 by omega)
 have f1 := g1.sim.fine hL (by omega)
 have f2 := g2.sim.fine hL (by omega)
 have f3 := g3.sim.fine hL (by omega)
 refine ⟨n1 + n2 + n3 + 6,q3.ps.length,q3.add ⟨24,t.p,t.k,0,[],[x1,x2,x3]⟩,?_,?_⟩
 ·rw [pr,if_pos f0,pstp]
  rw [hk,h6]
  simp only [show (17 : Nat) = 14 ↔ False from by decide,show (17 : Nat) = 15 ↔ False from by decide,show (17 : Nat) = 16 ↔ False from by decide,show (17 : Nat) = 17 ↔ True from by decide,if_true,if_false]
  rw [pref_open f0]
  rw [pl_step f1' (by simp) (pr_up (show n1 + n2 + n3 <= n1 + n2 + n3 + 3 by omega) p1) f1]
  rw [pl_step f1 (by simp) (pr_up (show n1 + n2 + n3 <= n1 + n2 + n3 + 2 by omega) p2) f2]
  rw [pl_step f2 (by simp) (pr_up (show n1 + n2 + n3 <= n1 + n2 + n3 + 1 by omega) p3) f3]
  rw [pl_end f3 (by simp),hw,h6]
  rfl
 ·have _h0 := True.intro
  have x12 : ∃ z,q2.ps = q1.ps ++ z := g2.ext
  have x23 : ∃ z,q3.ps = q2.ps ++ z := g3.ext
  refine got_add g3.sim (ext_trans g1.ext (ext_trans x12 x23)) (fun hg => ?_) (by rw [g_ok];omega) (by rw [pot_ok,g_ok];omega)
  obtain ⟨a1,rfl,ra1,ka1⟩ := g1.rep (by omega)
  obtain ⟨a2,rfl,ra2,ka2⟩ := g2.rep (by omega)
  obtain ⟨a3,rfl,ra3,ka3⟩ := g3.rep (by omega)
  have ho := hout (g_good.2 hg)
  injection ho with ho
  exact ⟨_,ho.symm,rep_new rfl (by omega) (by rw [h6];rfl) (fun h => by omega) rfl (reps3 (ra1.up (ext_trans x12 x23)) ka1 (ra2.up x23) ka2 ra3 ka3),by show (24 : Nat) ≠ 25;omega⟩
end
section
variable {L : List Tok} {M : Nat} {s s' : Sg} {v : V} {q : Q} {oi : Int}
theorem want_name {t : Tok} {l : List Tok} {o : Nat} (h : Sim L q oi (.ok (t :: l) o)) (hk : t.k = 2) : tkNm (wantW L 2 q.S) = t.t := by
 have hw := h.word
 unfold Q.word at hw
 unfold wantW tkNm nmOf
 rw [hw,if_pos hk,if_pos hk]
theorem par_run : ∀ (m : Nat) (xs pre : List ByteArray) {s s' : Sg} {v : V} {q : Q} {oi : Int},Jx (.params m xs) s s' v -> Sim L q oi s -> ∃ S' ys,parL L m q.S (pre ++ xs) = (S',pre ++ ys) /\ Sim L ⟨S',q.ps⟩ oi s' /\ s'.g <= s.g /\ s'.pot <= s.pot /\ (s'.g = 1 -> v = .nm ys) := by
 intro m
 induction m with
 | zero =>
   intro xs pre s s' v q oi hJ hS
   refine ⟨q.S,xs,rfl,?_⟩
   cases s with
   | bad e p => have h : s' = .bad e p := hJ;subst h;exact ⟨hS.ps,Nat.le_refl _,Nat.le_refl _,fun h => by cases h⟩
   | ok l o =>
     obtain ⟨t,r,rfl⟩ := hS.st.2.2.2.1.ne
     rcases jx_inv hJ with ⟨h,_⟩ | ⟨ss,fin,r0,hx,hs,hf⟩
     ·simp [expand] at h
     ·simp only [expand,Nat.lt_irrefl,and_false,if_false] at hx
      cases hx
      have hr := sx_nil hs
      subst hr
      rw [res_eq] at hf
      obtain ⟨rfl,hout⟩ := fx_out (s := .ok (t :: r) o) (fin := fun _ => .out (.nm xs)) (vs := []) hf (fun j' h => by cases h)
      exact ⟨hS.ps,Nat.le_refl _,Nat.le_refl _,fun h => by have := hout rfl;injection this with this;exact this.symm⟩
 | succ m ih =>
   intro xs pre s s' v q oi hJ hS
   cases s with
   | bad e p =>
     have h : s' = .bad e p := hJ
     subst h
     have h0 := hS.kind0
     unfold Q.kind at h0
     refine ⟨q.S,xs,?_,hS.ps,Nat.le_refl _,Nat.le_refl _,fun h => by cases h⟩
     rw [parL,if_neg (by omega)]
   | ok l o =>
     obtain ⟨t,r,rfl⟩ := hS.st.2.2.2.1.ne
     have hw := hS.word
     unfold Q.word at hw
     rcases jx_inv hJ with ⟨h,_⟩ | ⟨ss,fin,r0,hx,hs,hf⟩
     ·simp only [expand] at h;split at h <;> cases h
     ·by_cases h2 : t.k = 2
      ·simp only [expand,h2,Nat.zero_lt_succ,and_self,if_true] at hx
       cases hx
       obtain ⟨v0,r1,hs1,rfl,hv0⟩ := sx_tm hs
       rw [tm_ok,if_pos h2] at hs1
       have hr := sx_nil hs1
       subst hr
       have e0 := hv0 t r o rfl h2
       subst e0
       rcases fx_go (s := Sg.ok r o) (vs := [.tk t]) hf (fun _ v h => by cases h) with ⟨h,_⟩ | ⟨_,j',h,hJ'⟩
       ·cases h
       ·cases h
        obtain ⟨S',ys,P,S1,m1,l1,w1⟩ := ih _ pre hJ' (hS.take (by omega))
        refine ⟨S',ys,?_,S1,m1,?_,w1⟩
        ·rw [parL,hw,if_pos h2,List.append_assoc]
         have : tkNm t = t.t := by unfold tkNm nmOf;rw [if_pos h2]
         rw [this]
         exact P
        ·rw [pot_ok];rw [pot_ok'] at l1;omega
      ·simp only [expand,h2,false_and,if_false] at hx
       cases hx
       have hr := sx_nil hs
       subst hr
       rw [res_eq] at hf
       obtain ⟨rfl,hout⟩ := fx_out (s := .ok (t :: r) o) (fin := fun _ => .out (.nm xs)) (vs := []) hf (fun j' h => by cases h)
       refine ⟨q.S,xs,?_,hS.ps,Nat.le_refl _,Nat.le_refl _,fun h => by have := hout rfl;injection this with this;exact this.symm⟩
       rw [parL,hw,if_neg h2]
theorem tupL_dead {m : Nat} {ns : List ByteArray} {e p : Nat} (h : Sim L q oi (.bad e p)) : tupL L m q.S ns = (q.S,ns) := by
 have h0 := h.kind0
 unfold Q.kind at h0
 cases m with
 | zero => rfl
 | succ m => rw [tupL,if_neg (by omega)]
theorem nam_run : ∀ (m : Nat) (xs pre : List ByteArray) {s s' : Sg} {v : V} {q : Q} {oi : Int},Jx (.names m xs) s s' v -> Sim L q oi s -> ∃ S' ys,tupL L m q.S (pre ++ xs) = (S',pre ++ ys) /\ Sim L ⟨S',q.ps⟩ oi s' /\ s'.g <= s.g /\ s'.pot <= s.pot /\ (s'.g = 1 -> v = .nm ys) := by
 intro m
 induction m with
 | zero =>
   intro xs pre s s' v q oi hJ hS
   refine ⟨q.S,xs,rfl,?_⟩
   cases s with
   | bad e p => have h : s' = .bad e p := hJ;subst h;exact ⟨hS.ps,Nat.le_refl _,Nat.le_refl _,fun h => by cases h⟩
   | ok l o =>
     obtain ⟨t,r,rfl⟩ := hS.st.2.2.2.1.ne
     rcases jx_inv hJ with ⟨h,_⟩ | ⟨ss,fin,r0,hx,hs,hf⟩
     ·simp [expand] at h
     ·simp only [expand,Nat.lt_irrefl,and_false,if_false] at hx
      cases hx
      have hr := sx_nil hs
      subst hr
      rw [res_eq] at hf
      obtain ⟨rfl,hout⟩ := fx_out (s := .ok (t :: r) o) (fin := fun _ => .out (.nm xs)) (vs := []) hf (fun j' h => by cases h)
      exact ⟨hS.ps,Nat.le_refl _,Nat.le_refl _,fun h => by have := hout rfl;injection this with this;exact this.symm⟩
 | succ m ih =>
   intro xs pre s s' v q oi hJ hS
   cases s with
   | bad e p =>
     have h : s' = .bad e p := hJ
     subst h
     exact ⟨q.S,xs,tupL_dead hS,hS.ps,Nat.le_refl _,Nat.le_refl _,fun h => by cases h⟩
   | ok l o =>
     obtain ⟨t,r,rfl⟩ := hS.st.2.2.2.1.ne
     have hw := hS.word
     unfold Q.word at hw
     rcases jx_inv hJ with ⟨h,_⟩ | ⟨ss,fin,r0,hx,hs,hf⟩
     ·simp only [expand] at h;split at h <;> cases h
     ·by_cases h2 : t.k = 25
      ·simp only [expand,h2,Nat.zero_lt_succ,and_self,if_true] at hx
       cases hx
       obtain ⟨v0,r1,hs1,rfl,hv0⟩ := sx_tm hs
       rw [tm_ok,if_pos h2] at hs1
       have S0 := hS.take (by omega)
       obtain ⟨v1,r2,hs2,rfl,hv1⟩ := sx_tm hs1
       have S1 := S0.want (k := 2) (by omega)
       obtain ⟨c1,d1,-⟩ := tm_b 2 (.ok r o)
       rw [pot_ok'] at c1
       have hr := sx_nil hs2
       subst hr
       simp only [res_eq,cons_res] at hf
       have eT : ∀ ns,tupL L (m + 1) q.S ns = tupL L m (q.S.take.want L 2) (ns ++ [tkNm (wantW L 2 q.S.take)]) := fun ns => by rw [tupL,hw,if_pos h2]
       rcases fx_go hf (fun hg v h => by
        obtain ⟨t1,l1,o1,e1,e2,e3⟩ := tm_good hg
        have e0 := hv1 t1 l1 o1 e1 e2
        subst e0
        cases h) with ⟨h,e⟩ | ⟨hg,j',h,hJ'⟩
       ·subst e
        have hg0 : (Sg.tm 2 (Sg.ok r o)).g = 0 := by
         have h1 := g_le (Sg.tm 2 (Sg.ok r o))
         by_cases h3 : (Sg.tm 2 (Sg.ok r o)).g = 1
         ·rw [g_good.2 h3] at h;cases h
         ·omega
        have hpot := g_pot hg0
        refine ⟨q.S.take.want L 2,xs ++ [tkNm (wantW L 2 q.S.take)],?_,S1,by rw [hg0];exact Nat.zero_le _,by omega,fun h => by omega⟩
        rw [eT]
        cases hst : Sg.tm 2 (Sg.ok r o) with
        | ok _ _ => rw [hst] at hg0;cases hg0
        | bad e p =>
          rw [hst] at S1
          have := tupL_dead (m := m) (ns := pre ++ xs ++ [tkNm (wantW L 2 q.S.take)]) S1
          rw [<- List.append_assoc]
          exact this
       ·obtain ⟨t1,l1,o1,e1,e2,e3⟩ := tm_good hg
        have e0 := hv1 t1 l1 o1 e1 e2
        subst e0
        cases h
        obtain ⟨S',ys,P,S2,m2,l2,w2⟩ := ih _ pre hJ' S1
        have hnm : tkNm (wantW L 2 q.S.take) = t1.t := by
         rw [e1] at S0
         exact want_name S0 e2
        refine ⟨S',ys,?_,S2,by rw [g_ok];have := g_le (Sg.tm 2 (Sg.ok r o));omega,by rw [pot_ok];omega,w2⟩
        rw [eT,hnm,List.append_assoc]
        exact P
      ·simp only [expand,h2,false_and,if_false] at hx
       cases hx
       have hr := sx_nil hs
       subst hr
       rw [res_eq] at hf
       obtain ⟨rfl,hout⟩ := fx_out (s := .ok (t :: r) o) (fin := fun _ => .out (.nm xs)) (vs := []) hf (fun j' h => by cases h)
       refine ⟨q.S,xs,?_,hS.ps,Nat.le_refl _,Nat.le_refl _,fun h => by have := hout rfl;injection this with this;exact this.symm⟩
       rw [tupL,hw,if_neg h2]
theorem do_fun (hL : L.length <= 1000) (A : Al L M) {t : Tok} {r : List Tok} {o : Nat} (hJ : Jx .expr (.ok (t :: r) o) s' v) (h6 : t.k = 9) (hS : Sim L q oi (.ok (t :: r) o)) (hP : q.ps.length + (Sg.ok (t :: r) o).pot + 5000 * (Sg.ok (t :: r) o).g <= 85000) (hM : (Sg.ok (t :: r) o).pot + 20 < M + 1) : Does L q .expr (.ok (t :: r) o) s' v oi oi 20 40 0 := by
 have hk := hS.kind
 have hw := hS.word
 rw [pot_ok,g_ok] at hP
 rw [pot_ok] at hM
 rcases jx_inv hJ with ⟨h,_⟩ | ⟨ss,fin,r0,hx,hs,hf⟩
 ·rw [h6] at h;cases h
 rw [h6] at hx
 cases hx
 obtain ⟨v0,r0,hs0,rfl,hv0⟩ := sx_tm hs
 rw [tm_ok,if_pos h6] at hs0
 have S0 := hS.take (by omega)
 have z0 : q.take.ps.length = q.ps.length := rfl
 have hgk0 := hv0 t r o rfl h6
 obtain ⟨s_0,hs_0⟩ : ∃ s_0,s_0 = Sg.ok r o := ⟨_,rfl⟩
 have pA0 : s_0.pot = 100 * r.length := by rw [hs_0];rfl
 have gA0 : s_0.g = 1 := by rw [hs_0];rfl
 rw [<- hs_0] at hs0 S0
 obtain ⟨v1,r1,hs1,rfl,hv1⟩ := sx_tm hs0
 have S1 := S0.want (k := 2) (by omega)
 obtain ⟨c1,d1,-⟩ := tm_b 2 s_0
 have z1 : ((q.take).want L 2).ps.length = (q.take).ps.length := rfl
 obtain ⟨v2,r2,s2,j2,hs2,rfl⟩ := sx_jb hs1
 obtain ⟨S',ys,P2,S2,m2,l2,w2⟩ := par_run 3 [] [tkNm (wantW L 2 q.take.S)] j2 S1
 have S2 : Sim L ⟨S',q.ps⟩ oi s2 := S2
 have zz : (⟨S',q.ps⟩ : Q).ps.length = q.ps.length := rfl
 have y2 := g_le s2
 obtain ⟨v3,r3,hs3,rfl,hv3⟩ := sx_tm hs2
 have S3 := S2.want (k := 22) (by omega)
 obtain ⟨c3,d3,-⟩ := tm_b 22 s2
 have z3 : (((⟨S',q.ps⟩ : Q)).want L 22).ps.length = ((⟨S',q.ps⟩ : Q)).ps.length := rfl
 obtain ⟨v4,r4,s4,j4,hs4,rfl⟩ := sx_jb hs3
 obtain ⟨n4,x4,q4,p4,g4⟩ := A.tr .expr rfl j4 S3 (by omega) (by simp only [jlv];omega)
 have m4 := g4.mon
 have l4 := g4.len
 have b4 := g4.bnd
 simp only [jlv,jdn,jmd] at b4 p4
 have y4 := g_le s4
 have hr := sx_nil hs4
 subst hr
 simp only [res_eq,cons_res] at hf
 have p4 := pr_up (show n4 <= n4 by omega) p4
 obtain ⟨rfl,hout⟩ := fx_out hf (fun j' h => by split at h <;> simp [nop] at h)
 have f0 := hS.fine hL (by omega)
 have f4 := g4.sim.fine hL (by omega)
 have hpar : q.take.par L = (⟨S',q.ps⟩,[tkNm (wantW L 2 q.take.S)] ++ ys) := by
  unfold Q.par
  have P2' : parL L 3 (q.take.S.want L 2) [tkNm (wantW L 2 q.take.S)] = (S',[tkNm (wantW L 2 q.take.S)] ++ ys) := P2
  rw [P2'];rfl
 refine ⟨n4 + 2,q4.ps.length,q4.add ⟨12,t.p,t.k,0,[tkNm (wantW L 2 q.take.S)] ++ ys,[x4]⟩,?_,?_⟩
 ·rw [pr,if_pos f0,pstp,hk,h6]
  simp only [show (9 : Nat) = 3 ↔ False from by decide,show (9 : Nat) = 6 ↔ False from by decide,if_true,if_false]
  rw [pr,if_pos f0,pstp,hpar]
  simp only [p4,bnd,if_pos f4,addR,hw,h6]
 ·refine got_add g4.sim g4.ext (fun hg => ?_) (by rw [g_ok];omega) (by rw [pot_ok,g_ok];omega)
  obtain ⟨a1,rfl,ra1,ka1⟩ := g4.rep hg
  have hn2 := w2 (by omega)
  subst hn2
  obtain ⟨t1,l1',o1',e1,e2,e3⟩ := tm_good (s := s_0) (k := 2) (g_good.2 (by omega))
  have hv := hv1 t1 l1' o1' e1 e2
  subst hv
  have ho := hout (g_good.2 hg)
  injection ho with ho
  have hww : tkNm (wantW L 2 q.take.S) = t1.t := by
   rw [e1] at S0
   exact want_name S0 e2
  rw [hww]
  exact ⟨_,ho.symm,rep_new rfl (by omega) (by rw [h6];rfl) (fun h => by omega) rfl (reps1 ra1 ka1),by show (12 : Nat) ≠ 25;omega⟩
theorem do_let (hL : L.length <= 1000) (A : Al L M) {t t2 : Tok} {r : List Tok} {o : Nat} (hJ : Jx .lett (.ok (t2 :: r) o) s' v) (h3 : t.k = 3) (h4 : t2.k ≠ 4) (h23 : t2.k ≠ 23) (hS : Sim L q oi (.ok (t :: t2 :: r) o)) (hP : q.ps.length + (Sg.ok (t :: t2 :: r) o).pot + 5000 * (Sg.ok (t :: t2 :: r) o).g <= 85000) (hM : (Sg.ok (t :: t2 :: r) o).pot + 20 < M + 1) : Does L q .expr (.ok (t :: t2 :: r) o) s' v oi oi 20 40 0 := by
 have hk := hS.kind
 have hw := hS.word
 have hS1 := hS.take (by omega)
 have hk1 := hS1.kind
 have z_0 : q.take.ps.length = q.ps.length := rfl
 obtain ⟨s_0,hs_0⟩ : ∃ s_0,s_0 = Sg.ok (t2 :: r) o := ⟨_,rfl⟩
 have pA0 : s_0.pot = 100 * r.length + 100 := by rw [hs_0,pot_ok]
 have gA0 : s_0.g = 1 := by rw [hs_0];rfl
 rw [pot_ok,g_ok] at hP
 rw [pot_ok] at hM
 simp only [List.length_cons] at hP hM
 rcases jx_inv hJ with ⟨h,_⟩ | ⟨ss,fin,r0,hx,hs,hf⟩
 ·simp only [expand,if_neg h4,if_neg h23] at h;cases h
 simp only [expand,if_neg h4,if_neg h23] at hx
 cases hx
 rw [<- hs_0] at hs
 rw [<- hs_0] at hS1
 obtain ⟨v1,r1,hs1,rfl,hv1⟩ := sx_tm hs
 have S1 := hS1.want (k := 2) (by omega)
 obtain ⟨c1,d1,-⟩ := tm_b 2 s_0
 have z1 : ((q.take).want L 2).ps.length = (q.take).ps.length := rfl
 obtain ⟨v2,r2,hs2,rfl,hv2⟩ := sx_tm hs1
 have S2 := S1.want (k := 27) (by omega)
 obtain ⟨c2,d2,-⟩ := tm_b 27 (s_0.tm 2)
 have z2 : ((((q.take).want L 2)).want L 27).ps.length = (((q.take).want L 2)).ps.length := rfl
 obtain ⟨v3,r3,s3,j3,hs3,rfl⟩ := sx_jb hs2
 obtain ⟨n3,x3,q3,p3,g3⟩ := A.tr .expr rfl j3 S2 (by omega) (by simp only [jlv];omega)
 have m3 := g3.mon
 have l3 := g3.len
 have b3 := g3.bnd
 simp only [jlv,jdn,jmd] at b3 p3
 have y3 := g_le s3
 obtain ⟨v4,r4,hs4,rfl,hv4⟩ := sx_tm hs3
 have S4 := g3.sim.want (k := 5) (by omega)
 obtain ⟨c4,d4,-⟩ := tm_b 5 s3
 have z4 : ((q3).want L 5).ps.length = (q3).ps.length := rfl
 obtain ⟨v5,r5,s5,j5,hs5,rfl⟩ := sx_jb hs4
 obtain ⟨n5,x5,q5,p5,g5⟩ := A.tr .expr rfl j5 S4 (by omega) (by simp only [jlv];omega)
 have m5 := g5.mon
 have l5 := g5.len
 have b5 := g5.bnd
 simp only [jlv,jdn,jmd] at b5 p5
 have y5 := g_le s5
 have hr := sx_nil hs5
 subst hr
 simp only [res_eq,cons_res] at hf
 have p3 := pr_up (show n3 <= n3 + n5 by omega) p3
 have p5 := pr_up (show n5 <= n3 + n5 by omega) p5
 obtain ⟨rfl,hout⟩ := fx_out hf (fun j' h => by split at h <;> simp [nop] at h)
 have f0 := hS.fine hL (by omega)
 have f3 := g3.sim.fine hL (by omega)
 have f5 := g5.sim.fine hL (by omega)
 have hz : letN L 12 q.take = (8,q.take.want L 2,[tkNm (wantW L 2 q.take.S)]) := by
  unfold letN
  rw [hk1,if_neg h4,if_neg h23]
 refine ⟨n3 + n5 + 2,q5.ps.length,q5.add ⟨8,t.p,t.k,0,[tkNm (wantW L 2 q.take.S)],[x3,x5]⟩,?_,?_⟩
 ·rw [pr,if_pos f0,pstp,hk,if_pos h3]
  rw [pr,if_pos f0,pstp,hz]
  simp only [p3,p5,bnd,if_pos f3,if_pos f5,addR,hw]
 ·have x12 : ∃ z,q5.ps = q3.ps ++ z := g5.ext
  refine got_add g5.sim (ext_trans g3.ext x12) (fun hg => ?_) (by rw [g_ok];omega) (by rw [pot_ok,g_ok];simp only [List.length_cons];omega)
  obtain ⟨a1,rfl,ra1,ka1⟩ := g3.rep (by omega)
  obtain ⟨a2,rfl,ra2,ka2⟩ := g5.rep hg
  obtain ⟨t1,l1',o1',e1,e2,e3⟩ := tm_good (s := s_0) (k := 2) (g_good.2 (by omega))
  have hv := hv1 t1 l1' o1' e1 e2
  subst hv
  have ho := hout (g_good.2 hg)
  injection ho with ho
  have hww : tkNm (wantW L 2 q.take.S) = t1.t := by
   rw [e1] at hS1
   exact want_name hS1 e2
  rw [hww]
  exact ⟨_,ho.symm,rep_new rfl (by omega) (by rw [h3];rfl) (fun h => by omega) rfl (reps2 (ra1.up x12) ka1 ra2 ka2),by show (8 : Nat) ≠ 25;omega⟩
theorem do_rec (hL : L.length <= 1000) (A : Al L M) {t t2 : Tok} {r : List Tok} {o : Nat} (hJ : Jx .lett (.ok (t2 :: r) o) s' v) (h3 : t.k = 3) (h4 : t2.k = 4) (hS : Sim L q oi (.ok (t :: t2 :: r) o)) (hP : q.ps.length + (Sg.ok (t :: t2 :: r) o).pot + 5000 * (Sg.ok (t :: t2 :: r) o).g <= 85000) (hM : (Sg.ok (t :: t2 :: r) o).pot + 20 < M + 1) : Does L q .expr (.ok (t :: t2 :: r) o) s' v oi oi 20 40 0 := by
 have hk := hS.kind
 have hw := hS.word
 have hS1 := hS.take (by omega)
 have hk1 := hS1.kind
 have z_0 : q.take.ps.length = q.ps.length := rfl
 obtain ⟨s_0,hs_0⟩ : ∃ s_0,s_0 = Sg.ok (t2 :: r) o := ⟨_,rfl⟩
 have pA0 : s_0.pot = 100 * r.length + 100 := by rw [hs_0,pot_ok]
 have gA0 : s_0.g = 1 := by rw [hs_0];rfl
 rw [pot_ok,g_ok] at hP
 rw [pot_ok] at hM
 simp only [List.length_cons] at hP hM
 rcases jx_inv hJ with ⟨h,_⟩ | ⟨ss,fin,r0,hx,hs,hf⟩
 ·rw [h4] at h;cases h
 rw [h4] at hx
 cases hx
 rw [<- hs_0] at hs
 rw [<- hs_0] at hS1
 obtain ⟨v1,r1,hs1,rfl,hv1⟩ := sx_tm hs
 rw [hs_0,tm_ok,if_pos h4] at hs1
 rw [hs_0] at hS1
 have S1 := hS1.take (by omega)
 have z1 : q.take.take.ps.length = q.ps.length := rfl
 obtain ⟨s_1,hs_1⟩ : ∃ s_1,s_1 = Sg.ok r o := ⟨_,rfl⟩
 have pA1 : s_1.pot = 100 * r.length := by rw [hs_1];rfl
 have gA1 : s_1.g = 1 := by rw [hs_1];rfl
 rw [<- hs_1] at hs1 S1
 obtain ⟨v2,r2,hs2,rfl,hv2⟩ := sx_tm hs1
 have S2 := S1.want (k := 2) (by omega)
 obtain ⟨c2,d2,-⟩ := tm_b 2 s_1
 have z2 : ((q.take.take).want L 2).ps.length = (q.take.take).ps.length := rfl
 obtain ⟨v3,r3,hs3,rfl,hv3⟩ := sx_tm hs2
 have S3 := S2.want (k := 2) (by omega)
 obtain ⟨c3,d3,-⟩ := tm_b 2 (s_1.tm 2)
 have z3 : ((((q.take.take).want L 2)).want L 2).ps.length = (((q.take.take).want L 2)).ps.length := rfl
 obtain ⟨v4,r4,s4,j4,hs4,rfl⟩ := sx_jb hs3
 obtain ⟨S',ys,P4,S4,m4,l4,w4⟩ := par_run 3 [] [tkNm (wantW L 2 (q.take.take.want L 2).S)] j4 S3
 have S4 : Sim L ⟨S',q.ps⟩ oi s4 := S4
 have zz : (⟨S',q.ps⟩ : Q).ps.length = q.ps.length := rfl
 have y4 := g_le s4
 obtain ⟨v5,r5,hs5,rfl,hv5⟩ := sx_tm hs4
 have S5 := S4.want (k := 27) (by omega)
 obtain ⟨c5,d5,-⟩ := tm_b 27 s4
 have z5 : (((⟨S',q.ps⟩ : Q)).want L 27).ps.length = ((⟨S',q.ps⟩ : Q)).ps.length := rfl
 obtain ⟨v6,r6,s6,j6,hs6,rfl⟩ := sx_jb hs5
 obtain ⟨n6,x6,q6,p6,g6⟩ := A.tr .expr rfl j6 S5 (by omega) (by simp only [jlv];omega)
 have m6 := g6.mon
 have l6 := g6.len
 have b6 := g6.bnd
 simp only [jlv,jdn,jmd] at b6 p6
 have y6 := g_le s6
 obtain ⟨v7,r7,hs7,rfl,hv7⟩ := sx_tm hs6
 have S7 := g6.sim.want (k := 5) (by omega)
 obtain ⟨c7,d7,-⟩ := tm_b 5 s6
 have z7 : ((q6).want L 5).ps.length = (q6).ps.length := rfl
 obtain ⟨v8,r8,s8,j8,hs8,rfl⟩ := sx_jb hs7
 obtain ⟨n8,x8,q8,p8,g8⟩ := A.tr .expr rfl j8 S7 (by omega) (by simp only [jlv];omega)
 have m8 := g8.mon
 have l8 := g8.len
 have b8 := g8.bnd
 simp only [jlv,jdn,jmd] at b8 p8
 have y8 := g_le s8
 have hr := sx_nil hs8
 subst hr
 simp only [res_eq,cons_res] at hf
 have p6 := pr_up (show n6 <= n6 + n8 by omega) p6
 have p8 := pr_up (show n8 <= n6 + n8 by omega) p8
 obtain ⟨rfl,hout⟩ := fx_out hf (fun j' h => by split at h <;> simp [nop] at h)
 have f0 := hS.fine hL (by omega)
 have f6 := g6.sim.fine hL (by omega)
 have f8 := g8.sim.fine hL (by omega)
 have hz : letN L 12 q.take = (9,⟨S',q.ps⟩,tkNm (wantW L 2 q.take.take.S) :: ([tkNm (wantW L 2 (q.take.take.want L 2).S)] ++ ys)) := by
  unfold letN
  rw [hk1,if_pos h4]
  unfold Q.fnm fnN
  have P4' : parL L 3 ((q.take.take.S.want L 2).want L 2) [tkNm (wantW L 2 (q.take.take.S.want L 2))] = (S',[tkNm (wantW L 2 (q.take.take.S.want L 2))] ++ ys) := P4
  rw [P4'];rfl
 refine ⟨n6 + n8 + 2,q8.ps.length,q8.add ⟨9,t.p,t.k,0,tkNm (wantW L 2 q.take.take.S) :: ([tkNm (wantW L 2 (q.take.take.want L 2).S)] ++ ys),[x6,x8]⟩,?_,?_⟩
 ·rw [pr,if_pos f0,pstp,hk,if_pos h3]
  rw [pr,if_pos f0,pstp,hz]
  simp only [p6,p8,bnd,if_pos f6,if_pos f8,addR,hw]
 ·have x12 : ∃ z,q8.ps = q6.ps ++ z := g8.ext
  refine got_add g8.sim (ext_trans g6.ext x12) (fun hg => ?_) (by rw [g_ok];omega) (by rw [pot_ok,g_ok];simp only [List.length_cons];omega)
  obtain ⟨a1,rfl,ra1,ka1⟩ := g6.rep (by omega)
  obtain ⟨a2,rfl,ra2,ka2⟩ := g8.rep hg
  have hn4 := w4 (by omega)
  subst hn4
  obtain ⟨t1,l1',o1',e1,e2,e3⟩ := tm_good (s := s_1) (k := 2) (g_good.2 (by omega))
  have hv := hv2 t1 l1' o1' e1 e2
  subst hv
  obtain ⟨t3,l3',o3',i1,i2,i3⟩ := tm_good (s := s_1.tm 2) (k := 2) (g_good.2 (by omega))
  have hv' := hv3 t3 l3' o3' i1 i2
  subst hv'
  have ho := hout (g_good.2 hg)
  injection ho with ho
  have hww : tkNm (wantW L 2 q.take.take.S) = t1.t := by
   rw [e1] at S1
   exact want_name S1 e2
  have hww2 : tkNm (wantW L 2 (q.take.take.want L 2).S) = t3.t := by
   rw [i1] at S2
   exact want_name S2 i2
  rw [hww,hww2]
  exact ⟨_,ho.symm,rep_new rfl (by omega) (by rw [h3];rfl) (fun h => by omega) rfl (reps2 (ra1.up x12) ka1 ra2 ka2),by show (9 : Nat) ≠ 25;omega⟩
theorem do_pair (hL : L.length <= 1000) (A : Al L M) {t t2 : Tok} {r : List Tok} {o : Nat} (hJ : Jx .lett (.ok (t2 :: r) o) s' v) (h3 : t.k = 3) (h23 : t2.k = 23) (hS : Sim L q oi (.ok (t :: t2 :: r) o)) (hP : q.ps.length + (Sg.ok (t :: t2 :: r) o).pot + 5000 * (Sg.ok (t :: t2 :: r) o).g <= 85000) (hM : (Sg.ok (t :: t2 :: r) o).pot + 20 < M + 1) : Does L q .expr (.ok (t :: t2 :: r) o) s' v oi oi 20 40 0 := by
 have hk := hS.kind
 have hw := hS.word
 have hS1 := hS.take (by omega)
 have hk1 := hS1.kind
 have z_0 : q.take.ps.length = q.ps.length := rfl
 obtain ⟨s_0,hs_0⟩ : ∃ s_0,s_0 = Sg.ok (t2 :: r) o := ⟨_,rfl⟩
 have pA0 : s_0.pot = 100 * r.length + 100 := by rw [hs_0,pot_ok]
 have gA0 : s_0.g = 1 := by rw [hs_0];rfl
 rw [pot_ok,g_ok] at hP
 rw [pot_ok] at hM
 simp only [List.length_cons] at hP hM
 rcases jx_inv hJ with ⟨h,_⟩ | ⟨ss,fin,r0,hx,hs,hf⟩
 ·rw [h23] at h;cases h
 rw [h23] at hx
 cases hx
 rw [<- hs_0] at hs
 rw [<- hs_0] at hS1
 rw [hs_0] at hs
 obtain ⟨r1,hs1,rfl⟩ := sx_op hs h23
 rw [hs_0] at hS1
 have S1 := hS1.beg h23 (by omega)
 have o1g := op_b t2 r o
 have z1 : (q.take.beg L 12 23).ps.length = q.ps.length := rfl
 obtain ⟨s_1,hs_1⟩ : ∃ s_1,s_1 = opS t2 r o := ⟨_,rfl⟩
 rw [<- hs_1] at hs1 S1 o1g
 have o1p := o1g.1
 have o1q := o1g.2.1
 obtain ⟨v2,r2,hs2,rfl,hv2⟩ := sx_tm hs1
 have S2 := S1.want (k := 2) (by omega)
 obtain ⟨c2,d2,-⟩ := tm_b 2 s_1
 have z2 : (((q.take.beg L 12 23)).want L 2).ps.length = ((q.take.beg L 12 23)).ps.length := rfl
 obtain ⟨v3,r3,hs3,rfl,hv3⟩ := sx_tm hs2
 have S3 := S2.want (k := 25) (by omega)
 obtain ⟨c3,d3,-⟩ := tm_b 25 (s_1.tm 2)
 have z3 : (((((q.take.beg L 12 23)).want L 2)).want L 25).ps.length = ((((q.take.beg L 12 23)).want L 2)).ps.length := rfl
 obtain ⟨v4,r4,hs4,rfl,hv4⟩ := sx_tm hs3
 have S4 := S3.want (k := 2) (by omega)
 obtain ⟨c4,d4,-⟩ := tm_b 2 ((s_1.tm 2).tm 25)
 have z4 : (((((((q.take.beg L 12 23)).want L 2)).want L 25)).want L 2).ps.length = ((((((q.take.beg L 12 23)).want L 2)).want L 25)).ps.length := rfl
 obtain ⟨v5,r5,s5,j5,hs5,rfl⟩ := sx_jb hs4
 obtain ⟨S',ys,P5,S5,m5,l5,w5⟩ := nam_run 4 [] [tkNm (wantW L 2 (q.take.beg L 12 23).S),tkNm (wantW L 2 (((q.take.beg L 12 23).want L 2).want L 25).S)] j5 S4
 have S5 : Sim L ⟨S',q.ps⟩ (oi + 1) s5 := S5
 have y5 := g_le s5
 obtain ⟨v6,r6,hs6,rfl⟩ := sx_cl hs5
 have oi0 := hS.lo
 have S6 := S5.finish (by omega)
 obtain ⟨c6,d6⟩ := cl_b s5
 have oiE : oi + 1 - 1 = oi := by omega
 rw [oiE] at S6
 have S6 : Sim L ⟨S'.finish L,q.ps⟩ oi s5.cl := S6
 have zz : (⟨S'.finish L,q.ps⟩ : Q).ps.length = q.ps.length := rfl
 obtain ⟨v7,r7,hs7,rfl,hv7⟩ := sx_tm hs6
 have S7 := S6.want (k := 27) (by omega)
 obtain ⟨c7,d7,-⟩ := tm_b 27 s5.cl
 have z7 : (((⟨S'.finish L,q.ps⟩ : Q)).want L 27).ps.length = ((⟨S'.finish L,q.ps⟩ : Q)).ps.length := rfl
 obtain ⟨v8,r8,s8,j8,hs8,rfl⟩ := sx_jb hs7
 obtain ⟨n8,x8,q8,p8,g8⟩ := A.tr .expr rfl j8 S7 (by omega) (by simp only [jlv];omega)
 have m8 := g8.mon
 have l8 := g8.len
 have b8 := g8.bnd
 simp only [jlv,jdn,jmd] at b8 p8
 have y8 := g_le s8
 obtain ⟨v9,r9,hs9,rfl,hv9⟩ := sx_tm hs8
 have S9 := g8.sim.want (k := 5) (by omega)
 obtain ⟨c9,d9,-⟩ := tm_b 5 s8
 have z9 : ((q8).want L 5).ps.length = (q8).ps.length := rfl
 obtain ⟨v10,r10,s10,j10,hs10,rfl⟩ := sx_jb hs9
 obtain ⟨n10,x10,q10,p10,g10⟩ := A.tr .expr rfl j10 S9 (by omega) (by simp only [jlv];omega)
 have m10 := g10.mon
 have l10 := g10.len
 have b10 := g10.bnd
 simp only [jlv,jdn,jmd] at b10 p10
 have y10 := g_le s10
 have hr := sx_nil hs10
 subst hr
 simp only [res_eq,cons_res] at hf
 have p8 := pr_up (show n8 <= n8 + n10 by omega) p8
 have p10 := pr_up (show n10 <= n8 + n10 by omega) p10
 obtain ⟨rfl,hout⟩ := fx_out hf (fun j' h => by split at h <;> simp [nop] at h)
 have f0 := hS.fine hL (by omega)
 have f8 := g8.sim.fine hL (by omega)
 have f10 := g10.sim.fine hL (by omega)
 have hz : letN L 12 q.take = (10,⟨S'.finish L,q.ps⟩,[tkNm (wantW L 2 (q.take.beg L 12 23).S),tkNm (wantW L 2 (((q.take.beg L 12 23).want L 2).want L 25).S)] ++ ys) := by
  unfold letN
  rw [hk1,if_neg (by omega),if_pos h23]
  have P5' : tpB L 12 q.take.S = (S',[tkNm (wantW L 2 (q.take.beg L 12 23).S),tkNm (wantW L 2 (((q.take.beg L 12 23).want L 2).want L 25).S)] ++ ys) := P5
  unfold Q.tpm tpN
  rw [P5'];rfl
 refine ⟨n8 + n10 + 2,q10.ps.length,q10.add ⟨10,t.p,t.k,0,[tkNm (wantW L 2 (q.take.beg L 12 23).S),tkNm (wantW L 2 (((q.take.beg L 12 23).want L 2).want L 25).S)] ++ ys,[x8,x10]⟩,?_,?_⟩
 ·rw [pr,if_pos f0,pstp,hk,if_pos h3]
  rw [pr,if_pos f0,pstp,hz]
  simp only [p8,p10,bnd,if_pos f8,if_pos f10,addR,hw]
 ·have x12 : ∃ z,q10.ps = q8.ps ++ z := g10.ext
  refine got_add g10.sim (ext_trans g8.ext x12) (fun hg => ?_) (by rw [g_ok];omega) (by rw [pot_ok,g_ok];simp only [List.length_cons];omega)
  obtain ⟨a1,rfl,ra1,ka1⟩ := g8.rep (by omega)
  obtain ⟨a2,rfl,ra2,ka2⟩ := g10.rep hg
  have hn5 := w5 (by omega)
  subst hn5
  obtain ⟨t1,l1',o1',e1,e2,e3⟩ := tm_good (s := s_1) (k := 2) (g_good.2 (by omega))
  have hv := hv2 t1 l1' o1' e1 e2
  subst hv
  obtain ⟨t3,l3',o3',i1,i2,i3⟩ := tm_good (s := (s_1.tm 2).tm 25) (k := 2) (g_good.2 (by omega))
  have hv' := hv4 t3 l3' o3' i1 i2
  subst hv'
  have ho := hout (g_good.2 hg)
  injection ho with ho
  have hww : tkNm (wantW L 2 (q.take.beg L 12 23).S) = t1.t := by
   rw [e1] at S1
   exact want_name S1 e2
  have hww2 : tkNm (wantW L 2 (((q.take.beg L 12 23).want L 2).want L 25).S) = t3.t := by
   rw [i1] at S3
   exact want_name S3 i2
  rw [hww,hww2]
  exact ⟨_,ho.symm,rep_new rfl (by omega) (by rw [h3];rfl) (fun h => by omega) rfl ⟨by omega,rfl,reps2 (ra1.up x12) ka1 ra2 ka2⟩,by show (10 : Nat) ≠ 25;omega⟩
end
end Go.Proofs.YtmkdoejpgkgpbaaGreatDoor
