import Derived.Test.YtjmgolahkgalbaaGreatDoorS29
import Derived.Test.YtjmgolahkgalbaaGreatDoorS38
import Derived.Test.YtjmgolahkgalbaaGreatDoorS40
set_option linter.unusedVariables false
set_option linter.unusedSimpArgs false
set_option maxHeartbeats 20000000
namespace Go.Proofs.YtjmgolahkgalbaaGreatDoor
namespace Ko
open Go.RowKit Li
variable {s : ByteArray} {w : World} {r : Nat}
structure Vd (s : ByteArray) (β : Nat -> Option Nat) (X : St) : Prop where
 ok : ∀ i,(∃ j,β i = some j) ↔ ∃ b : HB,X.bs[i]? = some b /\ b.use = true
 reg : ∀ z,z < 8 -> ∃ v,VR β (X.x.g z) v
 slot : ∀ f ∈ X.fs,∀ i,.b i ∈ f.sl -> ∃ j,β i = some j
 fld : ∀ (i : Nat) (b : HB),X.bs[i]? = some b -> b.use = true -> ∀ k,.b k ∈ b.fs -> ∃ j,β k = some j
 fn : ∀ (i : Nat) (b : HB),X.bs[i]? = some b -> b.use = true -> b.fn = -1 \/ ∃ f : Nat,b.fn = f /\ f < hF s
variable {X : St}
theorem jf0 {β : Nat -> Option Nat} {d : Mc} {ds : List DB} {u k : Nat} {A : Nat -> Bool} (S : Sim s β (jj X) (aB X.bs) d ds u k A) : Vd s β X := by
 have hdom : ∀ i,(∃ j,β i = some j) ↔ ∃ b : HB,X.bs[i]? = some b /\ b.use = true := fun i => by
  rw [S.hp.dom i]
  constructor
  ·rintro ⟨c,h1,h2⟩
   obtain ⟨b,h3,rfl⟩ := jdH h1
   exact ⟨b,h3,h2⟩
  ·rintro ⟨b,h1,h2⟩
   exact ⟨_,jbk h1,h2⟩
 refine ⟨hdom,fun z hz => ?_,fun f hf i hi => ?_,fun i b hb hu k hk => ?_,fun i b hb hu => ?_⟩
 ·have := S.cl z hz
  rw [show (jj X).regs = rgC X.x.g from rfl,jec _ hz] at this
  exact this
 ·obtain ⟨g,_,h1⟩ := jcr S.fr _ (jeC hf)
  obtain ⟨j,_,hj⟩ := jbJ h1 (i := i) hi
  exact ⟨j,hj⟩
 ·obtain ⟨j,hj⟩ := (hdom i).2 ⟨b,hb,hu⟩
  have h1 := (S.hp.map i j hj).2.2
  rw [jam hb] at h1
  obtain ⟨j',_,hj'⟩ := jbJ h1 hk
  exact ⟨j',hj'⟩
 ·obtain ⟨j,hj⟩ := (hdom i).2 ⟨b,hb,hu⟩
  have h1 := S.hp.fn i j hj
  rw [jam hb] at h1
  exact h1
theorem Vd.on {β : Nat -> Option Nat} (h : Vd s β X) : Vd s β (onS X) := ⟨h.ok,h.reg,h.slot,h.fld,h.fn⟩
theorem Vd.lt {β : Nat -> Option Nat} (h : Vd s β X) {i j : Nat} (hj : β i = some j) : i < X.bs.length := by
 obtain ⟨b,hb,_⟩ := (h.ok i).1 ⟨j,hj⟩
 exact (jG hb).1
theorem Vd.bk {β : Nat -> Option Nat} (h : Vd s β X) {z i : Nat} (hz : z < 8) (hg : X.x.g z = .b i) : ∃ b : HB,X.bs[i]? = some b /\ b.use = true := by
 obtain ⟨v,hv⟩ := h.reg z hz
 rw [hg] at hv
 cases v with
 | n z => exact hv.elim
 | b j => exact (h.ok i).1 ⟨j,hv⟩
theorem Vd.rb {β : Nat -> Option Nat} (h : Vd s β X) {z : Nat} (hz : z < 8) : Rb X.bs (X.x.g z) := fun i hi => by
 obtain ⟨b,hb,_⟩ := h.bk hz hi
 exact (jG hb).1
theorem Vd.inr {β : Nat -> Option Nat} (h : Vd s β X) {z : Nat} {a : Int} (hz : z < 8) (hg : X.x.g z = .n a) : inR a := by
 obtain ⟨v,hv⟩ := h.reg z hz
 rw [hg] at hv
 cases v with
 | n z => exact hv.2
 | b j => exact hv.elim
theorem Vd.idle {β : Nat -> Option Nat} (h : Vd s β X) {i : Nat} (hc : 0 < cnt X.fs i) : ∃ b : HB,X.bs[i]? = some b /\ b.use = true := by
 obtain ⟨f,h1,h2⟩ := jdz.1 hc
 exact (h.ok i).1 (h.slot f h1 i h2)
theorem jj3 {β : Nat -> Option Nat} {half depth gr : Nat} {ins : List Int} (h : CI half depth gr ins X) (hV : Vd s β X) {v : V} (hv : Rb X.bs v) : Gc X (frC X.fs) v := by
 have h1 := h.ul
 have h2 := h.hm
 have h3 := h.blen
 have h4 := h.sm
 have h5 := h.gcs
 refine ⟨h.used,by omega,by omega,?_,by omega,h.rc,hv,fun i b hb => ⟨fun u hu k hk => ?_,?_⟩,fun i b hb hh => ?_⟩
 ·have := jdb X.bs.length X.free h.fnd (fun a ha => by obtain ⟨b,hb,_⟩ := h.free a ha;exact (jG hb).1)
  omega
 ·cases hq : b.use with
  | false => rw [h.clr i b hb hq] at hu;cases hu
  | true =>
    subst hk
    obtain ⟨j,hj⟩ := hV.fld i b hb hq k hu
    exact hV.lt hj
 ·cases hq : b.use with
  | false => rw [h.clr i b hb hq];simp
  | true =>
    have h6 : hw b <= su X.bs := by unfold su;exact jcj (List.mem_map.2 ⟨b,List.mem_of_getElem? hb,rfl⟩)
    unfold hw at h6
    rw [if_pos hq] at h6
    omega
 ·rw [h.held i b hb] at hh
  obtain ⟨f,h6,h7⟩ := jdz.1 (by omega : 0 < cnt X.fs i)
  exact ⟨fmC f,jeC h6,h7⟩
theorem jce {bs : List HB} : ∀ {i a : Nat},a ∈ gvF bs i -> a < i /\ ∃ b,bs[a]? = some b /\ gv b = true
 | 0,a,h => by cases h
 | i + 1,a,h => by
   simp only [gvF,List.mem_append] at h
   rcases h with h | h
   ·obtain ⟨h1,h2⟩ := jce h
    exact ⟨by omega,h2⟩
   ·cases hb : bs[i]? with
    | none => rw [hb] at h;cases h
    | some b =>
      rw [hb] at h
      simp only at h
      split at h
      ·rename_i hg
       rw [List.mem_singleton] at h
       subst h
       exact ⟨by omega,b,hb,hg⟩
      ·cases h
theorem jeA {bs : List HB} : ∀ i,(gvF bs i).Nodup
 | 0 => List.nodup_nil
 | i + 1 => by
   simp only [gvF]
   rw [List.nodup_append]
   refine ⟨jeA i,?_,?_⟩
   ·split
    ·split <;> simp
    ·simp
   ·intro a ha b hb e
    subst e
    have h1 := (jce ha).1
    split at hb
    ·split at hb
     ·rw [List.mem_singleton] at hb;omega
     ·cases hb
    ·cases hb
structure Cld (half depth gr : Nat) (ins : List Int) (X X1 : St) (v : V) : Prop where
 ci : CI half depth gr ins X1
 coll : ja2 (aB X.bs) (frC X.fs) v (aB X1.bs)
 abs : jj X1 = { jj X with gcs := X.x.gcs + 1 }
 fs : X1.fs = X.fs
 len : X1.bs.length = X.bs.length
 steps : X1.x.steps = X.x.steps
 idle : ∀ (i : Nat) (b : HB),X1.bs[i]? = some b -> b.use = false -> cnt X.fs i = 0
theorem jlW {β : Nat -> Option Nat} {half depth gr : Nat} {ins : List Int} {X X1 : St} (h : CI half depth gr ins X) (hV : Vd s β X) {v : V} (hc : Cl X (frC X.fs) v X1) (hg : X.x.gcs + 1 <= X.x.steps) : Cld half depth gr ins X X1 v := by
 obtain ⟨bs1,vf,rfl,hmk,hrt⟩ := hc
 have hcl : ∀ {i : Nat} {c : HB},bs1[i]? = some c -> 0 < cnt X.fs i -> c.rc = true := fun {i c} h1 h2 => by
  obtain ⟨b0,h3,h4⟩ := hmk.same i c h1
  refine hrt.held i (jG h1).1 c h1 ?_
  have h5 := h.held i b0 h3
  rw [h4]
  simp only
  omega
 have hat : ∀ {i : Nat} {b : HB},(swB bs1 bs1.length)[i]? = some b -> ∃ c b0 : HB,bs1[i]? = some c /\ X.bs[i]? = some b0 /\ c = { b0 with rc := c.rc } /\ b = swp c := fun {i b} hb => by
  rw [jdX,List.getElem?_map] at hb
  cases hc : bs1[i]? with
  | none => rw [hc] at hb;cases hb
  | some c =>
    rw [hc] at hb
    cases hb
    obtain ⟨b0,h3,h4⟩ := hmk.same i c hc
    exact ⟨c,b0,rfl,h3,h4,rfl⟩
 have hidle : ∀ (i : Nat) (b : HB),(swB bs1 bs1.length)[i]? = some b -> b.use = false -> cnt X.fs i = 0 := fun i b hb hu => by
  obtain ⟨c,b0,h1,h2,h3,rfl⟩ := hat hb
  rcases Nat.eq_zero_or_pos (cnt X.fs i) with hz | hz
  ·exact hz
  ·exfalso
   have hr := hcl h1 hz
   obtain ⟨b',h4,h5⟩ := hV.idle hz
   rw [h2] at h4;cases h4
   have hcu : c.use = true := by rw [h3];exact h5
   have hgv : gv c = false := by unfold gv;rw [hr];simp
   unfold swp at hu
   rw [if_neg (by rw [hgv];decide)] at hu
   rw [show c.use = false from hu] at hcu;cases hcu
 have hsu := jcV bs1 bs1.length jN
 have hsm := hmk.su
 have hlen : (swB bs1 bs1.length).length = X.bs.length := (ja7 _ _).trans hmk.len
 refine ⟨⟨h.half,h.hm,h.depth,h.dm,h.gr,h.ins,rfl,?_,h.sm,?_,hg,fun i b hb => ?_,fun i b hb hu => ?_,fun i b hb => ?_,h.cn,fun a ha => ?_,?_,h.fs,h.out⟩,?_,rfl,rfl,hlen,rfl,hidle⟩
 ·show su (swB bs1 bs1.length) <= half
  have := h.ul
  omega
 ·show (swB bs1 bs1.length).length <= _
  rw [hlen];exact h.blen
 ·obtain ⟨c,b0,h1,h2,h3,rfl⟩ := hat hb
  unfold swp
  split <;> rfl
 ·obtain ⟨c,b0,h1,h2,h3,rfl⟩ := hat hb
  unfold swp at hu ⊢
  split at hu
  ·rename_i hg'
   rw [if_pos hg'];rfl
  ·rename_i hg'
   rw [if_neg hg']
   show c.fs = []
   have hu' : c.use = false := hu
   rw [h3] at hu' ⊢
   exact h.clr i b0 h2 hu'
 ·obtain ⟨c,b0,h1,h2,h3,rfl⟩ := hat hb
  have h5 := h.held i b0 h2
  unfold swp at hb ⊢
  split
  ·rename_i hg'
   rw [if_pos hg'] at hb
   have := hidle i _ hb rfl
   show (0 : Int) = (cnt X.fs i : Nat)
   omega
  ·show c.held = (cnt X.fs i : Nat)
   rw [h3];exact h5
 ·rcases List.mem_append.1 (show a ∈ X.free ++ gvF bs1 bs1.length from ha) with ha | ha
  ·obtain ⟨b0,h1,h2⟩ := h.free a ha
   obtain ⟨b,hb⟩ : ∃ b,(swB bs1 bs1.length)[a]? = some b := ⟨_,List.getElem?_eq_getElem (by rw [hlen];exact (jG h1).1)⟩
   obtain ⟨c,b0',h3,h4,h5,rfl⟩ := hat hb
   rw [h1] at h4;cases h4
   refine ⟨_,hb,?_⟩
   unfold swp
   split
   ·rfl
   ·show c.use = false
    rw [h5];exact h2
  ·obtain ⟨h1,c,h2,h3⟩ := jce ha
   obtain ⟨b,hb⟩ : ∃ b,(swB bs1 bs1.length)[a]? = some b := ⟨_,List.getElem?_eq_getElem (by rw [ja7];exact h1)⟩
   obtain ⟨c',b0',h4,h5,h6,rfl⟩ := hat hb
   rw [h2] at h4;cases h4
   refine ⟨_,hb,?_⟩
   unfold swp
   rw [if_pos h3];rfl
 ·show (X.free ++ gvF bs1 bs1.length).Nodup
  rw [List.nodup_append]
  refine ⟨h.fnd,jeA _,fun a ha b hb e => ?_⟩
  subst e
  obtain ⟨b0,h1,h2⟩ := h.free a ha
  obtain ⟨_,c,h3,h4⟩ := jce hb
  obtain ⟨b0',h5,h6⟩ := hmk.same a c h3
  rw [h1] at h5;cases h5
  unfold gv at h4
  rw [h6] at h4
  simp [h2] at h4
 ·show ja2 (aB X.bs) (frC X.fs) v (aB (swB bs1 bs1.length))
  rw [jdX]
  refine jlE hmk hrt.more ?_
  intro f hf i hi b hb
  obtain ⟨g,h1,rfl⟩ := jid hf
  exact hcl hb (jdz.2 ⟨g,h1,hi⟩)
theorem jhV {half depth gr : Nat} {ins : List Int} {X1 X2 : St} (h : CI half depth gr ins X1) (idle : ∀ (i : Nat) (b : HB),X1.bs[i]? = some b -> b.use = false -> cnt X1.fs i = 0) (over : cnt X1.fs X1.bs.length = 0) (hlen : X1.bs.length + 1 <= X1.x.steps) {n a : Nat} {f : Int} {v : V} (hp : Pt X1 n f v a X2) (hfit : X1.x.used + n + 1 <= half) :
 CI half depth gr ins X2 /\ Put (aB X1.bs) a ⟨true,f,List.replicate n v⟩ (aB X2.bs) /\ jj X2 = jj X1 := by
 obtain ⟨v6,v7,vv,⟨hf,rfl,rfl⟩ | ⟨l,hf,rfl⟩⟩ := hp
 ·have hsu : su (X1.bs ++ [⟨true,f,List.replicate n v,0,false,vv⟩]) = su X1.bs + (n + 1) := by unfold su;simp [hw]
  have hat : ∀ {j : Nat} {c : HB},(X1.bs ++ [(⟨true,f,List.replicate n v,0,false,vv⟩ : HB)])[j]? = some c -> X1.bs[j]? = some c \/ (j = X1.bs.length /\ c = ⟨true,f,List.replicate n v,0,false,vv⟩) := fun {j c} hj => by
   rcases jaW hj with ⟨_,hj⟩ | ⟨rfl,rfl⟩
   ·exact .inl hj
   ·exact .inr ⟨rfl,rfl⟩
  have hu := h.used
  refine ⟨⟨h.half,h.hm,h.depth,h.dm,h.gr,h.ins,?_,?_,h.sm,?_,h.gcs,fun j c hj => ?_,fun j c hj hu' => ?_,fun j c hj => ?_,h.cn,fun b hb => ?_,?_,h.fs,h.out⟩,?_,rfl⟩
  ·show X1.x.used + n + 1 = su (X1.bs ++ _)
   omega
  ·show su (X1.bs ++ _) <= half
   omega
  ·show (X1.bs ++ _).length <= _
   simpa using hlen
  ·rcases hat hj with hj | ⟨rfl,rfl⟩
   ·exact h.rc j c hj
   ·rfl
  ·rcases hat hj with hj | ⟨rfl,rfl⟩
   ·exact h.clr j c hj hu'
   ·cases hu'
  ·rcases hat hj with hj | ⟨rfl,rfl⟩
   ·exact h.held j c hj
   ·show (0 : Int) = (cnt X1.fs _ : Nat)
    omega
  ·rw [show ({ X1 with x := _,bs := _ } : St).free = X1.free from rfl,hf] at hb;cases hb
  ·show X1.free.Nodup
   exact h.fnd
  ·refine .inl ⟨by unfold aB;simp,?_⟩
   show aB (X1.bs ++ _) = _
   unfold aB;simp [cb]
 ·have hm : a ∈ X1.free := by rw [hf];simp
  obtain ⟨b0,hb0,hu0⟩ := h.free a hm
  have hl := (jG hb0).1
  have hnd := h.fnd
  rw [hf,List.nodup_append] at hnd
  have hal : a ∉ l := fun ha => hnd.2.2 a ha a (by simp) rfl
  have hsu := jbs (b' := ⟨true,f,List.replicate n v,0,false,vv⟩) hb0
  have e1 : hw b0 = 0 := by unfold hw;rw [hu0];simp
  have e2 : hw ⟨true,f,List.replicate n v,0,false,vv⟩ = n + 1 := by simp [hw]
  have hu := h.used
  refine ⟨⟨h.half,h.hm,h.depth,h.dm,h.gr,h.ins,?_,?_,h.sm,?_,h.gcs,fun j c hj => ?_,fun j c hj hu' => ?_,fun j c hj => ?_,h.cn,fun b hb => ?_,hnd.1,h.fs,h.out⟩,?_,rfl⟩
  ·show X1.x.used + n + 1 = su (X1.bs.set a _)
   omega
  ·show su (X1.bs.set a _) <= half
   omega
  ·show (X1.bs.set a _).length <= _
   rw [List.length_set];exact h.blen
  ·rcases JJ hj hl with ⟨rfl,rfl⟩ | ⟨_,hj⟩
   ·rfl
   ·exact h.rc j c hj
  ·rcases JJ hj hl with ⟨rfl,rfl⟩ | ⟨_,hj⟩
   ·cases hu'
   ·exact h.clr j c hj hu'
  ·rcases JJ hj hl with ⟨rfl,rfl⟩ | ⟨_,hj⟩
   ·have := idle _ b0 hb0 hu0
    show (0 : Int) = (cnt X1.fs _ : Nat)
    omega
   ·exact h.held j c hj
  ·obtain ⟨c,h1,h2⟩ := h.free b (by rw [hf];exact List.mem_append_left _ hb)
   refine ⟨c,?_,h2⟩
   show (X1.bs.set a _)[b]? = _
   rw [List.getElem?_set_ne (show a ≠ b from fun e => hal (by rw [e];exact hb))]
   exact h1
  ·refine .inr ⟨cb b0,jbk hb0,hu0,?_⟩
   show aB (X1.bs.set a _) = _
   unfold aB;rw [List.map_set];rfl
def CP (s : ByteArray) (half depth gr : Nat) (ins : List Int) (κ : Kp) (r : Nat) (X : St) (w : World) (e : Ending) (w' : World) : Prop :=
 e = .returned (.tuple #[]) /\ ∃ κ' X',Fr0 κ κ' w w' /\ CI half depth gr ins X' /\
   ((RM s w' r κ' X' /\ X'.x.err = 42 /\ Ju s half depth ins (jj X) (aB X.bs) (jj X') (aB X'.bs)) \/
    ∃ er p,RE w' r κ' X' er p /\ er ≠ 42 /\ Ju s half depth ins (jj X) (aB X.bs) (jdv (jj X') er p) (aB X'.bs))
theorem jA (s : ByteArray) (half depth gr : Nat) (ins : List Int) (κ : Kp) (r : Nat) (X : St) : Good κ (CP s half depth gr ins κ r X) :=
 ⟨fun W e w' h => h.1,fun w W e w' hf ⟨h1,κ',X',h2,h3⟩ => ⟨h1,κ',X',Fr0.trans hf h2,h3⟩⟩
variable {κ : Kp}
theorem CP.ok {half depth gr : Nat} {ins : List Int} {X X' : St} {w w' : World} {e : Ending} (ho : OkP s κ w r X' e w') (hI : CI half depth gr ins X') (he : X'.x.err = 42) (hs : Ju s half depth ins (jj X) (aB X.bs) (jj X') (aB X'.bs)) : CP s half depth gr ins κ r X w e w' := by
 obtain ⟨h1,κ',h2,h3⟩ := ho
 exact ⟨h1,κ',X',h3,hI,.inl ⟨h2,he,hs⟩⟩
theorem CP.en {half depth gr : Nat} {ins : List Int} {X X' : St} {w w' : World} {e : Ending} {er p : Nat} (ho : EnP κ w r X' er p e w') (hI : CI half depth gr ins X') (hne : er ≠ 42) (hs : Ju s half depth ins (jj X) (aB X.bs) (jdv (jj X') er p) (aB X'.bs)) : CP s half depth gr ins κ r X w e w' := by
 obtain ⟨h1,κ',h2,h3⟩ := ho
 exact ⟨h1,κ',X',h3,hI,.inr ⟨er,p,h2,hne,hs⟩⟩
theorem jdx {β : Nat -> Option Nat} {half depth gr : Nat} {ins : List Int} {w w' : World} {e : Ending} (hI : CI half depth gr ins X) (hV : Vd s β X) (hs : X.x.steps < 65536) (herr : X.x.err = 42) {q n : Nat} {f : Int} {v : V} (hq : q < 8) (hef : ef s (bkC (aB X.bs)) ins (jj X) = .make q n f v)
 (hm : MkP s κ w r (onS X) (frC X.fs) v n f q e w') : CP s half depth gr ins κ r X w e w' := by
 obtain ⟨X1,⟨hp1,hp2⟩,hc⟩ := hm
 have hI0 := hI.on hs
 have hV0 := hV.on
 have hu := hI.used
 have hw := ja8 X.bs
 have hh := hI.half
 have hover : ∀ i,X.bs.length <= i -> cnt X.fs i = 0 := fun i hi => by
  rcases Nat.eq_zero_or_pos (cnt X.fs i) with hz | hz
  ·exact hz
  ·obtain ⟨b,hb,_⟩ := hV.idle hz
   have := (jG hb).1
   omega
 have key : CI half depth gr ins X1 /\ (half < jJ (aB X.bs) + n + 1 -> ja2 (aB X.bs) (frC X.fs) v (aB X1.bs) /\ X1.x.gcs = X.x.gcs + 1) /\ (jJ (aB X.bs) + n + 1 <= half -> aB X1.bs = aB X.bs /\ X1.x.gcs = X.x.gcs) /\ jj X1 = { jj (onS X) with gcs := X1.x.gcs } /\ X1.fs = X.fs /\ X1.bs.length = X.bs.length /\ X1.x.steps = X.x.steps + 1 /\ ∀ (i : Nat) (b : HB),X1.bs[i]? = some b -> b.use = false -> cnt X.fs i = 0 := by
  by_cases hx : half < X.x.used + n + 1
  ·have hcl := hp1 (by show X.x.half < X.x.used + n + 1;omega)
   have C := jlW hI0 hV0 hcl (Nat.succ_le_succ hI.gcs)
   have hg : X1.x.gcs = X.x.gcs + 1 := congrArg Mc.gcs C.abs
   refine ⟨C.ci,fun _ => ⟨C.coll,hg⟩,fun h => by omega,?_,C.fs,C.len,C.steps,C.idle⟩
   rw [C.abs,hg];rfl
  ·have hcl := hp2 (by show X.x.used + n + 1 <= X.x.half;omega)
   subst hcl
   refine ⟨hI0,fun h => by omega,fun _ => ⟨rfl,rfl⟩,rfl,rfl,rfl,rfl,fun i b hb hu' => ?_⟩
   rcases Nat.eq_zero_or_pos (cnt X.fs i) with hz | hz
   ·exact hz
   ·obtain ⟨b',h4,h5⟩ := hV.idle hz
    rw [show (onS X).bs = X.bs from rfl,h4] at hb;cases hb
    rw [h5] at hu';cases hu'
 obtain ⟨k1,k2,k3,k4,k5,k6,k7,k8⟩ := key
 have hw1 : X1.x.used = jJ (aB X1.bs) := by rw [<- ja8];exact k1.used
 have hh1 : X1.x.half = half := k1.half
 have he1 : X1.x.err = 42 := (congrArg Mc.err k4).trans herr
 rcases hc with ⟨h1,h2⟩ | ⟨h1,a,X2,h2,h3⟩
 ·refine CP.en h2 k1 (by decide) ?_
  unfold Ju
  rw [hef]
  refine ⟨aB X1.bs,X1.x.gcs,k2,k3,.inl ⟨by omega,?_,rfl⟩⟩
  rw [k4];rfl
 ·obtain ⟨p1,p2,p3⟩ := jhV k1 (by rw [k5];exact k8) (by rw [k5];exact hover _ (by omega)) (by have := hI.blen;omega) h2 (by omega)
  have he2 : X2.x.err = 42 := (congrArg Mc.err p3).trans he1
  refine CP.ok h3 (p1.re rfl) he2 ?_
  unfold Ju
  rw [hef]
  refine ⟨aB X1.bs,X1.x.gcs,k2,k3,.inr ⟨by omega,a,p2,?_⟩⟩
  have e1 : jj (jdf X2 q a) = { jj X2 with regs := rgC (upd (fun _ => z0) q (.b a)) } := rfl
  rw [e1,jc1 _ _ hq,jg5,p3,k4];rfl
theorem JI {half depth : Nat} {ins : List Int} {m : Mc} {bs : List CB} {e : Ef} (h : ef s (bkC bs) ins m = e) (h1 : ∀ r n f v,e ≠ .make r n f v) (h2 : ∀ i a v,e ≠ .fld i a v) : Ju s half depth ins m bs (ap s depth m e) bs := by
 unfold Ju
 rw [h]
 cases e with
 | make r n f v => exact absurd rfl (h1 r n f v)
 | fld i a v => exact absurd rfl (h2 i a v)
 | reg r v => exact ⟨rfl,rfl⟩
 | slot x v => exact ⟨rfl,rfl⟩
 | both x r v => exact ⟨rfl,rfl⟩
 | jump pc => exact ⟨rfl,rfl⟩
 | skip => exact ⟨rfl,rfl⟩
 | stop e p => exact ⟨rfl,rfl⟩
 | prn z => exact ⟨rfl,rfl⟩
 | inp r z => exact ⟨rfl,rfl⟩
 | call f t => exact ⟨rfl,rfl⟩
 | ret => exact ⟨rfl,rfl⟩
 | done z => exact ⟨rfl,rfl⟩
structure Cs (s : ByteArray) (half depth gr : Nat) (ins : List Int) (w : World) (r : Nat) (κ : Kp) (X : St) (β : Nat -> Option Nat) (op q x y p : Nat) : Prop where
 rm : RM s w r κ X
 ci : CI half depth gr ins X
 vd : Vd s β X
 hs : X.x.steps < 65536
 err : X.x.err = 42
 ln : Ln s X.x.next op q x y p
theorem Cs.ef {half depth gr : Nat} {ins : List Int} {β : Nat -> Option Nat} {op q x y p : Nat} (h : Cs s half depth gr ins w r κ X β op q x y p) : ef s (bkC (aB X.bs)) ins (jj X) = efO s (bkC (aB X.bs)) ins (jj X) op q x y p := by
 unfold Ko.ef
 rw [show (jj X).pc = X.x.next from rfl,h.ln.e0,h.ln.e1,h.ln.e2,h.ln.e3,h.ln.e4]
theorem Cs.st {half depth gr : Nat} {ins : List Int} {β : Nat -> Option Nat} {op q x y p : Nat} (h : Cs s half depth gr ins w r κ X β op q x y p) : X.x.steps <= 1000000 := by have := h.hs;omega
theorem Cs.hb {half depth gr : Nat} {ins : List Int} {β : Nat -> Option Nat} {op q x y p : Nat} (h : Cs s half depth gr ins w r κ X β op q x y p) : ∀ (i : Nat) (b : HB),X.bs[i]? = some b -> -100000 <= b.held /\ b.held <= 100000 := fun i b hb => by
 have h1 := h.ci.held i b hb
 have h2 := h.ci.cn i
 have h3 := h.hs
 omega
theorem Cs.reg {half depth gr : Nat} {ins : List Int} {w w1 w2 : World} {e : Ending} {β : Nat -> Option Nat} {op q x y p : Nat} (h : Cs s half depth gr ins w r κ X β op q x y p) {v : V} (hq : q < 8) (ho : OkP s κ w1 r (JU (onS X) q v) e w2) (he : Ko.ef s (bkC (aB X.bs)) ins (jj X) = .reg q v) : CP s half depth gr ins κ r X w1 e w2 := by
 refine CP.ok ho ((h.ci.on h.hs).re rfl) h.err ?_
 rw [jfK _ _ hq]
 exact JI he (fun _ _ _ _ h => by cases h) (fun _ _ _ h => by cases h)
theorem Cs.stop {half depth gr : Nat} {ins : List Int} {w w1 w2 : World} {e : Ending} {β : Nat -> Option Nat} {op q x y p : Nat} (h : Cs s half depth gr ins w r κ X β op q x y p) {er ps : Nat} (ho : EnP κ w1 r (onS X) er ps e w2) (hne : er ≠ 42) (he : Ko.ef s (bkC (aB X.bs)) ins (jj X) = .stop er ps) : CP s half depth gr ins κ r X w1 e w2 := by
 refine CP.en ho (h.ci.on h.hs) hne ?_
 exact JI he (fun _ _ _ _ h => by cases h) (fun _ _ _ h => by cases h)
theorem Cs.top {half depth gr : Nat} {ins : List Int} {β : Nat -> Option Nat} {op q x y p : Nat} (h : Cs s half depth gr ins w r κ X β op q x y p) {k : Nat} (hch : JD s k (jj X).fr) : ∃ l f,X.fs = l ++ [f] /\ l.length <= 63 /\ f.sl.length = r3 s k /\ J4 (jj X).fr = f.sl /\ ∀ u ∈ f.sl,∀ i,u = .b i -> i < X.bs.length := by
 rcases List.eq_nil_or_concat X.fs with e | ⟨l,f,e⟩
 ·exfalso
  rw [show (jj X).fr = frC X.fs from rfl,e] at hch
  exact hch
 ·rw [List.concat_eq_append] at e
  have hl := h.ci.fs
  have hd := h.ci.dm
  rw [e] at hl
  simp at hl
  have hfr : (jj X).fr = fmC f :: frC l := by rw [show (jj X).fr = frC X.fs from rfl,e,jaX]
  have ht := jdC hch
  rw [hfr] at ht ⊢
  refine ⟨l,f,e,by omega,ht,rfl,fun u hu i hi => ?_⟩
  subst hi
  obtain ⟨j,hj⟩ := h.vd.slot f (by rw [e];simp) i hu
  exact h.vd.lt hj
theorem rdC {z : Nat} (h : z < 8) : rg (jj X).regs z = X.x.g z := jec _ h
theorem jgz {l : List FX} {f : FX} (hf : X.fs = l ++ [f]) (x : Nat) (u : V) : frC (l ++ [{ f with sl := f.sl.set x u }]) = jad (jj X).fr x u := by
 rw [show (jj X).fr = frC X.fs from rfl,hf,jaX,jaX];rfl
theorem jdE {l : List FX} {f : FX} (hf : X.fs = l ++ [f]) (x : Nat) (u0 u : V) : jj (jak (onS X) l f x u0 u) = { (jj X).on with fr := jad (jj X).fr x u } := by
 rw [<- jgz hf];rfl
theorem jdF (X : St) (l : List FX) (f : FX) (x : Nat) (u0 u : V) : aB (jak (onS X) l f x u0 u).bs = aB X.bs := (jbX _ _ _).trans (jbX _ _ _)
section
variable {s : ByteArray} {half depth gr : Nat} {ins : List Int} {w : World} {r : Nat} {κ : Kp} {X : St} {β : Nat -> Option Nat} {op q x y p k : Nat}
theorem jlk (h : Cs s half depth gr ins w r κ X β 1 q x y p) (hq : q < 8) (hx : x < hN s) : Calls Tryz.prog 26 #[.pointer (some ⟨r,0,none⟩)] w (CP s half depth gr ins κ r X w) := by
 have he : ef s (bkC (aB X.bs)) ins (jj X) = .reg q (.n (kn s x)) := h.ef.trans (by simp only [efO,↓reduceIte])
 obtain ⟨z,hz⟩ : ∃ z,kn s x = z := ⟨_,rfl⟩
 rw [hz] at he
 refine ja9 h.rm h.ln ⟨by omega,by omega⟩ h.st (jA ..) fun W hW => (jiu (u := .n z) hW hq (fun W' hW' => ?_)).mono fun e w' ho => h.reg hq ho he
 have := jio (q := q) (y := y) (p := p) hW' hx
 rw [hz] at this
 exact this
theorem jlg (h : Cs s half depth gr ins w r κ X β 2 q x y p) (hq : q < 8) (hx : x < 8) : Calls Tryz.prog 26 #[.pointer (some ⟨r,0,none⟩)] w (CP s half depth gr ins κ r X w) :=
 ja9 h.rm h.ln ⟨by omega,by omega⟩ h.st (jA ..) fun W hW => (jit (u := X.x.g x) hW hq (fun W' hW' => jin hW' hx rfl)).mono fun e w' ho => h.reg hq ho (h.ef.trans (by rw [<- rdC (X := X) hx];rfl))
theorem jli (h : Cs s half depth gr ins w r κ X β 3 q x y p) (hch : JD s k (jj X).fr) (hq : q < 8) (hx : x < r3 s k) : Calls Tryz.prog 26 #[.pointer (some ⟨r,0,none⟩)] w (CP s half depth gr ins κ r X w) := by
 obtain ⟨l,f,hf,hl,hsl,ht,hv⟩ := h.top hch
 have hn : f.sl[x]? = some (rg f.sl x) := Jx (by omega)
 refine ja9 h.rm h.ln ⟨by omega,by omega⟩ h.st (jA ..) fun W hW => (jis hW hq (fun W' hW' => jim hW' hf hn (by omega))).mono fun e w' ho => h.reg hq ho (h.ef.trans ?_)
 rw [<- ht];rfl
theorem jlj (h : Cs s half depth gr ins w r κ X β 4 q x y p) (hch : JD s k (jj X).fr) (hq : q < 8) (hx : x < r3 s k) : Calls Tryz.prog 26 #[.pointer (some ⟨r,0,none⟩)] w (CP s half depth gr ins κ r X w) := by
 obtain ⟨l,f,hf,hl,hsl,ht,hv⟩ := h.top hch
 have hn : f.sl[x]? = some (rg f.sl x) := Jx (by omega)
 refine ja9 h.rm h.ln ⟨by omega,by omega⟩ h.st (jA ..) fun W hW => (jiv hW hq hf hn (by omega) (hv _ (List.mem_of_getElem? hn)) h.hb).mono fun e w' ho => ?_
 refine CP.ok ho ((h.ci.slot h.hs hf hn (u := z0)).re rfl) h.err ?_
 have he : ef s (bkC (aB X.bs)) ins (jj X) = .both x q (rg f.sl x) := h.ef.trans (by rw [<- ht];rfl)
 have e3 : aB (JU (jak (onS X) l f x (rg f.sl x) z0) q (rg f.sl x)).bs = aB X.bs := jdF X l f x (rg f.sl x) z0
 rw [jfK _ _ hq,jdE hf,e3]
 exact JI he (fun _ _ _ _ h => by cases h) (fun _ _ _ h => by cases h)
theorem jk8 (h : Cs s half depth gr ins w r κ X β 5 q x y p) (hch : JD s k (jj X).fr) (hq : q < 8) (hx : x < r3 s k) : Calls Tryz.prog 26 #[.pointer (some ⟨r,0,none⟩)] w (CP s half depth gr ins κ r X w) := by
 obtain ⟨l,f,hf,hl,hsl,ht,hv⟩ := h.top hch
 have hn : f.sl[x]? = some (rg f.sl x) := Jx (by omega)
 refine ja9 h.rm h.ln ⟨by omega,by omega⟩ h.st (jA ..) fun W hW => (jir hW hf hn (by omega) (hv _ (List.mem_of_getElem? hn)) (h.vd.rb hq) h.hb (fun W' hW' => jik hW' hq rfl)).mono fun e w' ho => ?_
 refine CP.ok ho (h.ci.slot h.hs hf hn) h.err ?_
 rw [jdE hf,jdF]
 have he : ef s (bkC (aB X.bs)) ins (jj X) = .slot x (X.x.g q) := h.ef.trans (by rw [<- rdC (X := X) hq];rfl)
 exact JI he (fun _ _ _ _ h => by cases h) (fun _ _ _ h => by cases h)
theorem jlp (h : Cs s half depth gr ins w r κ X β 6 q x y p) (hch : JD s k (jj X).fr) (hx : x < r3 s k) : Calls Tryz.prog 26 #[.pointer (some ⟨r,0,none⟩)] w (CP s half depth gr ins κ r X w) := by
 obtain ⟨l,f,hf,hl,hsl,ht,hv⟩ := h.top hch
 have hn : f.sl[x]? = some (rg f.sl x) := Jx (by omega)
 refine ja9 h.rm h.ln ⟨by omega,by omega⟩ h.st (jA ..) fun W hW => (jiq (u := z0) hW hf hn (by omega) (hv _ (List.mem_of_getElem? hn)) (fun i e => by cases e) h.hb (fun W' hW' => jip hW')).mono fun e w' ho => ?_
 refine CP.ok ho (h.ci.slot h.hs hf hn) h.err ?_
 rw [jdE hf,jdF]
 have he : ef s (bkC (aB X.bs)) ins (jj X) = .slot x z0 := h.ef
 exact JI he (fun _ _ _ _ h => by cases h) (fun _ _ _ h => by cases h)
theorem jk5 (h : Cs s half depth gr ins w r κ X β op q x y p) (ho : 7 <= op /\ op <= 14) (hq : q < 8) (hx : x < 8) (hy : y < 8) : Calls Tryz.prog 26 #[.pointer (some ⟨r,0,none⟩)] w (CP s half depth gr ins κ r X w) := by
 refine jd0 h.rm h.ln ⟨by omega,by omega⟩ h.st (jA ..) fun W hW => ?_
 have he : ef s (bkC (aB X.bs)) ins (jj X) = two (X.x.g x) (X.x.g y) fun a b => if (op = 10 \/ op = 11) /\ b = 0 then .stop 32 p else .reg q (.n (w63 (ar op a b))) := by
  rw [h.ef]
  unfold efO
  simp only [rdC hx,rdC hy]
  rw [if_neg (by omega),if_neg (by omega),if_neg (by omega),if_neg (by omega),if_neg (by omega),if_neg (by omega),if_pos (by omega)]
 cases hu : X.x.g x with
 | b i =>
   rw [hu] at he
   exact (jel (u := .b i) hW hx hy hu rfl ho (.inl rfl)).mono fun e w' h2 => h.stop h2 (by decide) he
 | n a =>
   rw [hu] at he
   cases hv : X.x.g y with
   | b i =>
     rw [hv] at he
     exact (jel (u := .n a) (v := .b i) hW hx hy hu hv ho (.inr rfl)).mono fun e w' h2 => h.stop h2 (by decide) he
   | n b =>
     rw [hv] at he
     simp only [two] at he
     by_cases hz : (op = 10 \/ op = 11) /\ b = 0
     ·rw [if_pos hz] at he
      exact (jhj (u := .n a) (v := .n b) hW hx hy hu hv hz.1 rfl (by rw [hz.2])).mono fun e w' h2 => h.stop h2 (by decide) he
     ·rw [if_neg hz] at he
      exact (jhh (u := .n a) (v := .n b) hW hx hy hu hv hq ho rfl rfl (h.vd.inr hx hu) (h.vd.inr hy hv) (fun h1 h2 => hz ⟨h1,h2⟩)).mono fun e w' h2 => h.reg hq h2 he
theorem jle (h : Cs s half depth gr ins w r κ X β op q x y p) (ho : op = 15 \/ op = 16) (hq : q < 8) (hx : x < 8) (hy : y < 8) : Calls Tryz.prog 26 #[.pointer (some ⟨r,0,none⟩)] w (CP s half depth gr ins κ r X w) := by
 refine jd0 h.rm h.ln ⟨by omega,by omega⟩ h.st (jA ..) fun W hW => ?_
 have he : ef s (bkC (aB X.bs)) ins (jj X) = one (X.x.g x) fun a => .reg q (.n (w63 (ar op a 0))) := by
  rw [h.ef]
  unfold efO
  simp only [rdC hx]
  rw [if_neg (by omega),if_neg (by omega),if_neg (by omega),if_neg (by omega),if_neg (by omega),if_neg (by omega),if_neg (by omega),if_pos (by omega)]
 cases hu : X.x.g x with
 | b i =>
   rw [hu] at he
   exact (jhk (u := .b i) hW hx hy hu rfl ho rfl).mono fun e w' h2 => h.stop h2 (by decide) he
 | n a =>
   rw [hu] at he
   exact (jhi (u := .n a) hW hx hy hu rfl hq ho rfl (h.vd.inr hx hu)).mono fun e w' h2 => h.reg hq h2 he
theorem jlm (h : Cs s half depth gr ins w r κ X β 17 q x y p) : Calls Tryz.prog 26 #[.pointer (some ⟨r,0,none⟩)] w (CP s half depth gr ins κ r X w) := by
 refine jd1 h.rm h.ln (.inl rfl) h.st (jA ..) fun W hW => (jjx hW).mono fun e w' h2 => ?_
 refine CP.ok h2 ((h.ci.on h.hs).re rfl) h.err ?_
 have he : ef s (bkC (aB X.bs)) ins (jj X) = .jump x := h.ef
 exact JI he (fun _ _ _ _ h => by cases h) (fun _ _ _ h => by cases h)
theorem jll (h : Cs s half depth gr ins w r κ X β 18 q x y p) (hq : q < 8) : Calls Tryz.prog 26 #[.pointer (some ⟨r,0,none⟩)] w (CP s half depth gr ins κ r X w) := by
 have he : ef s (bkC (aB X.bs)) ins (jj X) = one (X.x.g q) fun a => if a = 0 then .jump x else .skip := h.ef.trans (by rw [<- rdC (X := X) hq];rfl)
 refine jd1 h.rm h.ln (.inr rfl) h.st (jA ..) fun W hW => ?_
 cases hu : X.x.g q with
 | b i =>
   rw [hu] at he
   exact (jjD hW hq hu).mono fun e w' h2 => h.stop h2 (by decide) he
 | n a =>
   rw [hu] at he
   simp only [one] at he
   refine (jjw hW hq hu).mono fun e w' h2 => ?_
   by_cases hz : a = 0
   ·rw [if_pos hz] at h2 he
    refine CP.ok h2 ((h.ci.on h.hs).re rfl) h.err ?_
    exact JI he (fun _ _ _ _ h => by cases h) (fun _ _ _ h => by cases h)
   ·rw [if_neg hz] at h2 he
    refine CP.ok h2 (h.ci.on h.hs) h.err ?_
    exact JI he (fun _ _ _ _ h => by cases h) (fun _ _ _ h => by cases h)
theorem Cs.mkb (h : Cs s half depth gr ins w r κ X β op q x y p) {v : V} {n : Nat} (hv : Rb X.bs v) (hn : n <= 65536) : Mkb (onS X) (frC X.fs) v n :=
 ⟨jj3 (h.ci.on h.hs) h.vd.on hv,hn,by have h1 := h.ci.half;have h2 := h.ci.hm;show X.x.half <= 4096;omega,fun a ha => by obtain ⟨b,hb,_⟩ := h.ci.free a ha;exact (jG hb).1⟩
theorem jlf (h : Cs s half depth gr ins w r κ X β 19 q x y p) (hq : q < 8) (hx : x < 65536) : Calls Tryz.prog 26 #[.pointer (some ⟨r,0,none⟩)] w (CP s half depth gr ins κ r X w) :=
 jcW h.rm h.ln (.inl rfl) h.st (jA ..) fun W hW => (jmK hW hq (h.mkb (fun i e => by cases e) (Nat.le_of_lt hx))).mono fun e w' h2 => jdx h.ci h.vd h.hs h.err hq h.ef h2
theorem jlq (h : Cs s half depth gr ins w r κ X β 20 q x y p) (hq : q < 8) (hx : x < 65536) : Calls Tryz.prog 26 #[.pointer (some ⟨r,0,none⟩)] w (CP s half depth gr ins κ r X w) :=
 jcW h.rm h.ln (.inr (.inl rfl)) h.st (jA ..) fun W hW => (jl7 hW hq (h.mkb (fun i e => by cases e) (Nat.le_of_lt hx))).mono fun e w' h2 => jdx h.ci h.vd h.hs h.err hq h.ef h2
theorem jlH (h : Cs s half depth gr ins w r κ X β 23 q x y p) (hq : q < 8) (hx : x < 8) (hy : y < 8) : Calls Tryz.prog 26 #[.pointer (some ⟨r,0,none⟩)] w (CP s half depth gr ins κ r X w) := by
 have he : ef s (bkC (aB X.bs)) ins (jj X) = one (X.x.g x) fun a => if a < 0 \/ 32 < a then .stop 31 p else .make q a.toNat (-1) (X.x.g y) := h.ef.trans (by rw [<- rdC (X := X) hx,<- rdC (X := X) hy];rfl)
 refine jcW h.rm h.ln (.inr (.inr rfl)) h.st (jA ..) fun W hW => ?_
 cases hu : X.x.g x with
 | b i =>
   rw [hu] at he
   exact (jl5 hW hx hu).mono fun e w' h2 => h.stop h2 (by decide) he
 | n a =>
   rw [hu] at he
   simp only [one] at he
   by_cases hz : a < 0 \/ 32 < a
   ·rw [if_pos hz] at he
    exact (jl4 hW hx hu hz).mono fun e w' h2 => h.stop h2 (by decide) he
   ·rw [if_neg hz] at he
    have ha : ((a.toNat : Nat) : Int) = a := by omega
    exact (jl6 (n := a.toNat) (v := X.x.g y) hW hq hx hy (by rw [ha];exact hu) rfl (by omega) (h.mkb (h.vd.rb hy) (by omega))).mono fun e w' h2 => jdx h.ci h.vd h.hs h.err hq he h2
theorem jaR {i : Nat} {b : HB} (h : X.bs[i]? = some b) : szv X (.b i) = (b.fs.length : Int) := by unfold szv;simp only [h]
theorem jj4 {i : Nat} {b : HB} (h : X.bs[i]? = some b) : fnv X (.b i) = b.fn := by unfold fnv;simp only [h]
theorem jas {i : Nat} {b : HB} (h : X.bs[i]? = some b) : Rb X.bs (.b i) := fun j e => by cases e;exact (jG h).1
theorem Cs.fld (h : Cs s half depth gr ins w r κ X β op q x y p) {w1 w2 : World} {e : Ending} {i m : Nat} {b : HB} {t : V} (hb : X.bs[i]? = some b) (hm : m < b.fs.length) (ho : OkP s κ w1 r (jcw (onS X) i m b t) e w2) (he : Ko.ef s (bkC (aB X.bs)) ins (jj X) = .fld i m t) : CP s half depth gr ins κ r X w1 e w2 := by
 refine CP.ok ho ((h.ci.on h.hs).fld hb hm) h.err ?_
 unfold Ju
 rw [he]
 refine ⟨rfl,?_⟩
 show aB (X.bs.set i { b with fs := b.fs.set m t }) = _
 unfold jav
 rw [jbk hb]
 unfold aB
 rw [List.map_set];rfl
theorem jlh (h : Cs s half depth gr ins w r κ X β 26 q x y p) (hq : q < 8) (hx : x < 8) : Calls Tryz.prog 26 #[.pointer (some ⟨r,0,none⟩)] w (CP s half depth gr ins κ r X w) := by
 have he : ef s (bkC (aB X.bs)) ins (jj X) = blk (X.x.g x) fun i => .reg q (.n (bkC (aB X.bs) i).1.length) := h.ef.trans (by rw [<- rdC (X := X) hx];rfl)
 refine jbt h.rm h.ln ⟨by omega,by omega,by omega⟩ h.st (jA ..) fun W hW => jf5 hW hx rfl (jA ..) fun W hW => ?_
 show Calls _ _ #[_,_,.agg #[.bool (vb (X.x.g x)),.int .i64 (vi (X.x.g x))]] W _
 cases hu : X.x.g x with
 | n a =>
   rw [hu] at he
   exact (jjo (u := .n a) hW rfl).mono fun e w' h2 => h.stop h2 (by decide) he
 | b i =>
   rw [hu] at he
   obtain ⟨b,hb,_⟩ := h.vd.bk hx hu
   simp only [blk,jam hb] at he
   refine (jjv (u := .b i) hW rfl (jas hb) hq).mono fun e w' h2 => h.reg hq h2 ?_
   rw [jaR (X := onS X) hb];exact he
theorem jlo (h : Cs s half depth gr ins w r κ X β 22 q x y p) (hq : q < 8) (hx : x < 8) : Calls Tryz.prog 26 #[.pointer (some ⟨r,0,none⟩)] w (CP s half depth gr ins κ r X w) := by
 have he : ef s (bkC (aB X.bs)) ins (jj X) = blk (X.x.g x) fun i => if y < (bkC (aB X.bs) i).1.length then .reg q (rg (bkC (aB X.bs) i).1 y) else .stop 50 0 := h.ef.trans (by rw [<- rdC (X := X) hx];rfl)
 refine jbt h.rm h.ln ⟨by omega,by omega,by omega⟩ h.st (jA ..) fun W hW => jf7 hW hx rfl (jA ..) fun W hW => ?_
 show Calls _ _ #[_,_,.agg #[.bool (vb (X.x.g x)),.int .i64 (vi (X.x.g x))],_] W _
 cases hu : X.x.g x with
 | n a =>
   rw [hu] at he
   exact (jdW (u := .n a) hW (fun i e => by cases e) (by show (-1 : Int) <= y;omega)).mono fun e w' h2 => h.stop h2 (by decide) he
 | b i =>
   rw [hu] at he
   obtain ⟨b,hb,_⟩ := h.vd.bk hx hu
   simp only [blk,jam hb] at he
   by_cases hl : y < b.fs.length
   ·rw [if_pos hl] at he
    exact (jdV hW hb (Jx hl) hq).mono fun e w' h2 => h.reg hq h2 he
   ·rw [if_neg hl] at he
    exact (jdW (u := .b i) hW (jas hb) (by rw [jaR (X := onS X) hb];omega)).mono fun e w' h2 => h.stop h2 (by decide) he
theorem jk9 (h : Cs s half depth gr ins w r κ X β 21 q x y p) (hq : q < 8) (hx : x < 65536) (hy : y < 8) : Calls Tryz.prog 26 #[.pointer (some ⟨r,0,none⟩)] w (CP s half depth gr ins κ r X w) := by
 have he : ef s (bkC (aB X.bs)) ins (jj X) = blk (X.x.g q) fun i => if x < (bkC (aB X.bs) i).1.length then .fld i x (X.x.g y) else .stop 50 0 := h.ef.trans (by rw [<- rdC (X := X) hq,<- rdC (X := X) hy];rfl)
 refine jbt h.rm h.ln ⟨by omega,by omega,by omega⟩ h.st (jA ..) fun W hW => jf3 hW hx hq rfl (jA ..) fun W hW => ?_
 show Calls _ _ #[_,_,.agg #[.bool (vb (X.x.g q)),.int .i64 (vi (X.x.g q))],_] W _
 cases hu : X.x.g q with
 | n a =>
   rw [hu] at he
   exact (jeu (u := .n a) hW (fun i e => by cases e) (by show (-1 : Int) <= x;omega)).mono fun e w' h2 => h.stop h2 (by decide) he
 | b i =>
   rw [hu] at he
   obtain ⟨b,hb,_⟩ := h.vd.bk hq hu
   simp only [blk,jam hb] at he
   by_cases hl : x < b.fs.length
   ·rw [if_pos hl] at he
    exact (jet hW hb hl hy).mono fun e w' h2 => h.fld hb hl h2 he
   ·rw [if_neg hl] at he
    exact (jeu (u := .b i) hW (jas hb) (by rw [jaR (X := onS X) hb];omega)).mono fun e w' h2 => h.stop h2 (by decide) he
end
section
variable {s : ByteArray} {half depth gr : Nat} {ins : List Int} {w : World} {r : Nat} {κ : Kp} {X : St} {β : Nat -> Option Nat} {op q x y p k : Nat}
theorem jln (h : Cs s half depth gr ins w r κ X β 24 q x y p) (hq : q < 8) (hx : x < 8) (hy : y < 8) : Calls Tryz.prog 26 #[.pointer (some ⟨r,0,none⟩)] w (CP s half depth gr ins κ r X w) := by
 have he : ef s (bkC (aB X.bs)) ins (jj X) = bln (X.x.g x) (X.x.g y) fun i a => if 0 <= a /\ a < (bkC (aB X.bs) i).1.length then .reg q (rg (bkC (aB X.bs) i).1 a.toNat) else .stop 30 p := h.ef.trans (by rw [<- rdC (X := X) hx,<- rdC (X := X) hy];rfl)
 refine jbt h.rm h.ln ⟨by omega,by omega,by omega⟩ h.st (jA ..) fun W hW => ?_
 cases hu : X.x.g x with
 | n a =>
   rw [hu] at he
   exact jb4 (u := .n a) hW hx hy hu rfl (jA ..) fun W hW => (jcf (u := .n a) hW (.inl rfl)).mono fun e w' h2 => ⟨h2.1,h.stop h2.2 (by decide) he⟩
 | b i =>
   rw [hu] at he
   obtain ⟨b,hb,_⟩ := h.vd.bk hx hu
   cases ht : X.x.g y with
   | b j =>
     rw [ht] at he
     exact jb4 (u := .b i) (t := .b j) hW hx hy hu ht (jA ..) fun W hW => (jcf (u := .b i) (t := .b j) hW (.inr rfl)).mono fun e w' h2 => ⟨h2.1,h.stop h2.2 (by decide) he⟩
   | n a =>
     rw [ht] at he
     simp only [bln,jam hb] at he
     by_cases hl : 0 <= a /\ a < (b.fs.length : Int)
     ·rw [if_pos hl] at he
      have ha : ((a.toNat : Nat) : Int) = a := by omega
      refine jf6 (u := .b i) (t := .n a) hW hx hy hu ht (jA ..) (fun W hW => jeG (u := .b i) (t := .n a) hW (jas hb) rfl rfl (by rw [jaR (X := onS X) hb];exact hl)) fun W hW => ?_
      have := jdV (op := 24) (x := x) (y := y) (p := p) (m := a.toNat) hW hb (Jx (l := b.fs) (by omega)) hq
      rw [ha] at this
      exact this.mono fun e w' h2 => h.reg hq h2 he
     ·rw [if_neg hl] at he
      by_cases hn : a < 0
      ·exact jb4 (u := .b i) (t := .n a) hW hx hy hu ht (jA ..) fun W hW => (jeH (u := .b i) (t := .n a) hW (jas hb) rfl rfl ⟨hn,rfl⟩).mono fun e w' h2 => ⟨h2.1,h.stop h2.2 (by decide) he⟩
      ·exact jb4 (u := .b i) (t := .n a) hW hx hy hu ht (jA ..) fun W hW => (jeI (u := .b i) (t := .n a) hW (jas hb) rfl rfl (by rw [jaR (X := onS X) hb];show 0 <= a /\ _ <= a;omega)).mono fun e w' h2 => ⟨h2.1,h.stop h2.2 (by decide) he⟩
theorem jlc (h : Cs s half depth gr ins w r κ X β 25 q x y p) (hq : q < 8) (hx : x < 8) (hy : y < 8) : Calls Tryz.prog 26 #[.pointer (some ⟨r,0,none⟩)] w (CP s half depth gr ins κ r X w) := by
 have he : ef s (bkC (aB X.bs)) ins (jj X) = bln (X.x.g q) (X.x.g x) fun i a => if 0 <= a /\ a < (bkC (aB X.bs) i).1.length then .fld i a.toNat (X.x.g y) else .stop 30 p := h.ef.trans (by rw [<- rdC (X := X) hq,<- rdC (X := X) hx,<- rdC (X := X) hy];rfl)
 refine jbt h.rm h.ln ⟨by omega,by omega,by omega⟩ h.st (jA ..) fun W hW => ?_
 cases hu : X.x.g q with
 | n a =>
   rw [hu] at he
   exact jb3 (u := .n a) hW hx hq hu rfl (jA ..) fun W hW => (jcf (u := .n a) hW (.inl rfl)).mono fun e w' h2 => ⟨h2.1,h.stop h2.2 (by decide) he⟩
 | b i =>
   rw [hu] at he
   obtain ⟨b,hb,_⟩ := h.vd.bk hq hu
   cases ht : X.x.g x with
   | b j =>
     rw [ht] at he
     exact jb3 (u := .b i) (t := .b j) hW hx hq hu ht (jA ..) fun W hW => (jcf (u := .b i) (t := .b j) hW (.inr rfl)).mono fun e w' h2 => ⟨h2.1,h.stop h2.2 (by decide) he⟩
   | n a =>
     rw [ht] at he
     simp only [bln,jam hb] at he
     by_cases hl : 0 <= a /\ a < (b.fs.length : Int)
     ·rw [if_pos hl] at he
      have ha : ((a.toNat : Nat) : Int) = a := by omega
      refine jf4 (u := .b i) (t := .n a) hW hx hq hu ht (jA ..) (fun W hW => jeG (u := .b i) (t := .n a) hW (jas hb) rfl rfl (by rw [jaR (X := onS X) hb];exact hl)) fun W hW => ?_
      have := jet (op := 25) (q := q) (x := x) (p := p) (m := a.toNat) hW hb (by omega) hy
      rw [ha] at this
      exact this.mono fun e w' h2 => h.fld hb (by omega) h2 he
     ·rw [if_neg hl] at he
      by_cases hn : a < 0
      ·exact jb3 (u := .b i) (t := .n a) hW hx hq hu ht (jA ..) fun W hW => (jeH (u := .b i) (t := .n a) hW (jas hb) rfl rfl ⟨hn,rfl⟩).mono fun e w' h2 => ⟨h2.1,h.stop h2.2 (by decide) he⟩
      ·exact jb3 (u := .b i) (t := .n a) hW hx hq hu ht (jA ..) fun W hW => (jeI (u := .b i) (t := .n a) hW (jas hb) rfl rfl (by rw [jaR (X := onS X) hb];show 0 <= a /\ _ <= a;omega)).mono fun e w' h2 => ⟨h2.1,h.stop h2.2 (by decide) he⟩
theorem jld (h : Cs s half depth gr ins w r κ X β 27 q x y p) (hq : q < 8) : Calls Tryz.prog 26 #[.pointer (some ⟨r,0,none⟩)] w (CP s half depth gr ins κ r X w) := by
 have he : ef s (bkC (aB X.bs)) ins (jj X) = one (X.x.g q) fun a => if 16 <= X.out.length then .stop 34 p else .prn a := h.ef.trans (by rw [<- rdC (X := X) hq];rfl)
 refine jgl h.rm h.ln rfl h.st (jA ..) fun W hW => ?_
 cases hu : X.x.g q with
 | b i =>
   rw [hu] at he
   exact (jhZ hW hq hu).mono fun e w' h2 => h.stop h2 (by decide) he
 | n a =>
   rw [hu] at he
   simp only [one] at he
   by_cases hl : 16 <= X.out.length
   ·rw [if_pos hl] at he
    exact (jhY hW hq hu hl).mono fun e w' h2 => h.stop h2 (by decide) he
   ·rw [if_neg hl] at he
    refine (jhX hW hq hu (by show X.out.length < 16;omega)).mono fun e w' ⟨v,h2⟩ => CP.ok h2 ((h.ci.on h.hs).print a v (by show X.out.length < 16;omega)) h.err ?_
    exact JI he (fun _ _ _ _ h => by cases h) (fun _ _ _ h => by cases h)
theorem jlb (h : Cs s half depth gr ins w r κ X β 28 q x y p) (hq : q < 8) (hi : ∀ z ∈ ins,-9223372036854775808 <= z /\ z <= 9223372036854775807) (hil : ins.length <= 16) : Calls Tryz.prog 26 #[.pointer (some ⟨r,0,none⟩)] w (CP s half depth gr ins κ r X w) := by
 have he : ef s (bkC (aB X.bs)) ins (jj X) = (match ins[X.x.read]? with
  | none => .stop 33 p
  | some z => .inp q (w63 z)) := h.ef
 refine jgm h.rm h.ln rfl h.st (jA ..) fun W hW => ?_
 have hins := h.ci.ins
 cases hz : ins[X.x.read]? with
 | none =>
   rw [hz] at he
   refine (jjU hW ?_).mono fun e w' h2 => h.stop h2 (by decide) he
   show X.ins.length <= X.x.read
   rw [hins];exact List.getElem?_eq_none_iff.1 hz
 | some z =>
   rw [hz] at he
   have hl := (jG hz).1
   refine (jjE (z := z) hW hq (by show X.ins[X.x.read]? = _;rw [hins];exact hz) (hi z (List.mem_of_getElem? hz)) (by show X.x.read <= _;omega)).mono fun e w' h2 => CP.ok h2 ((h.ci.on h.hs).re rfl) h.err ?_
   have e2 : jj (inS (onS X) q z) = { (jj X).on with regs := (jj X).regs.set q (.n (w63 z)),read := X.x.read + 1 } := by
    show (⟨_,rgC (upd X.x.g q (.n (w63 z))),_,_,_,_,_,_,_,_⟩ : Mc) = _
    rw [jc1 _ _ hq];rfl
   rw [e2]
   exact JI he (fun _ _ _ _ h => by cases h) (fun _ _ _ h => by cases h)
theorem Cs.lv (h : Cs s half depth gr ins w r κ X β op q x y p) (hch : JD s k (jj X).fr) (hr3 : r3 s k <= 1024) : ∃ l f,X.fs = l ++ [f] /\ Lv (onS X) l f := by
 obtain ⟨l,f,hf,hl,hsl,ht,hv⟩ := h.top hch
 exact ⟨l,f,hf,hf,by omega,by omega,hv,h.hb⟩
theorem Cs.callf (h : Cs s half depth gr ins w r κ X β op q x y p) {g : Nat} {w1 w2 : World} {e : Ending} (hfull : depth <= X.fs.length) (ho : EnP κ w1 r (onS X) 41 0 e w2) (he : Ko.ef s (bkC (aB X.bs)) ins (jj X) = .call g false) : CP s half depth gr ins κ r X w1 e w2 := by
 refine CP.en ho (h.ci.on h.hs) (by decide) ?_
 have h2 := JI (half := half) (depth := depth) he (fun _ _ _ _ h => by cases h) (fun _ _ _ h => by cases h)
 rw [ja1,if_pos (by show depth <= (frC X.fs).length;rw [jds];exact hfull)] at h2
 exact h2
theorem Cs.callo (h : Cs s half depth gr ins w r κ X β op q x y p) {g : Nat} {w1 w2 : World} {e : Ending} (hroom : X.fs.length < depth) (ho : ∃ vf v,OkP s κ w1 r (JZ s (onS X) g (X.x.next + 1) vf v) e w2) (he : Ko.ef s (bkC (aB X.bs)) ins (jj X) = .call g false) : CP s half depth gr ins κ r X w1 e w2 := by
 obtain ⟨vf,v,ho⟩ := ho
 refine CP.ok ho ((h.ci.on h.hs).call hroom) h.err ?_
 have h2 := JI (half := half) (depth := depth) he (fun _ _ _ _ h => by cases h) (fun _ _ _ h => by cases h)
 rw [ja1,if_neg (by show ¬ depth <= (frC X.fs).length;rw [jds];omega)] at h2
 have e2 : jj (JZ s (onS X) g (X.x.next + 1) vf v) = { (jj X).on with pc := r0 s g,fr := J8 s g (X.x.next + 1) :: (jj X).fr } := by
  show (⟨r0 s g,_,frC (X.fs ++ [_]),_,_,_,_,_,_,_⟩ : Mc) = _
  rw [jaX];rfl
 rw [e2];exact h2
theorem Cs.callt (h : Cs s half depth gr ins w r κ X β op q x y p) {g : Nat} {l : List FX} {f : FX} {w1 w2 : World} {e : Ending} (hf : X.fs = l ++ [f]) (ho : ∃ vf2 vf v,OkP s κ w1 r (JZ s (jaI (onS X) l f vf2) g f.back vf v) e w2) (he : Ko.ef s (bkC (aB X.bs)) ins (jj X) = .call g true) : CP s half depth gr ins κ r X w1 e w2 := by
 obtain ⟨vf2,vf,v,ho⟩ := ho
 have hl := h.ci.fs
 rw [hf] at hl
 simp at hl
 refine CP.ok ho (((h.ci.on h.hs).leave vf2 hf).call (by show l.length < depth;omega)) h.err ?_
 have h2 := JI (half := half) (depth := depth) he (fun _ _ _ _ h => by cases h) (fun _ _ _ h => by cases h)
 have e2 : jj (JZ s (jaI (onS X) l f vf2) g f.back vf v) = ap s depth (jj X) (.call g true) := by
  show (⟨r0 s g,_,frC (l ++ [_]),_,_,_,_,_,_,_⟩ : Mc) = { (jj X).on with pc := r0 s g,fr := J8 s g (((frC X.fs).headD ⟨0,[]⟩).back) :: (frC X.fs).tail }
  rw [hf,jaX,jaX];rfl
 show Ju s half depth ins (jj X) (aB X.bs) _ (aB (Jm X.bs f.sl))
 rw [e2,jdG];exact h2
theorem jlr (h : Cs s half depth gr ins w r κ X β 29 q x y p) (hck : Ck s) (hx : x < hF s) : Calls Tryz.prog 26 #[.pointer (some ⟨r,0,none⟩)] w (CP s half depth gr ins κ r X w) := by
 have hd := h.ci.depth
 have hdm := h.ci.dm
 have hr3 := (j7 hck.row hx).2.2.1
 refine jb9 h.rm h.ln ⟨by omega,by omega⟩ h.st (jA ..) fun W hW => ?_
 by_cases hl : depth <= X.fs.length
 ·exact (jl3 hW (by show X.x.depth <= X.fs.length;omega)).mono fun e w' h2 => h.callf hl h2 h.ef
 ·exact (jl1 hW (by show X.fs.length < X.x.depth;omega) hx (by omega) (by show X.fs.length <= _;omega)).mono fun e w' h2 => h.callo (by omega) h2 h.ef
theorem jk7 (h : Cs s half depth gr ins w r κ X β 31 q x y p) (hck : Ck s) (hch : JD s k (jj X).fr) (hk : k < hF s) (hx : x < hF s) : Calls Tryz.prog 26 #[.pointer (some ⟨r,0,none⟩)] w (CP s half depth gr ins κ r X w) := by
 have hd := h.ci.depth
 have hfs := h.ci.fs
 have hr3 := (j7 hck.row hx).2.2.1
 obtain ⟨l,f,hf,hv⟩ := h.lv hch (j7 hck.row hk).2.2.1
 exact jb9 h.rm h.ln ⟨by omega,by omega⟩ h.st (jA ..) fun W hW => (jlY hW hv (by show X.fs.length <= X.x.depth;omega) hx (by omega)).mono fun e w' h2 => h.callt hf h2 h.ef
theorem Cs.self (h : Cs s half depth gr ins w r κ X β op q x y p) : (fnv X (X.x.g 7) = -1 /\ ∀ K : Nat -> Ef,blk (X.x.g 7) (fun i => if (bkC (aB X.bs) i).2 < 0 \/ r1 s (bkC (aB X.bs) i).2.toNat ≠ x then .stop 50 0 else K (bkC (aB X.bs) i).2.toNat) = .stop 50 0) \/
 ∃ g : Nat,fnv X (X.x.g 7) = g /\ g < hF s /\ ∀ K : Nat -> Ef,blk (X.x.g 7) (fun i => if (bkC (aB X.bs) i).2 < 0 \/ r1 s (bkC (aB X.bs) i).2.toNat ≠ x then .stop 50 0 else K (bkC (aB X.bs) i).2.toNat) = if r1 s g ≠ x then .stop 50 0 else K g := by
 cases hu : X.x.g 7 with
 | n a => exact .inl ⟨rfl,fun K => rfl⟩
 | b i =>
   obtain ⟨b,hb,hbu⟩ := h.vd.bk (by decide) hu
   rw [jj4 hb]
   simp only [blk,jam hb]
   rcases h.vd.fn i b hb hbu with hf | ⟨g,hf,hg⟩
   ·left
    refine ⟨hf,fun K => ?_⟩
    rw [if_pos (.inl (by rw [hf];omega))]
   ·right
    refine ⟨g,hf,hg,fun K => ?_⟩
    rw [hf,Int.toNat_natCast]
    by_cases hp : r1 s g ≠ x
    ·rw [if_pos (.inr hp),if_pos hp]
    ·rw [if_neg (by rintro (h | h);· omega
                    ·exact hp h),if_neg hp]
theorem jls (h : Cs s half depth gr ins w r κ X β 30 q x y p) (hck : Ck s) : Calls Tryz.prog 26 #[.pointer (some ⟨r,0,none⟩)] w (CP s half depth gr ins κ r X w) := by
 have he : ef s (bkC (aB X.bs)) ins (jj X) = blk (X.x.g 7) (fun i => if (bkC (aB X.bs) i).2 < 0 \/ r1 s (bkC (aB X.bs) i).2.toNat ≠ x then .stop 50 0 else .call (bkC (aB X.bs) i).2.toNat false) := h.ef.trans (by rw [<- rdC (X := X) (z := 7) (by decide)];rfl)
 have hd := h.ci.depth
 have hdm := h.ci.dm
 have hrb := h.vd.rb (z := 7) (by decide)
 refine jb9 h.rm h.ln ⟨by omega,by omega⟩ h.st (jA ..) fun W hW => ?_
 rcases h.self with ⟨h1,h2⟩ | ⟨g,h1,hg,h2⟩
 ·replace he := he.trans (h2 fun g => .call g false)
  exact (jfy hW (.inl rfl) rfl hrb h1).mono fun e w' h3 => h.stop h3 (by decide) he
 ·replace he := he.trans (h2 fun g => .call g false)
  by_cases hp : r1 s g ≠ x
  ·rw [if_pos hp] at he
   exact (jfx hW (.inl rfl) rfl hrb h1 hg hp).mono fun e w' h3 => h.stop h3 (by decide) he
  ·rw [if_neg hp] at he
   have hp := Classical.not_not.1 hp
   have hr3 := (j7 hck.row hg).2.2.1
   by_cases hl : depth <= X.fs.length
   ·exact (jlL hW rfl hrb h1 hg hp (by show X.x.depth <= X.fs.length;omega)).mono fun e w' h3 => h.callf hl h3 he
   ·exact (jlK hW rfl hrb h1 hg hp (by show X.fs.length < X.x.depth;omega) (by omega) (by show X.fs.length <= _;omega)).mono fun e w' h3 => h.callo (by omega) h3 he
theorem jk6 (h : Cs s half depth gr ins w r κ X β 32 q x y p) (hck : Ck s) (hch : JD s k (jj X).fr) (hk : k < hF s) : Calls Tryz.prog 26 #[.pointer (some ⟨r,0,none⟩)] w (CP s half depth gr ins κ r X w) := by
 have he : ef s (bkC (aB X.bs)) ins (jj X) = blk (X.x.g 7) (fun i => if (bkC (aB X.bs) i).2 < 0 \/ r1 s (bkC (aB X.bs) i).2.toNat ≠ x then .stop 50 0 else .call (bkC (aB X.bs) i).2.toNat true) := h.ef.trans (by rw [<- rdC (X := X) (z := 7) (by decide)];rfl)
 have hd := h.ci.depth
 have hfs := h.ci.fs
 have hrb := h.vd.rb (z := 7) (by decide)
 obtain ⟨l,f,hf,hv⟩ := h.lv hch (j7 hck.row hk).2.2.1
 refine jb9 h.rm h.ln ⟨by omega,by omega⟩ h.st (jA ..) fun W hW => ?_
 rcases h.self with ⟨h1,h2⟩ | ⟨g,h1,hg,h2⟩
 ·replace he := he.trans (h2 fun g => .call g true)
  exact (jfy hW (.inr rfl) rfl hrb h1).mono fun e w' h3 => h.stop h3 (by decide) he
 ·replace he := he.trans (h2 fun g => .call g true)
  by_cases hp : r1 s g ≠ x
  ·rw [if_pos hp] at he
   exact (jfx hW (.inr rfl) rfl hrb h1 hg hp).mono fun e w' h3 => h.stop h3 (by decide) he
  ·rw [if_neg hp] at he
   have hp := Classical.not_not.1 hp
   have hr3 := (j7 hck.row hg).2.2.1
   exact (jlJ hW rfl hrb h1 hg hp hv (by show X.fs.length <= X.x.depth;omega) (by omega)).mono fun e w' h3 => h.callt hf h3 he
theorem jla (h : Cs s half depth gr ins w r κ X β 33 q x y p) (hck : Ck s) (hch : JD s k (jj X).fr) (hk : k < hF s) : Calls Tryz.prog 26 #[.pointer (some ⟨r,0,none⟩)] w (CP s half depth gr ins κ r X w) := by
 have he : ef s (bkC (aB X.bs)) ins (jj X) = if 1 < (frC X.fs).length then .ret else one (X.x.g 0) fun a => .done a := h.ef.trans (by rw [<- rdC (X := X) (z := 0) (by decide)];rfl)
 obtain ⟨l,f,hf,hv⟩ := h.lv hch (j7 hck.row hk).2.2.1
 rw [jds,hf] at he
 refine step_ret h.rm h.ln rfl h.st (jA ..) fun W hW => ?_
 by_cases hl : 0 < l.length
 ·rw [if_pos (by simp;omega)] at he
  refine (jg9 hW hv hl).mono fun e w' ⟨vf,h2⟩ => CP.ok h2 (((h.ci.on h.hs).leave vf hf).re rfl) h.err ?_
  have h3 := JI (half := half) (depth := depth) he (fun _ _ _ _ h => by cases h) (fun _ _ _ h => by cases h)
  have e2 : jj (nxt (jaI (onS X) l f vf) f.back) = ap s depth (jj X) .ret := by
   show (⟨f.back,_,frC l,_,_,_,_,_,_,_⟩ : Mc) = { (jj X).on with pc := ((frC X.fs).headD ⟨0,[]⟩).back,fr := (frC X.fs).tail }
   rw [hf,jaX];rfl
  show Ju s half depth ins (jj X) (aB X.bs) _ (aB (Jm X.bs f.sl))
  rw [e2,jdG];exact h3
 ·have hl0 : l = [] := List.eq_nil_of_length_eq_zero (by omega)
  subst hl0
  rw [if_neg (by simp)] at he
  cases hu : X.x.g 0 with
  | b i =>
    rw [hu] at he
    exact (jhb (f := f) hW hf hu).mono fun e w' h2 => h.stop h2 (by decide) he
  | n a =>
    rw [hu] at he
    refine (jg7 (f := f) hW hf hu).mono fun e w' h2 => CP.en h2 ((h.ci.on h.hs).re rfl) (by decide) ?_
    exact JI he (fun _ _ _ _ h => by cases h) (fun _ _ _ h => by cases h)
end
theorem jlI (hck : Ck s) {half depth gr : Nat} {ins : List Int} (hi : ∀ z ∈ ins,-9223372036854775808 <= z /\ z <= 9223372036854775807) (hil : ins.length <= 16) (h : RM s w r κ X) (hI : CI half depth gr ins X) (hs : X.x.steps < 65536) (herr : X.x.err = 42)
 {β : Nat -> Option Nat} {d : Mc} {ds : List DB} {u k : Nat} {A : Nat -> Bool} (S : Sim s β (jj X) (aB X.bs) d ds u k A) : Calls Tryz.prog 26 #[.pointer (some ⟨r,0,none⟩)] w (CP s half depth gr ins κ r X w) := by
 have hw := S.al.wl hck
 have hpc : (jj X).pc = X.x.next := rfl
 rw [hpc] at hw
 have hal := S.al
 rw [hpc] at hal
 have hk := hal.kl
 have hlt : X.x.next < hL s := Nat.lt_of_lt_of_le hal.hi (jal hck.row hk).2
 have hch := S.ch
 have h0 := hw.f0
 have h1 := hw.f1
 have h2 := hw.f2
 have h3 := hw.op1
 have h4 := hw.op2
 have b2 : l2 s X.x.next < 65536 := ju _ _
 obtain ⟨op,e0⟩ : ∃ op,l0 s X.x.next = op := ⟨_,rfl⟩
 obtain ⟨q,e1⟩ : ∃ q,l1 s X.x.next = q := ⟨_,rfl⟩
 obtain ⟨x,e2⟩ : ∃ x,l2 s X.x.next = x := ⟨_,rfl⟩
 obtain ⟨y,e3⟩ : ∃ y,l3 s X.x.next = y := ⟨_,rfl⟩
 obtain ⟨p,e4⟩ : ∃ p,l4 s X.x.next = p := ⟨_,rfl⟩
 have C : Cs s half depth gr ins w r κ X β op q x y p := ⟨h,hI,jf0 S,hs,herr,⟨hlt,e0,e1,e2,e3,e4⟩⟩
 rw [e0,e1] at h0
 rw [e0,e2] at h1
 rw [e0,e3] at h2
 rw [e0] at h3 h4
 rw [e2] at b2
 clear hw hal S e0 e1 e2 e3 e4 hpc
 have hc : op = 1 \/ op = 2 \/ op = 3 \/ op = 4 \/ op = 5 \/ op = 6 \/ op = 7 \/ op = 8 \/ op = 9 \/ op = 10 \/ op = 11 \/ op = 12 \/ op = 13 \/ op = 14 \/ op = 15 \/ op = 16 \/ op = 17 \/ op = 18 \/ op = 19 \/ op = 20 \/ op = 21 \/ op = 22 \/ op = 23 \/ op = 24 \/ op = 25 \/ op = 26 \/ op = 27 \/ op = 28 \/ op = 29 \/ op = 30 \/ op = 31 \/ op = 32 \/ op = 33 := by omega
 rcases hc with rfl | rfl | rfl | rfl | rfl | rfl | rfl | rfl | rfl | rfl | rfl | rfl | rfl | rfl | rfl | rfl | rfl | rfl | rfl | rfl | rfl | rfl | rfl | rfl | rfl | rfl | rfl | rfl | rfl | rfl | rfl | rfl | rfl
 all_goals simp [jo,ruN,rul] at h0 h1 h2
 ·exact jlk C h0 h1
 ·exact jlg C h0 h1
 ·exact jli C hch h0 h1
 ·exact jlj C hch h0 h1
 ·exact jk8 C hch h0 h1
 ·exact jlp C hch h1
 iterate 8 exact jk5 C (by omega) h0 h1 h2
 iterate 2 exact jle C (by omega) h0 h1 (by omega)
 ·exact jlm C
 ·exact jll C h0
 ·exact jlf C h0 b2
 ·exact jlq C h0 b2
 ·exact jk9 C h0 b2 h2
 ·exact jlo C h0 h1
 ·exact jlH C h0 h1 h2
 ·exact jln C h0 h1 h2
 ·exact jlc C h0 h1 h2
 ·exact jlh C h0 h1
 ·exact jld C h0
 ·exact jlb C h0 hi hil
 ·exact jlr C hck h1
 ·exact jls C hck
 ·exact jk7 C hck hch hk h1
 ·exact jk6 C hck hch hk
 ·exact jla C hck hch hk
def jaq (m : Mc) (u : Nat) (v : Value) : Array Value := #[.int .i64 m.err,.int .i64 m.pos,.int .i64 m.val,v,.int .i64 m.steps,.int .i64 m.read,.int .i64 m.gcs,.int .i64 u]
def jW (e : Int) : Array Value := #[.int .i64 e,.int .i64 0,.int .i64 0,.slice none 0 0,.int .i64 0,.int .i64 0,.int .i64 0,.int .i64 0]
theorem jbx (e : Int) : (jW e).all (·.oneCell') = true := by
 unfold jW
 kernel_rfl
theorem jhd (m : Mc) (u : Nat) {v : Value} (h : v.oneCell' = true) : (jaq m u v).all (·.oneCell') = true := by
 unfold jaq
 simp [h]
 exact ⟨rfl,rfl,rfl,rfl,rfl,rfl,rfl⟩
theorem jcZ {W : World} {tmps : Array Value} {b : Nat} {x0 x1 x2 x3 x4 x5 x6 x7 : Value} {t : TypeId} {Q : Ending -> World -> Prop} (ht : tmps.getD 4 undef = .pointer (some ⟨b,0,none⟩)) (hb : W.heap[b]? = some (.cells #[x0,x1,x2,x3,x4,x5,x6,x7] t (0,0))) (hq : Q (.returned (.agg #[x0,x1,x2,x3,x4,x5,x6,x7])) W) :
 bodyPost Tryz.prog Tryz.f18 Q Exit.ret { tmps := tmps,defers := [] } W := by
 have c0 : W.cell? ⟨b,0,none⟩ = some x0 := ja hb 0 rfl
 have c1 : W.cell? ⟨b,1,none⟩ = some x1 := ja hb 1 rfl
 have c2 : W.cell? ⟨b,2,none⟩ = some x2 := ja hb 2 rfl
 have c3 : W.cell? ⟨b,3,none⟩ = some x3 := ja hb 3 rfl
 have c4 : W.cell? ⟨b,4,none⟩ = some x4 := ja hb 4 rfl
 have c5 : W.cell? ⟨b,5,none⟩ = some x5 := ja hb 5 rfl
 have c6 : W.cell? ⟨b,6,none⟩ = some x6 := ja hb 6 rfl
 have c7 : W.cell? ⟨b,7,none⟩ = some x7 := ja hb 7 rfl
 have ht' : tmps[4]?.getD undef = .pointer (some ⟨b,0,none⟩) := by simpa using ht
 exact bodyPost_ret (v := .agg #[x0,x1,x2,x3,x4,x5,x6,x7]) (by simp [results,Tryz.results18,go_sem,ht',c0,c1,c2,c3,c4,c5,c6,c7]) rfl hq
def CR (s : ByteArray) (half depth gr : Nat) (ins : List Int) (w : World) (r : Nat) (κ : Kp) (m : Mc) (bs : List CB) : Prop :=
 ∃ X,CI half depth gr ins X /\ bs = aB X.bs /\ ((RM s w r κ X /\ X.x.err = 42 /\ m = jj X) \/ ∃ er p,RE w r κ X er p /\ er ≠ 42 /\ m = jdv (jj X) er p)
structure Rx (w : World) (r : Nat) (κ : Kp) (m : Mc) (bs : List CB) (gr : Nat) (x : RX) : Prop where
 rb : RB w r x
 err : x.err = m.err
 pos : x.pos = m.pos
 val : x.val = m.val
 steps : x.steps = m.steps
 read : x.read = m.read
 gcs : x.gcs = m.gcs
 used : x.used = jJ bs
 gr : x.granted = gr
 out : TR w κ (6,0) 3 1 x.vout m.out.length (iV m.out)
 self : κ r = some (0,0)
 top : ∀ b,w.heap.size <= b -> κ b = none
 ol : m.out.length <= 16
theorem CR.rx {half depth gr : Nat} {ins : List Int} {m : Mc} {bs : List CB} (h : CR s half depth gr ins w r κ m bs) : ∃ x,Rx w r κ m bs gr x := by
 obtain ⟨X,hI,rfl,⟨h1,h2,rfl⟩ | ⟨er,p,h1,h2,rfl⟩⟩ := h
 ·exact ⟨X.x,h1.run,rfl,rfl,rfl,rfl,rfl,rfl,by rw [<- ja8];exact hI.used,hI.gr,h1.rows.out,h1.self,h1.top,hI.out⟩
 ·obtain ⟨x,hx,e1,e2,e3,e4,e5,e6,e7,e8,e9⟩ := h1.run
  exact ⟨x,hx,e1,e2,e3,e5,e6,e7,by rw [<- ja8,e8];exact hI.used,e9.trans hI.gr,by rw [e4];exact h1.out,h1.self,h1.top,hI.out⟩
theorem CR.low {half depth gr : Nat} {ins : List Int} {m : Mc} {bs : List CB} (h : CR s half depth gr ins w r κ m bs) {w' : World} (hL : Lone r w w') : Fr0 κ κ w w' := by
 obtain ⟨x,hx⟩ := h.rx
 exact (Fr.lone (S := (· = (0,0))) hL hx.self rfl).all
theorem CR.on {half depth gr : Nat} {ins : List Int} {w w' : World} {m : Mc} {bs : List CB} (h : CR s half depth gr ins w r κ m bs) (hb : Below w.heap.size w w') : CR s half depth gr ins w' r κ m bs := by
 obtain ⟨X,hI,rfl,⟨h1,h2,rfl⟩ | ⟨er,p,h1,h2,rfl⟩⟩ := h
 ·exact ⟨X,hI,rfl,.inl ⟨h1.on hb,h2,rfl⟩⟩
 ·obtain ⟨x,hx,e⟩ := h1.run
  exact ⟨X,hI,rfl,.inr ⟨er,p,⟨⟨x,hx.below hb,e⟩,h1.self,h1.out.keep (S := fun _ => False) (Fr.of hb) (fun h => h),fun b hl => h1.top b (Nat.le_trans hb.size hl)⟩,h2,rfl⟩⟩
theorem CR.give {half depth gr : Nat} {ins : List Int} {m : Mc} {bs : List CB} (h : CR s half depth gr ins w r κ m bs) (gr' : Nat) : CR s half depth gr' ins (w.setCell ⟨r,28,none⟩ (.int .i64 gr')) r κ m bs := by
 have hL : Lone r w (w.setCell ⟨r,28,none⟩ (.int .i64 gr')) := (Lone.refl _ _).set 28 _
 have ci : ∀ {X : St},CI half depth gr ins X -> CI half depth gr' ins { X with x := { X.x with granted := gr' } } := fun {X} h => ⟨h.half,h.hm,h.depth,h.dm,rfl,h.ins,h.used,h.ul,h.sm,h.blen,h.gcs,h.rc,h.clr,h.held,h.cn,h.free,h.fnd,h.fs,h.out⟩
 obtain ⟨X,hI,rfl,⟨h1,h2,rfl⟩ | ⟨er,p,h1,h2,rfl⟩⟩ := h
 ·exact ⟨_,ci hI,rfl,.inl ⟨h1.upd (x' := { X.x with granted := gr' }) (jf h1.run 28 _) hL rfl,h2,rfl⟩⟩
 ·obtain ⟨x,hx,e1,e2,e3,e4,e5,e6,e7,e8,e9⟩ := h1.run
  refine ⟨_,ci hI,rfl,.inr ⟨er,p,⟨⟨{ x with granted := gr' },jf hx 28 _,e1,e2,e3,e4,e5,e6,e7,e8,rfl⟩,h1.self,h1.out.keep (S := (· = (0,0))) (Fr.lone hL h1.self rfl) (by intro h;cases h),fun b hl => h1.top b (Nat.le_trans hL.size hl)⟩,h2,rfl⟩⟩
theorem Tryz.kiRs : (Tryz.prog.info? 30).map (·.size) = some 8 := by kernel_rfl
set_option maxRecDepth 100000 in
theorem jg4 {half depth gr : Nat} {ins : List Int} {m : Mc} {bs : List CB} (h : CR s half depth gr ins w r κ m bs) {n : Int} (hg : gr <= 65536) (hn : n < 0 \/ 65536 - (gr : Int) < n) :
 Calls Tryz.prog 18 #[.pointer (some ⟨r,0,none⟩),.int .i64 n] w fun e w' => e = .returned (.agg (jW 24)) /\ Below w.heap.size w w' := by
 obtain ⟨x,hx⟩ := h.rx
 have c28 : w.cell? ⟨r,28,none⟩ = some (.int .i64 gr) := by rw [<- hx.gr];exact ja hx.rb 28 rfl
 have hlt := jb hx.rb
 clear hx h
 obtain ⟨b1,h1⟩ : ∃ b1,decide (n < (0 : Int)) = b1 := ⟨_,rfl⟩
 obtain ⟨b2,h2⟩ : ∃ b2,decide ((65536 : Int) - (gr : Int) < n) = b2 := ⟨_,rfl⟩
 have hb : (b1 || b2) = true := by rw [<- h1,<- h2];simpa using hn
 clear hn
 have HB := jH hb
 clear hb
 have hrs := jg w (.cells #[.int .i64 0,.int .i64 0,.int .i64 0,.slice none 0 0,.int .i64 0,.int .i64 0,.int .i64 0,.int .i64 0] 30 (0,0))
 have hA := jr w (.cells #[.int .i64 0,.int .i64 0,.int .i64 0,.slice none 0 0,.int .i64 0,.int .i64 0,.int .i64 0,.int .i64 0] 30 (0,0))
 have HRS := jH hrs
 have HA := jH hA
 clear hrs hA
 cases b1 <;> cases b2 <;> first | (exfalso;exact absurd HB.out (by decide)) | (
  go_enter Tryz.func18,Tryz.ntmps18
  go_wp2_with (first
   | (show wpList _ _ _ (Oper.mk none (Op.store 30 (.tmp 4) (.tmp 16)) _ _ _ _ :: _) _ _;refine Jv HRS.out rfl 30 (.tmp 4) (.tmp 16) rfl (jW 24) rfl rfl rfl Tryz.kiRs (jbx 24) ?_;intro w3 hb3 hl3))
  exact jcZ rfl hb3 ⟨rfl,HA.out.trans (hl3.below.mono jN)⟩)
theorem CR.other {half depth gr : Nat} {ins : List Int} {w w' : World} {m : Mc} {bs : List CB} (h : CR s half depth gr ins w r κ m bs) {b : Nat} (hk : κ b = none) (hl : Lone b w w') : CR s half depth gr ins w' r κ m bs := by
 have hn : ∀ t : Tg,κ b ≠ some t := fun t e => by rw [hk] at e;cases e
 obtain ⟨X,hI,rfl,⟨h1,h2,rfl⟩ | ⟨er,p,h1,h2,rfl⟩⟩ := h
 ·exact ⟨X,hI,rfl,.inl ⟨h1.other (fun k i _ => hn _) hl,h2,rfl⟩⟩
 ·obtain ⟨x,hx,e⟩ := h1.run
  exact ⟨X,hI,rfl,.inr ⟨er,p,⟨⟨x,hx.lone hl (fun e => hn _ (e ▸ h1.self)),e⟩,h1.self,h1.out.other (hn _) hl,fun b' hb' => h1.top b' (Nat.le_trans hl.size hb')⟩,h2,rfl⟩⟩
theorem Told.on {w w1 w2 w3 : World} {out : List Int} {v : Value} (h : Told w1 w2 out v) (hs : w.heap.size <= w1.heap.size) {b : Nat} (hb : b < w1.heap.size) (hl : Lone b w2 w3) : Told w w3 out v := by
 rcases h with h | ⟨h1,b',h2,h3,h4⟩
 ·exact .inl h
 ·exact .inr ⟨h1,b',h2,by omega,(hl.rest b' (jb h4) (by omega)).trans h4⟩
theorem Told.one {w w' : World} {out : List Int} {v : Value} (h : Told w w' out v) : v.oneCell' = true := by
 rcases h with ⟨_,rfl⟩ | ⟨_,b,rfl,_⟩ <;> rfl
def GoC (s : ByteArray) (half depth gr : Nat) (ins : List Int) (w : World) (r : Nat) (κ : Kp) (m : Mc) (bs : List CB) (e : Ending) (w' : World) : Prop :=
 ∃ J mJ bsJ κ' v,PC s half depth ins gr m bs J mJ bsJ /\ ¬ (mJ.err = 42 /\ mJ.steps < gr) /\ CR s half depth gr ins w' r κ' mJ bsJ /\ Fr0 κ κ' w w' /\ e = .returned (.agg (jaq mJ (jJ bsJ) v)) /\ Told w w' mJ.out v
theorem jei {m : Mc} {bs : List CB} {gr : Nat} {x : RX} (h : Rx w r κ m bs gr x) (v : Value) : Jr x v = jaq m (jJ bs) v := by
 unfold Jr jaq
 rw [h.err,h.pos,h.val,h.steps,h.read,h.gcs,h.used]
structure Lp (s : ByteArray) (half depth G : Nat) (ins : List Int) (w : World) (r : Nat) (κ : Kp) (m : Mc) (bs : List CB) (d : Mc) (ds : List DB) (u : Nat) (m1 : Mc) (wr : World) : Prop where
 ex : ∃ j bs1 d1 ds1 u1 κ1,PC s half depth ins G m bs j m1 bs1 /\ PD s half depth ins G d ds u j d1 ds1 u1 /\ CR s half depth G ins wr r κ1 m1 bs1 /\ Fr0 κ κ1 w wr /\ κ1 w.heap.size = none
 box : wr.heap[w.heap.size]? = some (.cells (jW 0) 30 (0,0))
set_option maxRecDepth 100000 in
theorem jg3 (hck : Ck s) {half depth gr : Nat} {ins : List Int} (hi : ∀ z ∈ ins,-9223372036854775808 <= z /\ z <= 9223372036854775807) (hil : ins.length <= 16) (hh : half <= 2048) {m : Mc} {bs : List CB} (h : CR s half depth gr ins w r κ m bs) {d : Mc} {ds : List DB} {u : Nat} (h0 : Nx s m bs d ds u) {n : Nat} (hn : gr + n <= 65536) :
 Calls Tryz.prog 18 #[.pointer (some ⟨r,0,none⟩),.int .i64 n] w (GoC s half depth (gr + n) ins w r κ m bs) := by
 obtain ⟨x,hx⟩ := h.rx
 have c28 : w.cell? ⟨r,28,none⟩ = some (.int .i64 gr) := by rw [<- hx.gr];exact ja hx.rb 28 rfl
 have z28 := je hx.rb 28
 have hlt := jb hx.rb
 have u1 : decide (((n : Nat) : Int) < (0 : Int)) = false := by simp
 have u2 : decide ((65536 : Int) - (gr : Int) < ((n : Nat) : Int)) = false := by simp;omega
 have htop := hx.top _ jN
 have hC0 : CR s half depth (gr + n) ins ((w.setCell ⟨r,28,none⟩ (.int .i64 ((gr : Int) + (n : Int)))).alloc (.cells (jW 0) 30 (0,0))) r κ m bs := by
  have h1 := h.give (gr + n)
  rw [show ((gr + n : Nat) : Int) = (gr : Int) + (n : Int) by omega] at h1
  exact h1.on (jr _ _)
 have hF0 : Fr0 κ κ w ((w.setCell ⟨r,28,none⟩ (.int .i64 ((gr : Int) + (n : Int)))).alloc (.cells (jW 0) 30 (0,0))) := Fr0.trans (h.low ((Lone.refl _ _).set 28 _)) (Fr.of (jr _ _))
 have hb0 : ((w.setCell ⟨r,28,none⟩ (.int .i64 ((gr : Int) + (n : Int)))).alloc (.cells (jW 0) 30 (0,0))).heap[w.heap.size]? = some (.cells (jW 0) 30 (0,0)) := j9 (by simp)
 have HL0 : Hid (Lp s half depth (gr + n) ins w r κ m bs d ds u m ((w.setCell ⟨r,28,none⟩ (.int .i64 ((gr : Int) + (n : Int)))).alloc (.cells (jW 0) 30 (0,0)))) := ⟨⟨0,bs,d,ds,u,κ,.nil,.nil,hC0,hF0,htop⟩,hb0⟩
 have H0 := jH h0
 have HCK := jH hck
 have HI := jH hi
 obtain ⟨G,hG⟩ : ∃ G,gr + n = G := ⟨_,rfl⟩
 rw [hG] at HL0 hn ⊢
 clear hx h hC0 hF0 hb0 htop h0 hck hi
 unfold jW at HL0
 go_enter Tryz.func18,Tryz.ntmps18
 go_wp2
 have hL0 := HL0.out
 clear HL0 c28 z28
 generalize ((w.setCell ⟨r,28,none⟩ (.int .i64 ((gr : Int) + (n : Int)))).alloc (.cells #[.int .i64 0,.int .i64 0,.int .i64 0,.slice none 0 0,.int .i64 0,.int .i64 0,.int .i64 0,.int .i64 0] 30 (0,0))) = W0 at hL0 ⊢
 have HL0 := jH hL0
 clear hL0
 go_loopg [] (G - m.steps) (fun gh (wr : World) => ∃ m1 : Mc,gh = G - m1.steps /\ G - m1.steps <= G - m.steps /\ Lp s half depth G ins w r κ m bs d ds u m1 wr)
 case atStart => exact ⟨m,rfl,jN,HL0.out⟩
 case round =>
  obtain ⟨m1,hgi,hle,hLp⟩ := hrel
  obtain ⟨wi,rfl⟩ : ∃ wi,wi = wr := ⟨_,rfl⟩
  obtain ⟨⟨j,bs1,d1,ds1,u1',κ1,hPC,hPD,hCR,hFr,hk1⟩,hbox⟩ := hLp
  obtain ⟨x1,hx1⟩ := hCR.rx
  have e28 : wi.cell? ⟨r,28,none⟩ = some (.int .i64 G) := by rw [<- hx1.gr];exact ja hx1.rb 28 rfl
  have e29 : wi.cell? ⟨r,29,none⟩ = some (.int .i64 m1.err) := by rw [<- hx1.err];exact ja hx1.rb 29 rfl
  have e33 : wi.cell? ⟨r,33,none⟩ = some (.int .i64 m1.steps) := by rw [<- hx1.steps];exact ja hx1.rb 33 rfl
  have hri := jb hx1.rb
  have hwi := jb hbox
  have HPC := jH hPC
  have HPD := jH hPD
  have HCR := jH hCR
  have HFR := jH hFr
  have HBX := jH hbox
  have HX1 := jH hx1
  have hNx := pair HCK.out (by omega) H0.out hPC hPD
  by_cases hst : m1.err = 42 /\ m1.steps < G
  ·obtain ⟨hE,hS⟩ := hst
   rw [hE,show ((42 : Nat) : Int) = 42 from rfl] at e29
   have g1 : decide ((m1.steps : Int) < (G : Int)) = true := by simp;omega
   obtain ⟨β,k,A,S⟩ := hNx.2 hE
   obtain ⟨d2,ds2,u2',hsd⟩ := jgo s half depth ins d1 ds1 u1'
   have hPD2 := PD.snoc hPD (hNx.1.err.symm.trans hE) (by rw [<- hNx.1.steps];exact hS) hsd
   obtain ⟨X,hI,hbs,hc⟩ := hCR
   rcases hc with ⟨h1,h2,h3⟩ | ⟨er,p,h1,h2,h3⟩
   ·subst h3
    subst hbs
    have CS := jH (jlI HCK.out HI.out hil (h1.on jB.drew) hI (by have : X.x.steps < G := hS;omega) h2 S)
    have HD2 := jH hPD2
    clear hPC hPD hFr hbox hx1 hNx hPD2 hsd S h1 h2 hI
    go_wp2
    go_region
    go_wp2_with (first
     | (go_at_call 26;refine CS.out.mono ?_;rintro _ w3 ⟨rfl,κ3,X3,f3,hI3,hc3⟩))
    have hstep : ∃ m2,CR s half depth G ins w3 r κ3 m2 (aB X3.bs) /\ Ju s half depth ins (jj X) (aB X.bs) m2 (aB X3.bs) := by
     rcases hc3 with ⟨a1,a2,a3⟩ | ⟨er,p,a1,a2,a3⟩
     ·exact ⟨_,⟨X3,hI3,rfl,.inl ⟨a1,a2,rfl⟩⟩,a3⟩
     ·exact ⟨_,⟨X3,hI3,rfl,.inr ⟨er,p,a1,a2,rfl⟩⟩,a3⟩
    obtain ⟨m2,hc2,hs2⟩ := hstep
    have hst2 := jgp hs2
    go_roundg (G - m2.steps)
    case measure => omega
    case rel => exact ⟨m2,rfl,by omega,⟨⟨j + 1,_,_,_,_,κ3,HPC.out.snoc hE hS hs2,HD2.out,hc2,Fr0.trans (Fr.drew HFR.out) f3,(f3.old _ hwi).trans hk1⟩,Fr.blk f3 HBX.out hk1⟩⟩
   ·exact absurd (by rw [h3] at hE;exact hE) h2
  ·have HST := jH hst
   have HRA := jH (jhc (w := wi.drew) (HX1.out.rb.below jB.drew) (HX1.out.out.keep (S := fun _ => False) (Fr.of jB.drew) (fun h => h)) (by have := HX1.out.ol;omega))
   clear hPC hPD hFr hbox hx1 hNx hCR
   by_cases hE : m1.err = 42
   ·rw [hE,show ((42 : Nat) : Int) = 42 from rfl] at e29
    have g1 : decide ((m1.steps : Int) < (G : Int)) = false := by simp;omega
    have g2 : decide (m1.steps < G) = false := by simp;omega
    clear hst hE
    go_wp2
    go_region
    go_wp2_with (first
     | (go_at_call 27;refine HRA.out.mono ?_;rintro _ w3 ⟨v,rfl,htd,hb3⟩;have hb3 := (Below.refl wi.heap.size wi).drew.trans hb3;have hbx3 := jc HBX.out hb3 hwi;have HBX3 := jH hbx3;have HTD := jH htd;have HB3 := jH hb3;clear hbx3 htd hb3)
     | (show wpList _ _ _ (Oper.mk none (Op.store 30 (.tmp 4) (.tmp 44)) _ _ _ _ :: _) _ _;refine Jv HBX3.out rfl 30 (.tmp 4) (.tmp 44) rfl (Jr x1 v) rfl rfl rfl Tryz.kiRs (jby x1 HTD.out.one) ?_;intro w4 hb4 hl4))
    have hb3' : Below wi.heap.size wi w3 := HB3.out
    refine jcZ rfl hb4 ⟨j,m1,bs1,κ1,v,HPC.out,HST.out,(HCR.out.on hb3').other hk1 hl4,?_,?_,HTD.out.on (w := w) (Nat.le_of_lt hwi) hwi hl4⟩
    ·exact Fr.new (Fr0.trans HFR.out (Fr.of hb3')) jN hl4
    ·rw [<- jei HX1.out v];rfl
   ·have g1 : ((m1.err : Int) == 42) = false := by rw [beq_eq_false_iff_ne];omega
    clear hst hE
    go_wp2
    go_region
    go_wp2_with (first
     | (go_at_call 27;refine HRA.out.mono ?_;rintro _ w3 ⟨v,rfl,htd,hb3⟩;have hb3 := (Below.refl wi.heap.size wi).drew.trans hb3;have hbx3 := jc HBX.out hb3 hwi;have HBX3 := jH hbx3;have HTD := jH htd;have HB3 := jH hb3;clear hbx3 htd hb3)
     | (show wpList _ _ _ (Oper.mk none (Op.store 30 (.tmp 4) (.tmp 44)) _ _ _ _ :: _) _ _;refine Jv HBX3.out rfl 30 (.tmp 4) (.tmp 44) rfl (Jr x1 v) rfl rfl rfl Tryz.kiRs (jby x1 HTD.out.one) ?_;intro w4 hb4 hl4))
    have hb3' : Below wi.heap.size wi w3 := HB3.out
    refine jcZ rfl hb4 ⟨j,m1,bs1,κ1,v,HPC.out,HST.out,(HCR.out.on hb3').other hk1 hl4,?_,?_,HTD.out.on (w := w) (Nat.le_of_lt hwi) hwi hl4⟩
    ·exact Fr.new (Fr0.trans HFR.out (Fr.of hb3')) jN hl4
    ·rw [<- jei HX1.out v];rfl
end Ko
end Go.Proofs.YtjmgolahkgalbaaGreatDoor
