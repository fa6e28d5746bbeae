import Derived.Test.YtjmgolahkgalbaaGreatDoorS44
import Derived.Test.YtjmgolahkgalbaaGreatDoorS45
import Derived.Test.YtjmgolahkgalbaaGreatDoorS46
import Derived.Test.YtjmgolahkgalbaaGreatDoorS47
import Derived.Test.YtjmgolahkgalbaaGreatDoorS48
import Derived.Test.YtjmgolahkgalbaaGreatDoorS49
import Derived.Test.YtjmgolahkgalbaaGreatDoorS50
set_option linter.unusedVariables false
set_option linter.unusedSimpArgs false
set_option maxHeartbeats 20000000
namespace Go.Proofs.YtjmgolahkgalbaaGreatDoor
namespace Ko
open Go.RowKit Li
def DsC (s : ByteArray) (half depth gr : Nat) (ins : List Int) (w : World) (m : Nat) (κ : Kp) (Y : Dt) (o : Int) (q x y p : Nat) : Prop := Calls Tryz.prog 19 #[.pointer (some ⟨m,0,none⟩),.agg #[.int .i64 o,.int .i64 q,.int .i64 x,.int .i64 y,.int .i64 p]] w (DP s half depth gr ins κ m Y w)
theorem jcU {α : Type} {f : α -> Nat} {c : Nat} : ∀ l : List α,(∀ a ∈ l,f a <= c) -> (l.map f).sum <= l.length * c
 | [],_ => by simp
 | a :: l,h => by
   have h1 := jcU l (fun b hb => h b (List.mem_cons_of_mem _ hb))
   have h2 := h a (by simp)
   rw [List.map_cons,List.sum_cons,List.length_cons,Nat.succ_mul]
   omega
theorem jka {l : List HX} {c : Nat} (h : ∀ f ∈ l,f.sl.length <= c) : (l.flatMap fun f => f.sl).length <= l.length * c := by
 rw [List.length_flatMap]
 exact jcU l h
section
variable {s : ByteArray} {half depth gr : Nat} {ins : List Int} {w w1 w2 : World} {m : Nat} {κ : Kp} {Y : Dt} {l : List HX} {f : HX} {op q x y p k : Nat} {e : Ending}
theorem DI.big (h : DI half depth gr ins Y) : ttD Y + (slD Y).length <= 1000000000000 := by
 have h1 : ttD Y <= Y.ds.length * 2049 := by
  unfold ttD
  have := jcU (f := szD (dsD Y)) (c := 2049) (List.range (dsD Y).length) (fun i hi => by
   unfold szD bkD
   cases hb : (dsD Y)[i]? with
   | none => simp
   | some b =>
     unfold dsD at hb
     rw [List.getElem?_map] at hb
     cases hc : Y.ds[i]? with
     | none => rw [hc] at hb;cases hb
     | some c =>
       rw [hc] at hb
       cases hb
       have := h.fl c (List.mem_of_getElem? hc)
       simp only
       omega)
  have e : (dsD Y).length = Y.ds.length := by unfold dsD;simp
  rw [List.length_range] at this
  rw [e] at this ⊢
  exact this
 have h2 := jka h.sl
 have h3 := h.dlen
 have h4 := h.sm
 have h5 := h.fs
 have h6 := h.dm
 unfold slD
 have h7 : Y.ds.length * 2049 <= 65536 * 2049 := Nat.mul_le_mul_right _ (by omega)
 have h8 : Y.fs.length * 1024 <= 64 * 1024 := Nat.mul_le_mul_right _ (by omega)
 omega
theorem Ds.make (h : Ds s half depth gr ins w m κ Y l f op q x y p) {n : Nat} {g' : Int} {v : V} (hv : Vl Y v) (ho : BuP s κ w1 m (jM Y) v q n g' e w2) (he : Ko.ef s (bkD (dsD Y)) ins (jl Y) = .make q n g' v) : DP s half depth gr ins κ m Y w1 e w2 := by
 obtain ⟨u1,g,hG,hc⟩ := ho
 have hw := h.di.words
 have hG1 : half < Y.x.used + n + 1 -> jaP (dsD Y) (frD Y) v u1 /\ g = Y.x.gcs + 1 := fun h1 => hG.hi (by show Y.x.words < Y.x.used + n + 1;omega)
 have hG2 : Y.x.used + n + 1 <= half -> u1 = Y.x.used /\ g = Y.x.gcs := fun h1 => hG.lo (by show Y.x.used + n + 1 <= Y.x.words;omega)
 rcases hc with ⟨h1,h2⟩ | ⟨h1,vk,b,vv,h2⟩
 ·obtain ⟨h3,κ',h4,h5⟩ := h2
  refine ⟨h3,κ',_,h5,h4,?_,h.di.fuel,h.di.out,fun h => absurd h (show (40 : Nat) ≠ 42 by decide)⟩
  unfold JN
  rw [he]
  exact ⟨u1,g,hG1,hG2,.inl ⟨by have h1' : Y.x.words < u1 + n + 1 := h1;omega,rfl,rfl,rfl⟩⟩
 ·have h1' : u1 + n + 1 <= Y.x.words := h1
  have hgl : g <= Y.x.steps + 1 := by
   have := h.di.gcs
   by_cases hx : half < Y.x.used + n + 1
   ·have := (hG1 hx).2;omega
   ·have := (hG2 (by omega)).2;omega
  have hm := h.di.hm
  refine DP.ok h2 ((h.di.on h.hs).bld (Nat.succ_le_succ h.di.dlen) hgl (by omega) hv) ?_
  unfold JN
  rw [he]
  refine ⟨u1,g,hG1,hG2,.inr ⟨by omega,?_,rfl,?_⟩⟩
  ·show (Y.ds ++ [_]).map _ = _
   rw [List.map_append];rfl
  ·rw [show (dsD Y).length = Y.ds.length by unfold dsD;simp];rfl
theorem Ds.bv (h : Ds s half depth gr ins w m κ Y l f op q x y p) {W : World} (hW : DM s W m κ (jM Y)) {n : Nat} {g' : Int} {v : V} (hq : q < 8) (hn : n <= 65536) (hv : Vl Y v) :
 Calls Tryz.prog 32 #[.pointer (some ⟨m,0,none⟩),.int .i64 q,.int .i64 n,.int .i64 g',.agg #[.bool (vb v),.int .i64 (vi v)]] W (BuP s κ W m (jM Y) v q n g') := by
 have hI := h.di.on h.hs
 have h1 := hI.dlen
 have h2 := hI.sm
 have h3 := hI.fs
 have h4 := hI.dm
 have h5 := hI.words
 have h6 := hI.hm
 have h7 := hI.gcs
 refine jl2 hW ⟨hv,fun i hi => ?_,hI.fv⟩ hI.big (by omega) (by omega) (by have := h.used;show Y.x.used <= _;omega) (by omega) (by omega) hn hI.rl hq
 unfold slD at hi
 obtain ⟨g,hg,hi⟩ := List.mem_flatMap.1 hi
 exact hI.sv g hg i hi
theorem jkG (h : Ds s half depth gr ins w m κ Y l f 1 q x y p) (hq : q < 8) (hx : x < hN s) : DsC s half depth gr ins w m κ Y 1 q x y p := by
 unfold DsC
 exact (jjm h.dl hq hx).mono fun e w' ho => h.reg ho (fun i e => by cases e) (h.ef _)
theorem jkC (h : Ds s half depth gr ins w m κ Y l f 2 q x y p) (hq : q < 8) (hx : x < 8) : DsC s half depth gr ins w m κ Y 2 q x y p := by
 unfold DsC
 exact (jjh h.dl hq (h.rg hx)).mono fun e w' ho => h.reg ho (h.vl hx) (h.ef _)
theorem jkE (h : Ds s half depth gr ins w m κ Y l f 3 q x y p) (hq : q < 8) (hsl : f.sl.length = r3 s k) (hx : x < r3 s k) : DsC s half depth gr ins w m κ Y 3 q x y p := by
 unfold DsC
 obtain ⟨u,hu⟩ : ∃ u,f.sl[x]? = some u := ⟨_,List.getElem?_eq_getElem (by rw [hsl];exact hx)⟩
 have hfs : Y.fs = l ++ [f] := h.dl.hf
 have hum : Vl Y u := fun i e => h.di.sv f (by rw [hfs];simp) i (e ▸ List.mem_of_getElem? hu)
 have htop : rg (J4 (jl Y).fr) x = u := by rw [show (jl Y).fr = frD Y from rfl,Jt hfs];exact jaE hu
 have hset : ∀ v,frD (slS (jM Y) l f x v) = jad (jl Y).fr x v := fun v => by rw [show (jl Y).fr = frD Y from rfl,Jt hfs,Jt (Y := slS (jM Y) l f x v) (l := l) (f := { f with sl := f.sl.set x v }) rfl];rfl
 exact (jjn h.dl hq hu).mono fun e w' ho => h.reg ho hum ((h.ef _).trans (by rw [<- htop];rfl))
theorem jkF (h : Ds s half depth gr ins w m κ Y l f 4 q x y p) (hq : q < 8) (hsl : f.sl.length = r3 s k) (hx : x < r3 s k) : DsC s half depth gr ins w m κ Y 4 q x y p := by
 unfold DsC
 obtain ⟨u,hu⟩ : ∃ u,f.sl[x]? = some u := ⟨_,List.getElem?_eq_getElem (by rw [hsl];exact hx)⟩
 have hfs : Y.fs = l ++ [f] := h.dl.hf
 have hum : Vl Y u := fun i e => h.di.sv f (by rw [hfs];simp) i (e ▸ List.mem_of_getElem? hu)
 have htop : rg (J4 (jl Y).fr) x = u := by rw [show (jl Y).fr = frD Y from rfl,Jt hfs];exact jaE hu
 have hset : ∀ v,frD (slS (jM Y) l f x v) = jad (jl Y).fr x v := fun v => by rw [show (jl Y).fr = frD Y from rfl,Jt hfs,Jt (Y := slS (jM Y) l f x v) (l := l) (f := { f with sl := f.sl.set x v }) rfl];rfl
 refine (ji9 h.dl hq hu).mono fun e w' ho => DP.ok ho (((h.di.on h.hs).reg hum).slot hfs (fun i e => by cases e)) ?_
 have he : ef s (bkD (dsD Y)) ins (jl Y) = .both x q u := (h.ef _).trans (by rw [<- htop];rfl)
 have h2 := JH (half := half) (depth := depth) (u := Y.x.used) he (fun _ _ _ _ h => by cases h) (fun _ _ _ h => by cases h)
 have e2 : jl (slS (rgS (onD (stD Y)) q u) l f x z0) = ap s depth (jl Y) (.both x q u) := by
  show (⟨_,_,frD (slS (jM Y) l f x z0),_,_,_,_,_,_,_⟩ : Mc) = _
  rw [hset];rfl
 rw [e2];exact h2
theorem jkv (h : Ds s half depth gr ins w m κ Y l f 5 q x y p) (hq : q < 8) (hsl : f.sl.length = r3 s k) (hx : x < r3 s k) : DsC s half depth gr ins w m κ Y 5 q x y p := by
 unfold DsC
 obtain ⟨u,hu⟩ : ∃ u,f.sl[x]? = some u := ⟨_,List.getElem?_eq_getElem (by rw [hsl];exact hx)⟩
 have hfs : Y.fs = l ++ [f] := h.dl.hf
 have hum : Vl Y u := fun i e => h.di.sv f (by rw [hfs];simp) i (e ▸ List.mem_of_getElem? hu)
 have htop : rg (J4 (jl Y).fr) x = u := by rw [show (jl Y).fr = frD Y from rfl,Jt hfs];exact jaE hu
 have hset : ∀ v,frD (slS (jM Y) l f x v) = jad (jl Y).fr x v := fun v => by rw [show (jl Y).fr = frD Y from rfl,Jt hfs,Jt (Y := slS (jM Y) l f x v) (l := l) (f := { f with sl := f.sl.set x v }) rfl];rfl
 refine (ji8 h.dl (h.rg hq) hu).mono fun e w' ho => DP.ok ho ((h.di.on h.hs).slot hfs (h.vl hq)) ?_
 have he : ef s (bkD (dsD Y)) ins (jl Y) = .slot x (rg Y.regs q) := h.ef _
 have h2 := JH (half := half) (depth := depth) (u := Y.x.used) he (fun _ _ _ _ h => by cases h) (fun _ _ _ h => by cases h)
 have e2 : jl (slS (onD (stD Y)) l f x (rg Y.regs q)) = ap s depth (jl Y) (.slot x (rg Y.regs q)) := by
  show (⟨_,_,frD (slS (jM Y) l f x (rg Y.regs q)),_,_,_,_,_,_,_⟩ : Mc) = _
  rw [hset];rfl
 rw [e2];exact h2
theorem jkL (h : Ds s half depth gr ins w m κ Y l f 6 q x y p) (hsl : f.sl.length = r3 s k) (hx : x < r3 s k) : DsC s half depth gr ins w m κ Y 6 q x y p := by
 unfold DsC
 obtain ⟨u,hu⟩ : ∃ u,f.sl[x]? = some u := ⟨_,List.getElem?_eq_getElem (by rw [hsl];exact hx)⟩
 have hfs : Y.fs = l ++ [f] := h.dl.hf
 have hum : Vl Y u := fun i e => h.di.sv f (by rw [hfs];simp) i (e ▸ List.mem_of_getElem? hu)
 have htop : rg (J4 (jl Y).fr) x = u := by rw [show (jl Y).fr = frD Y from rfl,Jt hfs];exact jaE hu
 have hset : ∀ v,frD (slS (jM Y) l f x v) = jad (jl Y).fr x v := fun v => by rw [show (jl Y).fr = frD Y from rfl,Jt hfs,Jt (Y := slS (jM Y) l f x v) (l := l) (f := { f with sl := f.sl.set x v }) rfl];rfl
 refine (ji7 h.dl hu).mono fun e w' ho => DP.ok ho ((h.di.on h.hs).slot hfs (fun i e => by cases e)) ?_
 have he : ef s (bkD (dsD Y)) ins (jl Y) = .slot x z0 := h.ef _
 have h2 := JH (half := half) (depth := depth) (u := Y.x.used) he (fun _ _ _ _ h => by cases h) (fun _ _ _ h => by cases h)
 have e2 : jl (slS (onD (stD Y)) l f x z0) = ap s depth (jl Y) (.slot x z0) := by
  show (⟨_,_,frD (slS (jM Y) l f x z0),_,_,_,_,_,_,_⟩ : Mc) = _
  rw [hset];rfl
 rw [e2];exact h2
theorem jbf {n : Nat} {o : Int} (ho : (n = 7 /\ o = 7) \/ (n = 8 /\ o = 8) \/ (n = 9 /\ o = 9) \/ (n = 12 /\ o = 12) \/ (n = 13 /\ o = 13) \/ (n = 14 /\ o = 14)) (h : Ds s half depth gr ins w m κ Y l f n q x y p) (hq : q < 8) (hx : x < 8) (hy : y < 8) (ix : ∀ a,rg Y.regs x = .n a -> inR a) (iy : ∀ a,rg Y.regs y = .n a -> inR a) : DsC s half depth gr ins w m κ Y o q x y p := by
 unfold DsC
 have he : ef s (bkD (dsD Y)) ins (jl Y) = two (rg Y.regs x) (rg Y.regs y) fun a b => .reg q (.n (w63 (ar n a b))) := by
  rcases ho with ⟨rfl,rfl⟩ | ⟨rfl,rfl⟩ | ⟨rfl,rfl⟩ | ⟨rfl,rfl⟩ | ⟨rfl,rfl⟩ | ⟨rfl,rfl⟩ <;> exact (h.ef _).trans (by simp [efO];rfl)
 have hx' := h.rg hx
 have hy' := h.rg hy
 cases hu : rg Y.regs x with
 | b i =>
   rw [hu] at he hx'
   exact (jci h.dl (by omega) hx' hy' (k := 0) (t := .b i) rfl rfl (fun i u h => absurd h (Nat.not_lt_zero _))).mono fun e w' h2 => h.stop h2 (by decide) he
 | n a =>
   rw [hu] at he hx'
   cases hv : rg Y.regs y with
   | b i =>
     rw [hv] at he hy'
     exact (jci h.dl (by omega) hx' hy' (k := 1) (t := .b i) rfl rfl (fun j u h1 h2 => by
      have : j = 0 := by omega
      subst this
      simp at h2
      rw [<- h2];rfl)).mono fun e w' h2 => h.stop h2 (by decide) he
   | n b =>
     rw [hv] at he hy'
     simp only [two] at he
     exact jdg h.dl (by omega) hx' hy' (JB ..) fun W hW => (jmg hW h.di.rl ho hq (ix a hu) (iy b hv)).mono fun e w' h2 => h.reg h2 (fun i e => by cases e) he
theorem jfp {n : Nat} {o : Int} (ho : (n = 10 /\ o = 10) \/ (n = 11 /\ o = 11)) (h : Ds s half depth gr ins w m κ Y l f n q x y p) (hq : q < 8) (hx : x < 8) (hy : y < 8) (ix : ∀ a,rg Y.regs x = .n a -> inR a) (iy : ∀ a,rg Y.regs y = .n a -> inR a) : DsC s half depth gr ins w m κ Y o q x y p := by
 unfold DsC
 have he : ef s (bkD (dsD Y)) ins (jl Y) = two (rg Y.regs x) (rg Y.regs y) fun a b => if b = 0 then .stop 32 p else .reg q (.n (w63 (ar n a b))) := by
  rcases ho with ⟨rfl,rfl⟩ | ⟨rfl,rfl⟩ <;> exact (h.ef _).trans (by simp [efO];rfl)
 have hx' := h.rg hx
 have hy' := h.rg hy
 cases hu : rg Y.regs x with
 | b i =>
   rw [hu] at he hx'
   exact (jci h.dl (by omega) hx' hy' (k := 0) (t := .b i) rfl rfl (fun i u h => absurd h (Nat.not_lt_zero _))).mono fun e w' h2 => h.stop h2 (by decide) he
 | n a =>
   rw [hu] at he hx'
   cases hv : rg Y.regs y with
   | b i =>
     rw [hv] at he hy'
     exact (jci h.dl (by omega) hx' hy' (k := 1) (t := .b i) rfl rfl (fun j u h1 h2 => by
      have : j = 0 := by omega
      subst this
      simp at h2
      rw [<- h2];rfl)).mono fun e w' h2 => h.stop h2 (by decide) he
   | n b =>
     rw [hv] at he hy'
     simp only [two] at he
     by_cases hz : b = 0
     ·rw [if_pos hz] at he
      subst hz
      refine jdg h.dl (by omega) hx' hy' (JB ..) fun W hW => Calls.mono ?_ fun e w' h2 => h.stop h2 (by decide) he
      rcases ho with ⟨rfl,rfl⟩ | ⟨rfl,rfl⟩
      ·exact jmf hW
      ·exact jme hW
     ·rw [if_neg hz] at he
      exact jdg h.dl (by omega) hx' hy' (JB ..) fun W hW => (jmh hW h.di.rl ho hq (ix a hu) (iy b hv) hz).mono fun e w' h2 => h.reg h2 (fun i e => by cases e) he
theorem jkS (h : Ds s half depth gr ins w m κ Y l f 15 q x y p) (hq : q < 8) (hx : x < 8) (ix : ∀ a,rg Y.regs x = .n a -> inR a) : DsC s half depth gr ins w m κ Y 15 q x y p := by
 unfold DsC
 have he : ef s (bkD (dsD Y)) ins (jl Y) = one (rg Y.regs x) fun a => .reg q (.n (w63 (ar 15 a 0))) := (h.ef _).trans (by simp [efO];rfl)
 have hx' := h.rg hx
 cases hu : rg Y.regs x with
 | b i =>
   rw [hu] at he hx'
   exact (ji6 h.dl hx' (k := 0) (t := .b i) rfl rfl (fun i u h => absurd h (Nat.not_lt_zero _))).mono fun e w' h2 => h.stop h2 (by decide) he
 | n a =>
   rw [hu] at he hx'
   refine (jjl h.dl hq hx' (ix a hu)).mono fun e w' h2 => h.reg h2 (fun i e => by cases e) (he.trans ?_)
   rfl
theorem jkR (h : Ds s half depth gr ins w m κ Y l f 16 q x y p) (hq : q < 8) (hx : x < 8) (ix : ∀ a,rg Y.regs x = .n a -> inR a) : DsC s half depth gr ins w m κ Y 16 q x y p := by
 unfold DsC
 have he : ef s (bkD (dsD Y)) ins (jl Y) = one (rg Y.regs x) fun a => .reg q (.n (w63 (ar 16 a 0))) := (h.ef _).trans (by simp [efO];rfl)
 have hx' := h.rg hx
 cases hu : rg Y.regs x with
 | b i =>
   rw [hu] at he hx'
   exact (ji5 h.dl hx' (k := 0) (t := .b i) rfl rfl (fun i u h => absurd h (Nat.not_lt_zero _))).mono fun e w' h2 => h.stop h2 (by decide) he
 | n a =>
   rw [hu] at he hx'
   refine (jjk h.dl hq hx').mono fun e w' h2 => h.reg h2 (fun i e => by cases e) (he.trans ?_)
   simp only [one]
   congr 2
   by_cases hz : a = 0
   ·subst hz;decide
   ·rw [show ar 16 a 0 = 0 by unfold ar;simp [hz],show tru (a == 0) = 0 by unfold tru;simp [hz]];decide
theorem jkI (h : Ds s half depth gr ins w m κ Y l f 17 q x y p)  : DsC s half depth gr ins w m κ Y 17 q x y p := by
 unfold DsC
 exact (jjj h.dl).mono fun e w' h2 => DP.ok h2 ((h.di.on h.hs).re rfl) (JH (e := .jump x) (h.ef _) (fun _ _ _ _ h => by cases h) (fun _ _ _ h => by cases h))
theorem jkH (h : Ds s half depth gr ins w m κ Y l f 18 q x y p) (hq : q < 8) : DsC s half depth gr ins w m κ Y 18 q x y p := by
 unfold DsC
 have he : ef s (bkD (dsD Y)) ins (jl Y) = one (rg Y.regs q) fun a => if a = 0 then .jump x else .skip := h.ef _
 have hx' := h.rg hq
 cases hu : rg Y.regs q with
 | b i =>
   rw [hu] at he hx'
   exact (ji4 h.dl hx' (k := 0) (t := .b i) rfl rfl (fun i u h => absurd h (Nat.not_lt_zero _))).mono fun e w' h2 => h.stop h2 (by decide) he
 | n a =>
   rw [hu] at he hx'
   simp only [one] at he
   by_cases hz : a = 0
   ·rw [if_pos hz] at he
    exact (jeW h.dl hx').mono fun e w' h2 => by rw [if_pos (by rw [hz];rfl)] at h2;exact DP.ok h2 ((h.di.on h.hs).re rfl) (JH he (fun _ _ _ _ h => by cases h) (fun _ _ _ h => by cases h))
   ·rw [if_neg hz] at he
    exact (jeW h.dl hx').mono fun e w' h2 => by rw [if_neg (by simpa using hz)] at h2;exact DP.ok h2 (h.di.on h.hs) (JH he (fun _ _ _ _ h => by cases h) (fun _ _ _ h => by cases h))
theorem jkB (h : Ds s half depth gr ins w m κ Y l f 19 q x y p) (hq : q < 8) (hx : x < 65536) : DsC s half depth gr ins w m κ Y 19 q x y p := by
 unfold DsC
 exact jji h.dl (JB ..) fun W hW => (h.bv hW (v := z0) hq (Nat.le_of_lt hx) (fun i e => by cases e)).mono fun e w' h2 => h.make (fun i e => by cases e) h2 (h.ef _)
theorem jkM (h : Ds s half depth gr ins w m κ Y l f 20 q x y p) (hq : q < 8) (hx : x < 65536) : DsC s half depth gr ins w m κ Y 20 q x y p := by
 unfold DsC
 exact jjg h.dl (JB ..) fun W hW => (h.bv hW (v := z0) hq (Nat.le_of_lt hx) (fun i e => by cases e)).mono fun e w' h2 => h.make (fun i e => by cases e) h2 (h.ef _)
theorem jkO (h : Ds s half depth gr ins w m κ Y l f 23 q x y p) (hq : q < 8) (hx : x < 8) (hy : y < 8) : DsC s half depth gr ins w m κ Y 23 q x y p := by
 unfold DsC
 have he : ef s (bkD (dsD Y)) ins (jl Y) = one (rg Y.regs x) fun a => if a < 0 \/ 32 < a then .stop 31 p else .make q a.toNat (-1) (rg Y.regs y) := h.ef _
 have hx' := h.rg hx
 cases hu : rg Y.regs x with
 | b i =>
   rw [hu] at he hx'
   exact (ji3 h.dl hx' (k := 0) (t := .b i) rfl rfl (fun i u h => absurd h (Nat.not_lt_zero _))).mono fun e w' h2 => h.stop h2 (by decide) he
 | n a =>
   rw [hu] at he hx'
   simp only [one] at he
   by_cases hz : a < 0 \/ 32 < a
   ·rw [if_pos hz] at he
    exact (jiZ h.dl hx' hz).mono fun e w' h2 => h.stop h2 (by decide) he
   ·rw [if_neg hz] at he
    have ha : ((a.toNat : Nat) : Int) = a := by omega
    exact jjf (n := a.toNat) h.dl (by rw [ha];exact hx') (h.rg hy) (by omega) (JB ..) fun W hW => (h.bv hW hq (by omega) (h.vl hy)).mono fun e w' h2 => h.make (h.vl hy) h2 he
theorem jkD (h : Ds s half depth gr ins w m κ Y l f 26 q x y p) (hq : q < 8) (hx : x < 8) : DsC s half depth gr ins w m κ Y 26 q x y p := by
 unfold DsC
 have he : ef s (bkD (dsD Y)) ins (jl Y) = blk (rg Y.regs x) fun i => .reg q (.n (bkD (dsD Y) i).1.length) := h.ef _
 refine jdh h.dl (by decide) (h.rg hx) (JB ..) fun W hW => ?_
 cases hu : rg Y.regs x with
 | n a =>
   rw [hu] at he
   exact (jiP hW).mono fun e w' h2 => h.stop h2 (by decide) he
 | b i =>
   rw [hu] at he
   obtain ⟨b,hb⟩ := h.bk hx hu
   simp only [blk,jaK hb] at he
   exact (jiS hW h.di.rl hq hb).mono fun e w' h2 => h.reg h2 (fun i e => by cases e) he
theorem jkK (h : Ds s half depth gr ins w m κ Y l f 22 q x y p) (hq : q < 8) (hx : x < 8) : DsC s half depth gr ins w m κ Y 22 q x y p := by
 unfold DsC
 have he : ef s (bkD (dsD Y)) ins (jl Y) = blk (rg Y.regs x) fun i => if y < (bkD (dsD Y) i).1.length then .reg q (rg (bkD (dsD Y) i).1 y) else .stop 50 0 := h.ef _
 refine jdh h.dl (by decide) (h.rg hx) (JB ..) fun W hW => ?_
 cases hu : rg Y.regs x with
 | n a =>
   rw [hu] at he
   exact (jiR hW).mono fun e w' h2 => h.stop h2 (by decide) he
 | b i =>
   rw [hu] at he
   obtain ⟨b,hb⟩ := h.bk hx hu
   simp only [blk,jaK hb] at he
   by_cases hl : y < b.fs.length
   ·rw [if_pos hl] at he
    exact (jiW hW h.di.rl hq hb (Jx hl)).mono fun e w' h2 => h.reg h2 (fun i e => h.di.fv b (List.mem_of_getElem? hb) i (e ▸ List.mem_of_getElem? (Jx hl))) he
   ·rw [if_neg hl] at he
    exact (jiX hW h.di.rl hq hb (by omega)).mono fun e w' h2 => h.stop h2 (by decide) he
theorem jkJ (h : Ds s half depth gr ins w m κ Y l f 24 q x y p) (hq : q < 8) (hx : x < 8) (hy : y < 8) : DsC s half depth gr ins w m κ Y 24 q x y p := by
 unfold DsC
 have he : ef s (bkD (dsD Y)) ins (jl Y) = bln (rg Y.regs x) (rg Y.regs y) fun i a => if 0 <= a /\ a < (bkD (dsD Y) i).1.length then .reg q (rg (bkD (dsD Y) i).1 a.toNat) else .stop 30 p := h.ef _
 refine jdh h.dl (by decide) (h.rg hx) (JB ..) fun W hW => ?_
 have hy' := h.rg hy
 cases hu : rg Y.regs x with
 | n a =>
   rw [hu] at he
   exact (jiQ hW).mono fun e w' h2 => h.stop h2 (by decide) he
 | b i =>
   rw [hu] at he
   obtain ⟨b,hb⟩ := h.bk hx hu
   cases ht : rg Y.regs y with
   | b j =>
     rw [ht] at he hy'
     exact (jiV hW h.di.rl hq hb hy' rfl).mono fun e w' h2 => h.stop h2 (by decide) he
   | n a =>
     rw [ht] at he hy'
     simp only [bln,jaK hb] at he
     by_cases hl : 0 <= a /\ a < (b.fs.length : Int)
     ·rw [if_pos hl] at he
      have ha : ((a.toNat : Nat) : Int) = a := by omega
      exact (jiT (i := a.toNat) hW h.di.rl hq hb (by rw [ha];exact hy') (Jx (by omega))).mono fun e w' h2 => h.reg h2 (fun i e => h.di.fv b (List.mem_of_getElem? hb) i (e ▸ List.mem_of_getElem? (Jx (l := b.fs) (by omega)))) he
     ·rw [if_neg hl] at he
      exact (jiU hW h.di.rl hq hb hy' hl).mono fun e w' h2 => h.stop h2 (by decide) he
theorem jkw (h : Ds s half depth gr ins w m κ Y l f 21 q x y p) (hq : q < 8) (hy : y < 8) : DsC s half depth gr ins w m κ Y 21 q x y p := by
 unfold DsC
 have he : ef s (bkD (dsD Y)) ins (jl Y) = blk (rg Y.regs q) fun i => if x < (bkD (dsD Y) i).1.length then .fld i x (rg Y.regs y) else .stop 50 0 := h.ef _
 refine jeU h.dl (by decide) (h.rg hq) (JB ..) fun W hW => ?_
 cases hu : rg Y.regs q with
 | n a =>
   rw [hu] at he
   exact (jlO hW).mono fun e w' h2 => h.stop h2 (by decide) he
 | b i =>
   rw [hu] at he
   obtain ⟨b,hb⟩ := h.bk hq hu
   simp only [blk,jaK hb] at he
   by_cases hl : x < b.fs.length
   ·rw [if_pos hl] at he
    exact (jlS hW h.di.rl hb (Jx hl) (h.rg hy)).mono fun e w' h2 => h.fld hb (h.vl hy) h2 he
   ·rw [if_neg hl] at he
    exact (jlT hW h.di.rl hb (by omega)).mono fun e w' h2 => h.stop h2 (by decide) he
theorem jkz (h : Ds s half depth gr ins w m κ Y l f 25 q x y p) (hq : q < 8) (hx : x < 8) (hy : y < 8) : DsC s half depth gr ins w m κ Y 25 q x y p := by
 unfold DsC
 have he : ef s (bkD (dsD Y)) ins (jl Y) = bln (rg Y.regs q) (rg Y.regs x) fun i a => if 0 <= a /\ a < (bkD (dsD Y) i).1.length then .fld i a.toNat (rg Y.regs y) else .stop 30 p := h.ef _
 refine jeU h.dl (by decide) (h.rg hq) (JB ..) fun W hW => ?_
 have hx' := h.rg hx
 cases hu : rg Y.regs q with
 | n a =>
   rw [hu] at he
   exact (jlN hW).mono fun e w' h2 => h.stop h2 (by decide) he
 | b i =>
   rw [hu] at he
   obtain ⟨b,hb⟩ := h.bk hq hu
   cases ht : rg Y.regs x with
   | b j =>
     rw [ht] at he hx'
     exact (jlR hW h.di.rl hb hx' rfl).mono fun e w' h2 => h.stop h2 (by decide) he
   | n a =>
     rw [ht] at he hx'
     simp only [bln,jaK hb] at he
     by_cases hl : 0 <= a /\ a < (b.fs.length : Int)
     ·rw [if_pos hl] at he
      have ha : ((a.toNat : Nat) : Int) = a := by omega
      exact (jlP (i := a.toNat) hW h.di.rl hb (by rw [ha];exact hx') (Jx (by omega)) (h.rg hy)).mono fun e w' h2 => h.fld hb (h.vl hy) h2 he
     ·rw [if_neg hl] at he
      exact (jlQ hW h.di.rl hb hx' hl).mono fun e w' h2 => h.stop h2 (by decide) he
theorem jkA (h : Ds s half depth gr ins w m κ Y l f 27 q x y p) (hq : q < 8) : DsC s half depth gr ins w m κ Y 27 q x y p := by
 unfold DsC
 have he : ef s (bkD (dsD Y)) ins (jl Y) = one (rg Y.regs q) fun a => if 16 <= Y.out.length then .stop 34 p else .prn a := h.ef _
 have hx' := h.rg hq
 have ho := h.di.out
 cases hu : rg Y.regs q with
 | b i =>
   rw [hu] at he hx'
   exact (ji2 h.dl hx' (k := 0) (t := .b i) rfl rfl (fun i u h => absurd h (Nat.not_lt_zero _))).mono fun e w' h2 => h.stop h2 (by decide) he
 | n a =>
   rw [hu] at he hx'
   simp only [one] at he
   by_cases hl : 16 <= Y.out.length
   ·rw [if_pos hl] at he
    exact (ji1 h.dl hx' (by show Y.out.length = 16;omega)).mono fun e w' h2 => h.stop h2 (by decide) he
   ·rw [if_neg hl] at he
    exact (jje h.dl hx' (by show Y.out.length < 16;omega)).mono fun e w' ⟨v,h2⟩ => DP.ok h2 ((h.di.on h.hs).print (by show Y.out.length < 16;omega) rfl) (JH he (fun _ _ _ _ h => by cases h) (fun _ _ _ h => by cases h))
theorem jky (h : Ds s half depth gr ins w m κ Y l f 28 q x y p) (hq : q < 8) (hi : ∀ z ∈ ins,-9223372036854775808 <= z /\ z <= 9223372036854775807) (hil : ins.length <= 16) (hrd : Y.x.read <= ins.length) : DsC s half depth gr ins w m κ Y 28 q x y p := by
 unfold DsC
 have he : ef s (bkD (dsD Y)) ins (jl Y) = (match ins[Y.x.read]? with
  | none => .stop 33 p
  | some z => .inp q (w63 z)) := h.ef _
 have hins := h.di.ins
 cases hz : ins[Y.x.read]? with
 | none =>
   rw [hz] at he
   refine (ji0 h.dl (by show Y.x.read = Y.ins.length;have := List.getElem?_eq_none_iff.1 hz;rw [hins];omega) (by show Y.ins.length <= 1000;rw [hins];omega)).mono fun e w' h2 => h.stop h2 (by decide) he
 | some z =>
   rw [hz] at he
   have hl := (jG hz).1
   refine (jjd (z := z) h.dl hq (by show Y.ins[Y.x.read]? = _;rw [hins];exact hz) (hi z (List.mem_of_getElem? hz)) (by show Y.ins.length <= 1000;rw [hins];omega)).mono fun e w' h2 => DP.ok h2 ((h.di.on h.hs).inp (by show Y.x.read < Y.ins.length;rw [hins];exact hl)) (JH he (fun _ _ _ _ h => by cases h) (fun _ _ _ h => by cases h))
theorem Ds.callf (h : Ds s half depth gr ins w m κ Y l f op q x y p) {g : Nat} (hfull : depth <= Y.fs.length) (ho : DOk s κ w1 m (jF (jM Y) 41 0) e w2) (he : Ko.ef s (bkD (dsD Y)) ins (jl Y) = .call g false) : DP s half depth gr ins κ m Y w1 e w2 := by
 obtain ⟨h1,κ',h2,h3⟩ := ho
 refine ⟨h1,κ',_,h3,h2,?_,h.di.fuel,h.di.out,fun h => absurd h (show (41 : Nat) ≠ 42 by decide)⟩
 have h4 := JH (half := half) (depth := depth) (u := Y.x.used) he (fun _ _ _ _ h => by cases h) (fun _ _ _ h => by cases h)
 rw [ja1,if_pos (by show depth <= (frD Y).length;rw [jct];exact hfull)] at h4
 exact h4
theorem Ds.callo (h : Ds s half depth gr ins w m κ Y l f op q x y p) {g : Nat} (hr : r3 s g <= 1024) (hroom : Y.fs.length < depth) (ho : e = .returned (.tuple #[]) /\ DNw s κ w1 m (fun Y' => ∃ vf b v,Y' = JT s (jM Y) g (jM Y).x.pc vf b v) w2) (he : Ko.ef s (bkD (dsD Y)) ins (jl Y) = .call g false) : DP s half depth gr ins κ m Y w1 e w2 := by
 refine DP.nw ho (fun Y' ⟨vf,b,v,e⟩ => by rw [e];exact (h.di.on h.hs).call hroom hr) (fun Y' ⟨vf,b,v,e⟩ => ?_)
 subst e
 have h4 := JH (half := half) (depth := depth) (u := Y.x.used) he (fun _ _ _ _ h => by cases h) (fun _ _ _ h => by cases h)
 rw [ja1,if_neg (by show ¬ depth <= (frD Y).length;rw [jct];omega)] at h4
 have e2 : jl (JT s (jM Y) g (jM Y).x.pc vf b v) = { (jl Y).on with pc := r0 s g,fr := J8 s g (Y.x.pc + 1) :: (jl Y).fr } := by
  show (⟨r0 s g,_,frD (JT s (jM Y) g (jM Y).x.pc vf b v),_,_,_,_,_,_,_⟩ : Mc) = _
  rw [Jt (Y := JT s (jM Y) g (jM Y).x.pc vf b v) (l := Y.fs) rfl];rfl
 rw [e2];exact h4
theorem Ds.callt (h : Ds s half depth gr ins w m κ Y l f op q x y p) {g : Nat} (hr : r3 s g <= 1024) (ho : e = .returned (.tuple #[]) /\ DNw s κ w1 m (fun Y' => ∃ v0 vf b v,Y' = JT s (jax (jM Y) l v0) g f.back vf b v) w2) (he : Ko.ef s (bkD (dsD Y)) ins (jl Y) = .call g true) : DP s half depth gr ins κ m Y w1 e w2 := by
 have hfs : Y.fs = l ++ [f] := h.dl.hf
 have hl := h.di.fs
 rw [hfs] at hl
 simp at hl
 refine DP.nw ho (fun Y' ⟨v0,vf,b,v,e⟩ => by rw [e];exact ((h.di.on h.hs).leave hfs v0).call (by show l.length < depth;omega) hr) (fun Y' ⟨v0,vf,b,v,e⟩ => ?_)
 subst e
 have h4 := JH (half := half) (depth := depth) (u := Y.x.used) he (fun _ _ _ _ h => by cases h) (fun _ _ _ h => by cases h)
 have e2 : jl (JT s (jax (jM Y) l v0) g f.back vf b v) = ap s depth (jl Y) (.call g true) := by
  show (⟨r0 s g,_,frD (JT s (jax (jM Y) l v0) g f.back vf b v),_,_,_,_,_,_,_⟩ : Mc) = { (jl Y).on with pc := r0 s g,fr := J8 s g (((frD Y).headD ⟨0,[]⟩).back) :: (frD Y).tail }
  rw [Jt (Y := JT s (jax (jM Y) l v0) g f.back vf b v) (l := l) rfl,Jt hfs];rfl
 rw [e2];exact h4
theorem Ds.cv (h : Ds s half depth gr ins w m κ Y l f op q x y p) (hck : Ck s) {W : World} (hW : DM s W m κ (jM Y)) {g : Nat} (hg : g < hF s) (he : Ko.ef s (bkD (dsD Y)) ins (jl Y) = .call g false) : Calls Tryz.prog 36 #[.pointer (some ⟨m,0,none⟩),.int .i64 g,.bool false] W (DP s half depth gr ins κ m Y W) := by
 have hd := h.di.depth
 have hdm := h.di.dm
 have hfl := h.di.fs
 have hr3 := (j7 hck.row hg).2.2.1
 by_cases hl : depth <= Y.fs.length
 ·exact (jl0 hW (by show Y.fs.length = Y.x.depth;omega)).mono fun e w' h2 => h.callf hl h2 he
 ·exact (jlX hW hg (by omega) (by show Y.fs.length ≠ Y.x.depth;omega) (by show Y.fs.length <= _;omega)).mono fun e w' h2 => h.callo hr3 (by omega) h2 he
theorem Ds.tv (h : Ds s half depth gr ins w m κ Y l f op q x y p) (hck : Ck s) {W : World} (hW : DM s W m κ (jM Y)) {g : Nat} (hg : g < hF s) (he : Ko.ef s (bkD (dsD Y)) ins (jl Y) = .call g true) : Calls Tryz.prog 36 #[.pointer (some ⟨m,0,none⟩),.int .i64 g,.bool true] W (DP s half depth gr ins κ m Y W) := by
 have hr3 := (j7 hck.row hg).2.2.1
 exact (jlZ hW hg (by omega) h.dl.hf h.dl.hl).mono fun e w' h2 => h.callt hr3 h2 he
theorem jkN (h : Ds s half depth gr ins w m κ Y l f 29 q x y p) (hck : Ck s) (hx : x < hF s) : DsC s half depth gr ins w m κ Y 29 q x y p := by
 unfold DsC
 exact jjc h.dl (JB ..) fun W hW => h.cv hck hW hx (h.ef _)
theorem jku (h : Ds s half depth gr ins w m κ Y l f 31 q x y p) (hck : Ck s) (hx : x < hF s) : DsC s half depth gr ins w m κ Y 31 q x y p := by
 unfold DsC
 exact jjb h.dl (JB ..) fun W hW => h.tv hck hW hx (h.ef _)
theorem jkQ (h : Ds s half depth gr ins w m κ Y l f 30 q x y p) (hck : Ck s) (hfn : ∀ i b,rg Y.regs 7 = .b i -> Y.ds[i]? = some b -> b.fn = -1 \/ ∃ g : Nat,b.fn = g /\ g < hF s) : DsC s half depth gr ins w m κ Y 30 q x y p := by
 unfold DsC
 have he : ef s (bkD (dsD Y)) ins (jl Y) = blk (rg Y.regs 7) (fun i => if (bkD (dsD Y) i).2 < 0 \/ r1 s (bkD (dsD Y) i).2.toNat ≠ x then .stop 50 0 else .call (bkD (dsD Y) i).2.toNat false) := h.ef _
 have h7 := h.rg (z := 7) (by decide)
 cases hu : rg Y.regs 7 with
 | n a =>
   rw [hu] at he h7
   exact (jeS h.dl (by decide) h7).mono fun e w' h2 => h.stop h2 (by decide) he
 | b i =>
   rw [hu] at he h7
   obtain ⟨b,hb⟩ := h.bk (by decide) hu
   simp only [blk,jaK hb] at he
   rcases hfn i b hu hb with hf | ⟨g,hf,hg⟩
   ·rw [if_pos (.inl (by rw [hf];omega))] at he
    exact (jeT h.dl (by decide) h7 hb hf).mono fun e w' h2 => h.stop h2 (by decide) he
   ·rw [hf,Int.toNat_natCast] at he
    by_cases hp : r1 s g ≠ x
    ·rw [if_pos (.inr hp)] at he
     exact (jeR h.dl (by decide) h7 hb hf hg hp).mono fun e w' h2 => h.stop h2 (by decide) he
    ·rw [if_neg (by rintro (h | h);· omega
                    ·exact hp h)] at he
     exact line_3 h.dl (by decide) h7 hb hf hg (Classical.not_not.1 hp) (JB ..) fun W hW => h.cv hck hW hg he
theorem jkP (h : Ds s half depth gr ins w m κ Y l f 32 q x y p) (hck : Ck s) (hfn : ∀ i b,rg Y.regs 7 = .b i -> Y.ds[i]? = some b -> b.fn = -1 \/ ∃ g : Nat,b.fn = g /\ g < hF s) : DsC s half depth gr ins w m κ Y 32 q x y p := by
 unfold DsC
 have he : ef s (bkD (dsD Y)) ins (jl Y) = blk (rg Y.regs 7) (fun i => if (bkD (dsD Y) i).2 < 0 \/ r1 s (bkD (dsD Y) i).2.toNat ≠ x then .stop 50 0 else .call (bkD (dsD Y) i).2.toNat true) := h.ef _
 have h7 := h.rg (z := 7) (by decide)
 cases hu : rg Y.regs 7 with
 | n a =>
   rw [hu] at he h7
   exact (jeS h.dl (by decide) h7).mono fun e w' h2 => h.stop h2 (by decide) he
 | b i =>
   rw [hu] at he h7
   obtain ⟨b,hb⟩ := h.bk (by decide) hu
   simp only [blk,jaK hb] at he
   rcases hfn i b hu hb with hf | ⟨g,hf,hg⟩
   ·rw [if_pos (.inl (by rw [hf];omega))] at he
    exact (jeT h.dl (by decide) h7 hb hf).mono fun e w' h2 => h.stop h2 (by decide) he
   ·rw [hf,Int.toNat_natCast] at he
    by_cases hp : r1 s g ≠ x
    ·rw [if_pos (.inr hp)] at he
     exact (jeR h.dl (by decide) h7 hb hf hg hp).mono fun e w' h2 => h.stop h2 (by decide) he
    ·rw [if_neg (by rintro (h | h);· omega
                    ·exact hp h)] at he
     exact line_3 h.dl (by decide) h7 hb hf hg (Classical.not_not.1 hp) (JB ..) fun W hW => h.tv hck hW hg he
theorem jkx (h : Ds s half depth gr ins w m κ Y l f 33 q x y p)  : DsC s half depth gr ins w m κ Y 33 q x y p := by
 unfold DsC
 have hfs : Y.fs = l ++ [f] := h.dl.hf
 have he : ef s (bkD (dsD Y)) ins (jl Y) = if 1 < (frD Y).length then .ret else one (rg Y.regs 0) fun a => .done a := h.ef _
 rw [jct,hfs] at he
 refine jja h.dl (JB ..) fun W hW => ?_
 by_cases hl : 0 < l.length
 ·rw [if_pos (by simp;omega)] at he
  refine (jg8 hW hfs h.dl.hl hl).mono fun e w' ⟨v,h2⟩ => DP.ok h2 (((h.di.on h.hs).leave hfs v).re rfl) ?_
  have h4 := JH (half := half) (depth := depth) (u := Y.x.used) he (fun _ _ _ _ h => by cases h) (fun _ _ _ h => by cases h)
  have e2 : jl (pcS (jax (onD (stD Y)) l v) f.back) = ap s depth (jl Y) .ret := by
   show (⟨f.back,_,(l.reverse.map fun f => (⟨f.back,f.sl⟩ : Fm)),_,_,_,_,_,_,_⟩ : Mc) = { (jl Y).on with pc := ((frD Y).headD ⟨0,[]⟩).back,fr := (frD Y).tail }
   rw [Jt hfs];rfl
  rw [e2];exact h4
 ·have hl0 : l = [] := List.eq_nil_of_length_eq_zero (by omega)
  subst hl0
  rw [if_neg (by simp)] at he
  have h0 := h.rg (z := 0) (by decide)
  cases hu : rg Y.regs 0 with
  | b i =>
    rw [hu] at he h0
    exact (jha (u := .b i) hW h.di.rl hfs h0 rfl).mono fun e w' h2 => h.stop h2 (by decide) he
  | n a =>
    rw [hu] at he h0
    refine (jg6 hW h.di.rl hfs h0).mono fun e w' h2 => ?_
    obtain ⟨h1,κ',h2,h3⟩ := h2
    exact ⟨h1,κ',_,h3,h2,JH he (fun _ _ _ _ h => by cases h) (fun _ _ _ h => by cases h),h.di.fuel,h.di.out,fun h => absurd h (show (0 : Nat) ≠ 42 by decide)⟩
end
theorem jkU {s : ByteArray} (hck : Ck s) {half depth gr : Nat} {ins : List Int} (hi : ∀ z ∈ ins,-9223372036854775808 <= z /\ z <= 9223372036854775807) (hil : ins.length <= 16) {w : World} {m : Nat} {κ : Kp} {Y : Dt} (h : DM s w m κ (stD Y)) (hI : DI half depth gr ins Y) (hs : Y.x.steps < 65536) (herr : Y.x.err = 42)
 {β : Nat -> Option Nat} {c : Mc} {bs : List CB} {k : Nat} {A : Nat -> Bool} (S : Sim s β c bs (jl Y) (dsD Y) Y.x.used k A) :
 Calls Tryz.prog 19 #[.pointer (some ⟨m,0,none⟩),.agg #[.int .i64 (l0 s Y.x.pc : Nat),.int .i64 (l1 s Y.x.pc : Nat),.int .i64 (l2 s Y.x.pc : Nat),.int .i64 (l3 s Y.x.pc : Nat),.int .i64 (l4 s Y.x.pc : Nat)]] w (DP s half depth gr ins κ m Y w) := by
 have hpc : c.pc = Y.x.pc := S.pc
 have hal := S.al
 rw [hpc] at hal
 have hw := hal.wl hck
 have hk := hal.kl
 have hlt : Y.x.pc < hL s := Nat.lt_of_lt_of_le hal.hi (jal hck.row hk).2
 have hLl : hL s < 65536 := ju _ _
 have hfr := S.fr
 have hch := S.ch
 have hreg : ∀ z,z < 8 -> z ∈ rdL s Y.x.pc -> VR β (rg c.regs z) (rg Y.regs z) := fun z h1 h2 => S.reg z h1 (hal.reads hck h2)
 have hin : ∀ z,z < 8 -> z ∈ rdL s Y.x.pc -> ∀ a,rg Y.regs z = .n a -> inR a := fun z h1 h2 a ha => by
  have := hreg z h1 h2
  rw [ha] at this
  revert this
  cases rg c.regs z with
  | n a' => intro h;rw [<- h.1];exact h.2
  | b i => intro h;exact h.elim
 have hfn : 7 ∈ rdL s Y.x.pc -> ∀ i b,rg Y.regs 7 = .b i -> Y.ds[i]? = some b -> b.fn = -1 \/ ∃ g : Nat,b.fn = g /\ g < hF s := fun h2 i b hi hb => by
  have := hreg 7 (by decide) h2
  rw [hi] at this
  revert this
  cases rg c.regs 7 with
  | n a' => intro h;exact h.elim
  | b i' =>
    intro hij
    have h1 := S.hp.fn i' i hij
    rw [(S.hp.map i' i hij).2.1,jaK hb] at h1
    exact h1
 obtain ⟨l,f,hfs,hsl⟩ : ∃ l f,Y.fs = l ++ [f] /\ f.sl.length = r3 s k := by
  rcases List.eq_nil_or_concat Y.fs with e | ⟨l,f,e⟩
  ·exfalso
   have h1 := jcs hfr
   rw [show (jl Y).fr = frD Y from rfl,jct,e] at h1
   have h2 : c.fr = [] := List.eq_nil_of_length_eq_zero h1
   rw [h2] at hch
   exact hch
  ·rw [List.concat_eq_append] at e
   refine ⟨l,f,e,?_⟩
   have h1 := (jfe hfr).1
   rw [jdC hch,show (jl Y).fr = frD Y from rfl,Jt e] at h1
   exact h1.symm
 have hl64 : l.length <= 1000 := by
  have h1 := hI.fs
  have h2 := hI.dm
  rw [hfs] at h1
  simp at h1
  omega
 have h0 := hw.f0
 have h1 := hw.f1
 have h2 := hw.f2
 have h3 := hw.op1
 have h4 := hw.op2
 have b2 : l2 s Y.x.pc < 65536 := ju _ _
 have hused : Y.x.used <= 4096 := by have h1 := S.eq.used;have h2 := S.eq.big;omega
 have hrl : rdL s Y.x.pc = rdL s Y.x.pc := rfl
 have hef : ∀ bk,Ko.ef s bk ins (jl Y) = efO s bk ins (jl Y) (l0 s Y.x.pc) (l1 s Y.x.pc) (l2 s Y.x.pc) (l3 s Y.x.pc) (l4 s Y.x.pc) := fun bk => rfl
 unfold rdL at hin hfn
 have D : ∀ {op q x y p : Nat},l0 s Y.x.pc = op -> l1 s Y.x.pc = q -> l2 s Y.x.pc = x -> l3 s Y.x.pc = y -> l4 s Y.x.pc = p -> Ds s half depth gr ins w m κ Y l f op q x y p := fun {op q x y p} e0 e1 e2 e3 e4 => ⟨⟨h,hI.rl,hfs,hl64,by show Y.x.pc <= 1000000;omega⟩,hI,hs,herr,fun bk => by rw [hef bk,e0,e1,e2,e3,e4],hused⟩
 generalize l0 s Y.x.pc = op at *
 generalize l1 s Y.x.pc = q at *
 generalize l2 s Y.x.pc = x at *
 generalize l3 s Y.x.pc = y at *
 generalize l4 s Y.x.pc = p at *
 have C := D rfl rfl rfl rfl rfl
 clear D hef hw hal S hpc hrl hfr hch hreg
 have hc : op = 1 \/ op = 2 \/ op = 3 \/ op = 4 \/ op = 5 \/ op = 6 \/ op = 7 \/ op = 8 \/ op = 9 \/ op = 10 \/ op = 11 \/ op = 12 \/ op = 13 \/ op = 14 \/ op = 15 \/ op = 16 \/ op = 17 \/ op = 18 \/ op = 19 \/ op = 20 \/ op = 21 \/ op = 22 \/ op = 23 \/ op = 24 \/ op = 25 \/ op = 26 \/ op = 27 \/ op = 28 \/ op = 29 \/ op = 30 \/ op = 31 \/ op = 32 \/ op = 33 := by omega
 rcases hc with rfl | rfl | rfl | rfl | rfl | rfl | rfl | rfl | rfl | rfl | rfl | rfl | rfl | rfl | rfl | rfl | rfl | rfl | rfl | rfl | rfl | rfl | rfl | rfl | rfl | rfl | rfl | rfl | rfl | rfl | rfl | rfl | rfl
 all_goals simp [jo,ruN,rul] at h0 h1 h2
 ·exact jkG C h0 h1
 ·exact jkC C h0 h1
 ·exact jkE C h0 hsl h1
 ·exact jkF C h0 hsl h1
 ·exact jkv C h0 hsl h1
 ·exact jkL C hsl h1
 ·exact jbf (by decide) C h0 h1 h2 (hin x h1 (by simp [rdO])) (hin y h2 (by simp [rdO]))
 ·exact jbf (by decide) C h0 h1 h2 (hin x h1 (by simp [rdO])) (hin y h2 (by simp [rdO]))
 ·exact jbf (by decide) C h0 h1 h2 (hin x h1 (by simp [rdO])) (hin y h2 (by simp [rdO]))
 ·exact jfp (by decide) C h0 h1 h2 (hin x h1 (by simp [rdO])) (hin y h2 (by simp [rdO]))
 ·exact jfp (by decide) C h0 h1 h2 (hin x h1 (by simp [rdO])) (hin y h2 (by simp [rdO]))
 ·exact jbf (by decide) C h0 h1 h2 (hin x h1 (by simp [rdO])) (hin y h2 (by simp [rdO]))
 ·exact jbf (by decide) C h0 h1 h2 (hin x h1 (by simp [rdO])) (hin y h2 (by simp [rdO]))
 ·exact jbf (by decide) C h0 h1 h2 (hin x h1 (by simp [rdO])) (hin y h2 (by simp [rdO]))
 ·exact jkS C h0 h1 (hin x h1 (by simp [rdO]))
 ·exact jkR C h0 h1 (hin x h1 (by simp [rdO]))
 ·exact jkI C
 ·exact jkH C h0
 ·exact jkB C h0 b2
 ·exact jkM C h0 b2
 ·exact jkw C h0 h2
 ·exact jkK C h0 h1
 ·exact jkO C h0 h1 h2
 ·exact jkJ C h0 h1 h2
 ·exact jkz C h0 h1 h2
 ·exact jkD C h0 h1
 ·exact jkA C h0
 ·exact jky C h0 hi hil (by have := hI.rd;rw [hI.ins] at this;exact this)
 ·exact jkN C hck h1
 ·exact jkQ C hck (hfn (by simp [rdO]))
 ·exact jku C hck h1
 ·exact jkP C hck (hfn (by simp [rdO]))
 ·exact jkx C
end Ko
end Go.Proofs.YtjmgolahkgalbaaGreatDoor
