import Derived.Test.YtjmgolahkgalbaaGreatDoorS23
import Derived.Test.YtjmgolahkgalbaaGreatDoorS24
import Derived.Deep.Cut
import Derived.Deep.CutRange
import Derived.Deep.AppendLies
set_option linter.unusedVariables false
set_option linter.unusedSimpArgs false
set_option maxHeartbeats 20000000
namespace Go.Proofs.YtjmgolahkgalbaaGreatDoor
namespace Ko
open Go.RowKit Li
variable {s : ByteArray} {w : World} {r : Nat}
theorem Mk.start {bs : List HB} (fr : List Fm) (v : V) (h : ∀ (i : Nat) (b : HB),bs[i]? = some b -> b.rc = false) : Mk bs fr v bs [] none :=
 ⟨rfl,fun i b hb => ⟨b,hb,rfl⟩,fun i b hb hr => absurd ((h i b hb).symm.trans hr) (by decide),fun i hi => absurd hi (by simp),fun i b hb hr => absurd ((h i b hb).symm.trans hr) (by decide)⟩
theorem Mk.pop {bs0 : List HB} {fr : List Fm} {v : V} {bs : List HB} {t : List Nat} {a : Nat} (h : Mk bs0 fr v bs (t ++ [a]) none) : Mk bs0 fr v bs t (some (a,0)) := by
 refine ⟨h.len,h.same,h.sub,fun i hi => h.tod i (by simp [hi]),fun i b hb hr => ?_⟩
 rcases h.clo i b hb hr with h1 | h1
 ·simp at h1
  rcases h1 with h1 | rfl
  ·exact .inl h1
  ·exact .inr fun k j hk hq => absurd (hq 0 rfl) (Nat.not_lt_zero _)
 ·exact .inr fun k j hk _ => h1 k j hk (fun q hq => by cases hq)
theorem Mk.fields {bs0 : List HB} {fr : List Fm} {v : V} {bs : List HB} {t : List Nat} {a : Nat} {b : HB} (h : Mk bs0 fr v bs t (some (a,0))) (ha : bs[a]? = some b) (hr : b.rc = true) : ∀ j,j <= b.fs.length -> Mk bs0 fr v (jS (bs,t) (b.fs.take j)).1 (jS (bs,t) (b.fs.take j)).2 (some (a,j))
 | 0,_ => by rw [List.take_zero];exact h
 | j + 1,hj => by
   have ih := Mk.fields h ha hr j (by omega)
   have hlt : j < b.fs.length := by omega
   obtain ⟨u,hu⟩ : ∃ u,b.fs[j]? = some u := ⟨_,List.getElem?_eq_getElem hlt⟩
   have e : jS (bs,t) (b.fs.take (j + 1)) = jQ (jS (bs,t) (b.fs.take j)) u := by rw [List.take_add_one,hu];exact jer _ _ _
   rw [e]
   obtain ⟨b0,h1,h2⟩ := h.same a b ha
   have hk : ∀ i,u = .b i -> Rch (bkC (aB bs0)) fr v i := fun i e => by
    refine .kid (h.sub a b ha hr) ?_
    rw [jam h1,show b0.fs = b.fs by rw [h2]]
    exact e ▸ List.mem_of_getElem? hu
   have m := ih.reach (u := u) hk
   refine ⟨m.len,m.same,m.sub,m.tod,fun i c hc hr' => ?_⟩
   rcases m.clo i c hc hr' with h3 | h3
   ·exact .inl h3
   ·refine .inr fun k m' hk' hq d hd => ?_
    by_cases hik : i = a /\ k = j
    ·obtain ⟨rfl,rfl⟩ := hik
     have hcb : c.fs = b.fs := by
      obtain ⟨c0,h4,h5⟩ := m.same i c hc
      rw [h1] at h4;cases h4
      rw [h5,h2]
     rw [hcb,hu] at hk'
     cases hk'
     have hl : m' < (jS (bs,t) (b.fs.take k)).1.length := by
      have := (jG hd).1
      rw [jbA] at this;exact this
     obtain ⟨d',h6,_,_,h7,_⟩ := J6 (jS (bs,t) (b.fs.take k)) (.b m') (List.getElem?_eq_getElem hl)
     rw [hd] at h6;cases h6
     exact h7 rfl
    ·refine h3 k m' hk' (fun q hq' => ?_) d hd
     cases hq'
     have := hq (j + 1) rfl
     omega
theorem Mk.popped {bs0 : List HB} {fr : List Fm} {v : V} {bs : List HB} {t : List Nat} {a : Nat} {b : HB} (h : Mk bs0 fr v bs (t ++ [a]) none) (ha : bs[a]? = some b) (hr : b.rc = true) : Mk bs0 fr v (jS (bs,t) b.fs).1 (jS (bs,t) b.fs).2 none := by
 have m := Mk.fields h.pop ha hr b.fs.length jN
 rw [List.take_length] at m
 refine ⟨m.len,m.same,m.sub,m.tod,fun i c hc hr' => ?_⟩
 rcases m.clo i c hc hr' with h1 | h1
 ·exact .inl h1
 ·refine .inr fun k j hk _ d hd => h1 k j hk (fun q hq => ?_) d hd
  cases hq
  obtain ⟨b1,e1,e2⟩ := jes (bs,t) b.fs ha
  rw [hc] at e1;cases e1
  rw [e2] at hk
  exact (jG hk).1
theorem jmC (p : List HB × List Nat) : ∀ (fs : List V) {j : Nat} {c c' : HB},p.1[j]? = some c -> c.rc = true -> (jS p fs).1[j]? = some c' -> c'.rc = true := by
 intro fs
 induction fs generalizing p with
 | nil => intro j c c' h hr h';rw [show jS p [] = p from rfl,h] at h';cases h';exact hr
 | cons u l ih =>
   intro j c c' h hr h'
   obtain ⟨c1,h1,_,h2,_⟩ := J6 p u h
   exact ih (jQ p u) h1 (h2 hr) h'
structure Rt (v : V) (bs : List HB) (n : Nat) : Prop where
 more : ∀ i,v = .b i -> ∀ b : HB,bs[i]? = some b -> b.rc = true
 held : ∀ i,i < n -> ∀ b : HB,bs[i]? = some b -> 0 < b.held -> b.rc = true
theorem Rt.reach {v : V} {bs : List HB} {n : Nat} (h : Rt v bs n) (t : List Nat) (u : V) : Rt v (jQ (bs,t) u).1 n := by
 have back : ∀ {i : Nat} {b : HB},(jQ (bs,t) u).1[i]? = some b -> ∃ c : HB,bs[i]? = some c /\ b = { c with rc := b.rc } /\ (c.rc = true -> b.rc = true) := fun {i b} hb => by
  have hl : i < bs.length := by have := (jG hb).1;rw [jbA] at this;exact this
  obtain ⟨c',h1,h2,h3,_⟩ := J6 (bs,t) u (List.getElem?_eq_getElem hl)
  rw [hb] at h1;cases h1
  exact ⟨_,List.getElem?_eq_getElem hl,h2,h3⟩
 refine ⟨fun i e b hb => ?_,fun i hi b hb hh => ?_⟩
 ·obtain ⟨c,h1,h2,h3⟩ := back hb
  exact h3 (h.more i e c h1)
 ·obtain ⟨c,h1,h2,h3⟩ := back hb
  exact h3 (h.held i hi c h1 (by rw [h2] at hh;exact hh))
theorem Rt.reachL {v : V} {n : Nat} : ∀ (fs : List V) {bs : List HB} (h : Rt v bs n) (t : List Nat),Rt v (jS (bs,t) fs).1 n
 | [],bs,h,t => h
 | u :: l,bs,h,t => Rt.reachL l (h.reach t u) (jQ (bs,t) u).2
theorem Rt.next {v : V} {bs : List HB} {n : Nat} (h : Rt v bs n) (hn : ∀ b : HB,bs[n]? = some b -> 0 < b.held -> b.rc = true) : Rt v bs (n + 1) :=
 ⟨h.more,fun i hi b hb hh => by
  by_cases e : i = n
  ·subst e;exact hn b hb hh
  ·exact h.held i (by omega) b hb hh⟩
theorem Mk.su {bs0 : List HB} {fr : List Fm} {v : V} {bs : List HB} {t : List Nat} {ex : Option (Nat × Nat)} (h : Mk bs0 fr v bs t ex) : su bs = su bs0 := by
 unfold Ko.su
 congr 1
 apply List.ext_getElem?
 intro i
 rw [List.getElem?_map,List.getElem?_map]
 by_cases hl : i < bs.length
 ·obtain ⟨b0,h1,h2⟩ := h.same i _ (List.getElem?_eq_getElem hl)
  rw [h1,List.getElem?_eq_getElem hl,h2];rfl
 ·rw [List.getElem?_eq_none (by omega),List.getElem?_eq_none (by have := h.len;omega)]
variable {κ : Kp} {X : St}
theorem TD.empty (h : RM s w r κ X) : RM s (w.alloc (.cells #[] 3 (0,0))) r (jq κ w.heap.size (9,0)) X /\ TD (w.alloc (.cells #[] 3 (0,0))) (jq κ w.heap.size (9,0)) (.slice (some ⟨w.heap.size,0,none⟩) 0 0) [] /\ Fr (fun _ => False) κ (jq κ w.heap.size (9,0)) w (w.alloc (.cells #[] 3 (0,0))) := by
 have hA := (Below.refl w.heap.size w).alloc jN (.cells #[] 3 (0,0))
 refine ⟨(h.on hA).tag _ (fun k i _ e => by rw [h.top _ jN] at e;cases e) (by simp),TR.new (World.ownsRow_made w #[] 0 (Nat.zero_le _) (Nat.zero_le _) rfl) rfl,(Fr.of hA).tags fun b hb => JG hb⟩
structure Gc (X : St) (fr : List Fm) (v : V) : Prop where
 used : X.x.used = su X.bs
 max : su X.bs <= 100000
 len : X.bs.length <= 100000
 free : X.free.length <= 100000
 gcs : X.x.gcs <= 1000000
 rc : ∀ (i : Nat) (b : HB),X.bs[i]? = some b -> b.rc = false
 more : Rb X.bs v
 flds : ∀ (i : Nat) (b : HB),X.bs[i]? = some b -> (∀ u ∈ b.fs,Rb X.bs u) /\ b.fs.length <= 100000
 held : ∀ (i : Nat) (b : HB),X.bs[i]? = some b -> 0 < b.held -> ∃ f ∈ fr,.b i ∈ f.sl
def Cl (X : St) (fr : List Fm) (v : V) (X' : St) : Prop := ∃ bs1 vf,X' = SwS { X with x := { X.x with gcs := X.x.gcs + 1 },bs := bs1 } bs1.length vf /\ Mk X.bs fr v bs1 [] none /\ Rt v bs1 bs1.length
set_option maxRecDepth 100000 in
theorem jlC (h : RM s w r κ X) {fr : List Fm} {v : V} (hG : Gc X fr v) :
 Calls Tryz.prog 104 #[.pointer (some ⟨r,23,none⟩),av v] w fun e w' => e = .returned (.tuple #[]) /\ Nw s κ w r (Cl X fr v) w' := by
 have H := jH h
 have HG := jH hG
 have hlt := h.lt
 have c25 : w.cell? ⟨r,25,none⟩ = some (.int .i64 X.x.gcs) := ja h.run 25 rfl
 have z25 := je h.run 25
 have hgm := hG.gcs
 have hcast : (((X.x.gcs + 1 : Nat)) : Int) = (X.x.gcs : Int) + 1 := by omega
 have hm1 : RM s (w.setCell ⟨r,25,none⟩ (.int .i64 ((X.x.gcs : Int) + 1))) r κ { X with x := { X.x with gcs := X.x.gcs + 1 } } :=
  h.upd (x' := { X.x with gcs := X.x.gcs + 1 }) (by rw [<- hcast];exact jf h.run 25 _) ((Lone.refl r w).set 25 _) rfl
 have hl1 := h.low ((Lone.refl r w).set 25 (.int .i64 ((X.x.gcs : Int) + 1)))
 obtain ⟨X1,hX1⟩ : ∃ X1 : St,X1 = { X with x := { X.x with gcs := X.x.gcs + 1 } } := ⟨_,rfl⟩
 rw [<- hX1] at hm1
 have hbs : X1.bs = X.bs := by rw [hX1]
 have hA := (Below.refl (w.setCell ⟨r,25,none⟩ (.int .i64 ((X.x.gcs : Int) + 1))).heap.size (w.setCell ⟨r,25,none⟩ (.int .i64 ((X.x.gcs : Int) + 1)))).alloc jN (.cells #[.bool (vb v),.int .i64 (vi v)] 78 (0,0))
 obtain ⟨m3,t3,f3⟩ := TD.empty (hm1.on hA)
 have hsz : ((w.setCell ⟨r,25,none⟩ (.int .i64 ((X.x.gcs : Int) + 1))).alloc (.cells #[.bool (vb v),.int .i64 (vi v)] 78 (0,0))).heap.size = w.heap.size + 1 := by simp [jy]
 rw [hsz] at m3 t3 f3
 have HF3 := jH ((Fr0.trans hl1 (Fr.of hA)).trans f3.all)
 have HC := jH (jc6 m3 t3 (Nat.zero_le _) v (by rw [hbs];exact hG.more))
 have HX1 := jH hX1
 have HBS := jH hbs
 have HM0 := jH (Mk.reach (u := v) (Mk.start fr v hG.rc) (fun i e => .more e))
 have HR0 : Hid (Rt v (jQ (X.bs,[]) v).1 0) := ⟨fun i e b hb => by
  have hl : i < X.bs.length := hG.more i e
  obtain ⟨c',h1,_,_,h4,_⟩ := J6 (X.bs,[]) v (List.getElem?_eq_getElem hl)
  rw [hb] at h1;cases h1
  exact h4 e,fun i hi => absurd hi (Nat.not_lt_zero _)⟩
 have HUN : ∀ bs : List HB,Hid (un bs <= bs.length) := fun bs => by
  show _ <= _
  unfold un
  induction bs with
  | nil => simp
  | cons a l ih => simp only [List.map_cons,List.sum_cons,List.length_cons];split <;> omega
 clear h hG hX1 hbs hA m3 t3 f3 hl1 hm1 hsz
 unfold av at *
 go_enter Tryz.func104,Tryz.ntmps104
 go_wp2_with (first
  | (go_at_call 117;refine HC.out.mono ?_;rintro _ w4 ⟨κ4,v4,rfl,hm4,ht4,hf4⟩))
 rw [HBS.out] at hm4 ht4
 have HM4 := jH hm4
 have HT4 := jH ht4
 have HF4 := jH (HF3.out.trans hf4.all)
 clear hm4 ht4 hf4 HC HF3 c25 z25 hcast
 have hnl := HG.out.len
 go_loopg [4,5] X.bs.length (fun gh s4 s5 (wr : World) => ∃ (i : Nat) (κi : Kp) (bs1 : List HB) (l : List Nat),i <= X.bs.length /\ gh = X.bs.length - i /\ s5 = .int .i64 i /\ RM s wr r κi { X1 with bs := bs1 } /\ TD wr κi s4 l /\ Fr0 κ κi w wr /\ Mk X.bs fr v bs1 l none /\ Rt v bs1 i /\ 2 * un bs1 + l.length <= 200000)
 case atStart =>
  refine ⟨0,κ4,_,_,Nat.zero_le _,rfl,rfl,HM4.out,HT4.out,HF4.out,HM0.out,HR0.out,?_⟩
  have h1 := jc7 (X.bs,[]) v
  have h2 := (HUN X.bs).out
  have h3 := HG.out.len
  simp only [List.length_nil] at h1
  omega
 case round =>
  obtain ⟨i,κi,bs1,l,hi,hgi,rfl,hm,ht,hf,hmk,hrt,hbd⟩ := hrel
  have HM := jH hm
  have HT := jH ht
  have HF := jH hf
  have HMK := jH hmk
  have HRT := jH hrt
  have HBD := jH hbd
  have hrl := hm.lt
  have hlen : bs1.length = X.bs.length := hmk.len
  obtain ⟨a6,p6,e6,hc6⟩ := hm.rows.bks.any
  have e6' : X1.x.vbk = .slice a6 X.bs.length p6 := by
   have : X1.x.vbk = .slice a6 bs1.length p6 := e6
   rw [this,hlen]
  have c26 : wr.cell? ⟨r,26,none⟩ = some (.slice a6 X.bs.length p6) := by rw [<- e6'];exact ja hm.run 26 rfl
  clear e6 hc6 hbd
  by_cases hl : i < X.bs.length
  ·have g1 : decide ((i : Int) < (X.bs.length : Int)) = true := by simp;omega
   have g2 : (i : Int) < (X.bs.length : Int) := by omega
   obtain ⟨b,hb⟩ : ∃ b,bs1[i]? = some b := ⟨_,List.getElem?_eq_getElem (by omega)⟩
   have HB := jH hb
   obtain ⟨g,cap,e,h2,h3,h4,h5,c0,c1,c2,c3,c4,fz⟩ := RM.bk (X := { X1 with bs := bs1 }) hm (i := i) (b := b) hb
   have e' : X1.x.vbk = .slice (some ⟨g,0,none⟩) bs1.length cap := e
   rw [e6',hlen] at e'
   cases e'
   have h2' : X.bs.length <= p6 := by rw [<- hlen];exact h2
   clear hm ht hf hmk hrt h2 h3 h5 c0 c1 c2 c4 fz e e6' hb
   by_cases hh : 0 < b.held
   ·have g3 : decide (0 < b.held) = true := by simpa using hh
    have HRB : Hid (∀ j,V.b i = .b j -> j < bs1.length) := fun j e => by cases e;omega
    have HLL : Hid (l.length <= 1000000) := by have := HBD.out;show _ <= _;omega
    have HRC : Hid (Rch (bkC (aB X.bs)) fr v i) := by
     show Rch _ _ _ _
     obtain ⟨b0,h1,h2⟩ := HMK.out.same i b HB.out
     obtain ⟨f,hf,hm⟩ := HG.out.held i b0 h1 (by rw [h2] at hh;exact hh)
     exact .slot hf hm
    go_wp2_with (first
     | (go_at_call 117;refine (jc6 HM.out HT.out HLL.out (.b i) HRB.out).mono ?_;rintro _ w5 ⟨κ5,v5,rfl,hm5,ht5,hf5⟩))
    go_roundg (X.bs.length - (i + 1))
    case measure => omega
    case rel =>
     refine ⟨i + 1,κ5,_,_,by omega,rfl,by simp,hm5,ht5,HF.out.trans hf5.all,HMK.out.reach (fun j e => by cases e;exact HRC.out),?_,?_⟩
     ·refine (HRT.out.reach _ _).next fun c hc _ => ?_
      obtain ⟨c',h1,_,_,h4,_⟩ := J6 (bs1,l) (.b i) HB.out
      rw [hc] at h1;cases h1
      exact h4 rfl
     ·have h1 := jc7 (bs1,l) (.b i)
      have h2 := HBD.out
      simp only at h1
      omega
   ·have g3 : decide (0 < b.held) = false := by simpa using hh
    have HHH := jH hh
    go_wp2_with fail
    go_roundg (X.bs.length - (i + 1))
    case measure => omega
    case rel =>
     exact ⟨i + 1,κi,bs1,l,by omega,rfl,by simp,HM.out,HT.out,HF.out,HMK.out,HRT.out.next (fun c hc h => by rw [HB.out] at hc;cases hc;exact absurd h (by have h9 := HHH.out;omega)),HBD.out⟩
  ·have hin : i = X.bs.length := by omega
   subst hin
   have g1 : decide ((X.bs.length : Int) < (X.bs.length : Int)) = false := by simp
   clear hm ht hf hmk hrt e6'
   go_wp2_with fail
   go_loopg [4] (2 * un bs1 + l.length) (fun gh s4 (wq : World) => ∃ (κi : Kp) (bs2 : List HB) (l2 : List Nat),gh = 2 * un bs2 + l2.length /\ RM s wq r κi { X1 with bs := bs2 } /\ TD wq κi s4 l2 /\ Fr0 κ κi w wq /\ Mk X.bs fr v bs2 l2 none /\ Rt v bs2 X.bs.length /\ gh <= 200000)
   case atStart =>
    exact ⟨κi,bs1,l,rfl,HM.out,HT.out,HF.out,HMK.out,HRT.out,HBD.out⟩
   case round =>
    obtain ⟨κq,bs2,l2,hgq,hm2,ht2,hf2,hmk2,hrt2,hbd2⟩ := hrel
    obtain ⟨wq,rfl⟩ : ∃ wq,wq = wr := ⟨_,rfl⟩
    have HM2 := jH hm2
    have HT2 := jH ht2
    have HF2 := jH hf2
    have HMK2 := jH hmk2
    have HRT2 := jH hrt2
    have hlen2 : bs2.length = X.bs.length := hmk2.len
    have hsu2 : su bs2 = su X.bs := hmk2.su
    clear hm2 hf2 hmk2 hrt2 HM HT HF HMK HRT HBD
    rcases List.eq_nil_or_concat l2 with hl2 | ⟨t2,a,hl2⟩
    ·subst hl2
     obtain ⟨a4,p4,e4,_⟩ := ht2.any
     subst e4
     have HSW := jH (jgg HM2.out (by show X1.x.used = su bs2;rw [hsu2,HX1.out];exact HG.out.used) (by show su bs2 <= _;rw [hsu2];exact HG.out.max) (by show bs2.length <= _;rw [hlen2];exact HG.out.len) (by show X1.free.length <= _;rw [HX1.out];exact HG.out.free))
     clear ht2 hsu2
     go_wp2_with (first
      | (go_at_call 119;refine HSW.out.mono ?_;rintro _ w6 ⟨rfl,κ6,X6,⟨vf,hX6⟩,hm6,hf6⟩))
     go_returns
     refine ⟨rfl,κ6,X6,⟨bs2,vf,?_,HMK2.out,by rw [hlen2];exact HRT2.out⟩,hm6,HF2.out.trans hf6⟩
     rw [hX6,HX1.out]
    ·rw [List.concat_eq_append] at hl2
     subst hl2
     have hn2 : (t2 ++ [a]).length = t2.length + 1 := by simp
     obtain ⟨g,cap,e4,h7,h8,h9⟩ := ht2.at (by rw [hn2];omega)
     subst e4
     have hT := ht2
     unfold TD at hT
     rw [hn2] at hT h7
     have d7 : wq.cell? ⟨g,t2.length,none⟩ = some (.int .i64 a) := hT.cell (by simp [jV])
     have HP : Hid (TD wq κq (.slice (some ⟨g,0,none⟩) t2.length cap) t2) := by
      have : jV (t2 ++ [a]) = jV t2 ++ [.int .i64 (a : Int)] := by simp [jV]
      rw [this] at hT
      exact hT.pop (by simp [jV])
     obtain ⟨b,hb,hbr⟩ := HMK2.out.tod a (by simp)
     obtain ⟨b0,hb0,hbe⟩ := HMK2.out.same a b hb
     have hfs : b.fs = b0.fs := by rw [hbe]
     have HB := jH hb
     have HBR := jH hbr
     have hbt : t2.length <= 200000 := by rw [hn2] at hgq;omega
     have HRF := jH (jhM HM2.out HP.out (by show 2 * un bs2 + t2.length <= _;rw [hn2] at hgq;omega) (a := a) (b := b) hb (by rw [hfs];intro u hu i e;show i < bs2.length;rw [hlen2];exact (HG.out.flds a b0 hb0).1 u hu i e) (by rw [hfs];exact (HG.out.flds a b0 hb0).2))
     have hgq2 : gk = 2 * un bs2 + t2.length + 1 := by rw [hn2] at hgq;omega
     rw [hn2] at *
     have g4 : (t2.length : Int) < (t2.length : Int) + 1 := by omega
     clear ht2 hsu2 hT h8 hb hbr hb0 hbe hfs hgq
     go_wp2_with (first
      | (go_at_call 118;refine HRF.out.mono ?_;rintro _ w6 ⟨κ6,v6,rfl,hm6,ht6,hf6⟩))
     go_roundg (2 * un (jS (bs2,t2) b.fs).1 + (jS (bs2,t2) b.fs).2.length)
     case measure =>
      have := jc8 (bs2,t2) b.fs
      simp only at this
      omega
     case rel =>
      refine ⟨κ6,_,_,rfl,hm6,ht6,HF2.out.trans hf6.all,HMK2.out.popped HB.out HBR.out,HRT2.out.reachL _ _,?_⟩
      have := jc8 (bs2,t2) b.fs
      simp only at this
      omega
theorem Tryz.kiV : (Tryz.prog.info? 78).map (fun i => (i.zero,i.size,i.bytes)) = some (some (.agg #[.bool false,.int .i64 0]),2,16) := by kernel_rfl
theorem Tryz.kuV : Tryz.prog.underlying 133 = some (.slice 78) := by kernel_rfl
def mdV (n : Nat) : Array Value := madeCells #[.bool false,.int .i64 0] (n * 2)
theorem jdd (n : Nat) : (mdV n).size = n * 2 := by unfold mdV madeCells;simp
theorem jeF (n : Nat) : (mdV n).toList = jv (List.replicate n z0) := by
 apply List.ext_getElem?
 intro j
 by_cases hj : j < n * 2
 ·obtain ⟨a,k,hk,rfl⟩ : ∃ a k,k < 2 /\ j = a * 2 + k := ⟨j / 2,j % 2,by omega,by omega⟩
  have ha : (List.replicate n z0)[a]? = some z0 := by rw [List.getElem?_replicate,if_pos (by omega)]
  have hv := Jj ha
  have h2 : (a * 2 + k) % 2 = k := by omega
  have : (mdV n).toList[a * 2 + k]? = some ((#[.bool false,.int .i64 0] : Array Value)[k]?.getD undef) := by
   unfold mdV madeCells
   rw [Array.getElem?_toList,Array.getElem?_map,Array.getElem?_range,if_pos hj]
   simp only [Option.map_some]
   rw [show (#[.bool false,.int .i64 0] : Array Value).size = 2 from rfl,h2]
   have hc : k = 0 \/ k = 1 := by omega
   rcases hc with rfl | rfl <;> rfl
  rw [this]
  have hc : k = 0 \/ k = 1 := by omega
  rcases hc with rfl | rfl
  ·exact hv.1.symm
  ·exact hv.2.symm
 ·rw [List.getElem?_eq_none (by rw [Array.length_toList,jdd];omega),List.getElem?_eq_none (by rw [jb1,List.length_replicate];omega)]
theorem jeN (n : Nat) (hn : n <= 70000) (w : World) : (Instr.makeSlice 133 (.int .i64 (n : Int)) (.int .i64 (n : Int))).run Tryz.prog w = .ok (.slice (some ⟨w.heap.size,0,none⟩) n n) (w.alloc (.cells (mdV n) 78)) := by
 obtain ⟨i,hi,hz,hs,hb⟩ := info_parts Tryz.kiV
 have hr := run_make (P := Tryz.prog) w 133 78 i _ Tryz.kuV hi hz .i64 .i64 n n (by omega) (Int.le_refl _) (by rw [hb];omega) (by omega)
 rw [hs] at hr
 simp only [Int.toNat_natCast] at hr
 exact hr
theorem jeE (w : World) (n : Nat) (hn : n <= 70000) : (w.alloc (.cells (mdV n) 78)).ownsRow 0 78 2 (.slice (some ⟨w.heap.size,0,none⟩) n n) n (jv (List.replicate n z0)) := by
 rw [<- jeF]
 exact World.ownsRow_lit w (mdV n) n (Nat.zero_le _) (by unfold maxLen;omega) (jdd n)
theorem TR.other {w w' : World} {t : Tg} {e : TypeId} {sz n b : Nat} {v : Value} {xs : List Value} (h : TR w κ t e sz v n xs) (hb : κ b ≠ some t) (hl : Lone b w w') : TR w' κ t e sz v n xs :=
 ⟨j3 h.own fun k hk => hl.rest k (h.own.lt k hk).2 (fun e => hb (e ▸ h.tag k hk)),h.tag⟩
theorem RM.other {w w' : World} (h : RM s w r κ X) {b : Nat} (hb : ∀ k i,k <= 8 -> κ b ≠ some (k,i)) (hl : Lone b w w') : RM s w' r κ X := by
 have hR := h.rows
 exact ⟨(hl.rest r h.lt (fun e => hb 0 0 (by omega) (e ▸ h.self))).trans h.run,h.self,⟨hR.frs.other (hb _ _ (by omega)) hl,fun i f hi => (hR.sls i f hi).other (hb _ _ (by omega)) hl,hR.bks.other (hb _ _ (by omega)) hl,fun i f hi => (hR.fds i f hi).other (hb _ _ (by omega)) hl,hR.fre.other (hb _ _ (by omega)) hl,hR.out.other (hb _ _ (by omega)) hl,hR.ins.other (hb _ _ (by omega)) hl,hR.cF.other (hb _ _ (by omega)) hl,hR.cN.other (hb _ _ (by omega)) hl,hR.cL.other (hb _ _ (by omega)) hl⟩,fun k hk => h.top k (Nat.le_trans hl.size hk)⟩
theorem Fr.new {S : Tg -> Prop} {κ κ1 : Kp} {w w1 w2 : World} (h : Fr S κ κ1 w w1) {b : Nat} (hb : w.heap.size <= b) (hl : Lone b w1 w2) : Fr S κ κ1 w w2 :=
 ⟨h.low.trans (hl.below.mono (Nat.zero_le _)),h.old,fun k hk hs => (hl.rest k (Nat.lt_of_lt_of_le hk h.low.size) (by omega)).trans (h.rest k hk hs)⟩
theorem jez {W : World} {tmps : Array Value} {b : Nat} {x0 x1 : Value} {bb : Bool} {t : TypeId} {Q : Ending -> World -> Prop} (ht : tmps.getD 8 undef = .pointer (some ⟨b,0,none⟩)) (h9 : tmps.getD 9 undef = .bool bb) (hb : W.heap[b]? = some (.cells #[x0,x1] t (0,0))) (hq : Q (.returned (.tuple #[.agg #[x0,x1],.bool bb])) W) :
 bodyPost Tryz.prog Tryz.f84 Q Exit.ret { tmps := tmps,defers := [] } W := by
 have c0 : W.cell? ⟨b,0,none⟩ = some x0 := ja hb 0 rfl
 have c1 : W.cell? ⟨b,1,none⟩ = some x1 := ja hb 1 rfl
 have ht' : tmps[8]?.getD undef = .pointer (some ⟨b,0,none⟩) := by simpa using ht
 have h9' : tmps[9]?.getD undef = .bool bb := by simpa using h9
 exact bodyPost_ret (v := .tuple #[.agg #[x0,x1],.bool bb]) (by simp [results,Tryz.results84,go_sem,ht',h9',c0,c1]) rfl hq
structure Nb (X : St) : Prop where
 used : X.x.used <= 100000
 half : X.x.half <= 4096
 blen : X.bs.length <= 100000
 flen : X.free.length <= 200000
 fmem : ∀ a ∈ X.free,a < X.bs.length
theorem jfc {bs : List HB} : ∀ {i a : Nat},a ∈ gvF bs i -> a < i
 | 0,a,h => by cases h
 | i + 1,a,h => by
   simp only [gvF,List.mem_append] at h
   rcases h with h | h
   ·exact Nat.lt_succ_of_lt (jfc h)
   ·split at h
    ·split at h
     ·simp at h;omega
     ·cases h
    ·cases h
theorem jcV (bs : List HB) : ∀ i,i <= bs.length -> su (swB bs i) <= su bs
 | 0,_ => by unfold swB;simp
 | i + 1,hi => by
   have ih := jcV bs i (by omega)
   obtain ⟨b,hb⟩ : ∃ b,bs[i]? = some b := ⟨_,List.getElem?_eq_getElem (by omega)⟩
   have h1 := jbs (b' := swp b) (jb6 hb)
   rw [jcT hb] at h1
   have h2 : hw (swp b) <= hw b := by
    unfold swp
    split
    ·exact Nat.zero_le _
    ·exact jN
   omega
theorem Cl.nb {X X1 : St} {fr : List Fm} {v : V} (hG : Gc X fr v) (hh : X.x.half <= 4096) (hf : ∀ a ∈ X.free,a < X.bs.length) (h : Cl X fr v X1) : Nb X1 := by
 obtain ⟨bs1,vf,rfl,hmk,hrt⟩ := h
 have h1 := jcV bs1 bs1.length jN
 have h2 := hmk.su
 have h3 := hG.max
 have h4 := hmk.len
 have h5 := hG.len
 have h6 := jdo bs1 bs1.length
 have h7 := hG.free
 refine ⟨?_,hh,?_,?_,fun a ha => ?_⟩
 ·show su (swB bs1 bs1.length) <= _;omega
 ·show (swB bs1 bs1.length).length <= _;rw [ja7];omega
 ·show (X.free ++ gvF bs1 bs1.length).length <= _;rw [List.length_append];omega
 ·show a < (swB bs1 bs1.length).length
  rw [ja7]
  have ha' : a ∈ X.free ++ gvF bs1 bs1.length := ha
  rw [List.mem_append] at ha'
  rcases ha' with h8 | h8
  ·rw [h4];exact hf a h8
  ·exact jfc h8
def Pre (X : St) (fr : List Fm) (v : V) (n : Nat) (X1 : St) : Prop := (X.x.half < X.x.used + n + 1 -> Cl X fr v X1) /\ (X.x.used + n + 1 <= X.x.half -> X1 = X)
def Pt (X1 : St) (n : Nat) (f : Int) (v : V) (a : Nat) (X2 : St) : Prop := ∃ v6 v7 vv,(X1.free = [] /\ a = X1.bs.length /\ X2 = { X1 with x := { X1.x with used := X1.x.used + n + 1,vbk := v6,vfree := v7 },bs := X1.bs ++ [⟨true,f,List.replicate n v,0,false,vv⟩] }) \/
 (∃ l,X1.free = l ++ [a] /\ X2 = { X1 with x := { X1.x with used := X1.x.used + n + 1,vbk := v6,vfree := v7 },bs := X1.bs.set a ⟨true,f,List.replicate n v,0,false,vv⟩,free := l })
def NbP (s : ByteArray) (κ : Kp) (w : World) (r : Nat) (X : St) (fr : List Fm) (v : V) (n : Nat) (f : Int) (e : Ending) (w' : World) : Prop :=
 ∃ X1,Pre X fr v n X1 /\ ((X1.x.half < X1.x.used + n + 1 /\ e = .returned (.tuple #[.agg #[.bool false,.int .i64 0],.bool false]) /\ ∃ κ',RM s w' r κ' X1 /\ Fr0 κ κ' w w') \/
   (X1.x.used + n + 1 <= X1.x.half /\ ∃ a,e = .returned (.tuple #[.agg #[.bool true,.int .i64 (a : Nat)],.bool true]) /\ Nw s κ w r (Pt X1 n f v a) w'))
def PL (X1 : St) (n : Nat) (f : Int) (v : V) (a : Nat) (X7 : St) : Prop := (∃ b7,X7.bs[a]? = some b7) /\ X7.bs.length <= 100001 /\ ∀ vv,Pt X1 n f v a { X7 with bs := X7.bs.set a ⟨true,f,List.replicate n v,0,false,vv⟩ }
theorem jh2 {X1 X : St} {n : Nat} {f : Int} {v : V} (hX : X = { X1 with x := { X1.x with used := X1.x.used + n + 1 } }) (hn : Nb X1) :
 ∃ a,∀ w,RM s w r κ X -> Calls Tryz.prog 105 #[.pointer (some ⟨r,23,none⟩)] w fun e w' => e = .returned (.int .i64 (a : Nat)) /\ Nw s κ w r (PL X1 n f v a) w' := by
 have hbs : X.bs = X1.bs := by rw [hX]
 have hfr : X.free = X1.free := by rw [hX]
 rcases List.eq_nil_or_concat X1.free with h1 | ⟨l,a,h1⟩
 ·refine ⟨X1.bs.length,fun w h => ?_⟩
  have := jh1 h (by rw [hfr];exact h1) (by rw [hbs];exact hn.blen)
  rw [hbs] at this
  refine this.mono ?_
  rintro e w' ⟨he,κ',X',⟨v',hX'⟩,hm,hf⟩
  have hb7 : X'.bs = X1.bs ++ [hb0] := by rw [hX',hX]
  refine ⟨he,κ',X',⟨⟨hb0,by rw [hb7];simp⟩,by rw [hb7];have := hn.blen;simp;omega,fun vv => ⟨v',X1.x.vfree,vv,.inl ⟨h1,rfl,?_⟩⟩⟩,hm,hf⟩
  rw [hX',hX]
  simp
 ·rw [List.concat_eq_append] at h1
  refine ⟨a,fun w h => ?_⟩
  have hal : a < X1.bs.length := hn.fmem a (by rw [h1];simp)
  refine (jh0 h (l := l) (a := a) (by rw [hfr];exact h1) (by have := hn.flen;rw [h1] at this;simp at this;omega)).mono ?_
  rintro e w' ⟨he,κ',X',⟨v',hX'⟩,hm,hf⟩
  have hb7 : X'.bs = X1.bs := by rw [hX',hX]
  refine ⟨he,κ',X',⟨⟨_,by rw [hb7];exact List.getElem?_eq_getElem hal⟩,by rw [hb7];have := hn.blen;omega,fun vv => ⟨X1.x.vbk,v',vv,.inr ⟨l,h1,?_⟩⟩⟩,hm,hf⟩
  rw [hX',hX]
theorem jhe {n i : Nat} {v : V} (h : i < n) : (List.replicate i v ++ List.replicate (n - i) z0).set i v = List.replicate (i + 1) v ++ List.replicate (n - (i + 1)) z0 := by
 rw [List.set_append_right _ _ (by simp),List.length_replicate,Nat.sub_self,show n - i = (n - (i + 1)) + 1 by omega,List.replicate_succ (n := n - (i + 1)),List.set_cons_zero,List.replicate_succ' (n := i),List.append_assoc]
 rfl
set_option maxRecDepth 100000 in
theorem jda (h : RM s w r κ X) {fr : List Fm} {v : V} (hG : Gc X fr v) {n : Nat} {f : Int} (hn : n <= 65536) (hh : X.x.half <= 4096) (hfm : ∀ a ∈ X.free,a < X.bs.length) :
 Calls Tryz.prog 84 #[.pointer (some ⟨r,23,none⟩),.int .i64 n,.int .i64 f,av v] w fun e w' => NbP s κ w r X fr v n f e w' := by
 have H := jH h
 have HG := jH hG
 have hu : X.x.used <= 100000 := by rw [hG.used];exact hG.max
 have hlt := h.lt
 have HNB0 : Hid (Nb X) := ⟨hu,hh,hG.len,Nat.le_trans hG.free (by omega),hfm⟩
 have HNB1 : Hid (∀ X1,Cl X fr v X1 -> Nb X1) := fun X1 => Cl.nb hG hh hfm
 obtain ⟨U,hU⟩ : ∃ U,X.x.used = U := ⟨_,rfl⟩
 obtain ⟨S,hS⟩ : ∃ S,X.x.half = S := ⟨_,rfl⟩
 have HU := jH hU
 have HS := jH hS
 have c24 : w.cell? ⟨r,24,none⟩ = some (.int .i64 U) := by rw [<- hU];exact ja h.run 24 rfl
 have c23 : w.cell? ⟨r,23,none⟩ = some (.int .i64 S) := by rw [<- hS];exact ja h.run 23 rfl
 rw [hU] at hu
 rw [hS] at hh
 have hk0 : κ w.heap.size = none := h.top _ jN
 have hk1 : κ (w.heap.size + 1) = none := h.top _ (Nat.le_succ _)
 clear h hG hU hS hfm
 unfold av
 go_enter Tryz.func84,Tryz.ntmps84
 go_wp2_with fail
 go_region
 rename_i Q' K1 hK1 K hK
 refine hK _ _ ?_
 clear hK K
 go_cut [] (fun wx => ∃ (κ1 : Kp) (X1 : St),Pre X fr v n X1 /\ Nb X1 /\ RM s wx r κ1 X1 /\ Fr0 κ κ1 w wx /\ wx.heap[w.heap.size]? = some (.cells #[.bool (vb v),.int .i64 (vi v)] 78 (0,0)) /\ wx.heap[w.heap.size + 1]? = some (.cells #[.bool false,.int .i64 0] 78 (0,0)) /\ κ1 w.heap.size = none /\ κ1 (w.heap.size + 1) = none)
 case first =>
  have hA : Below w.heap.size w ((w.alloc (.cells #[.bool (vb v),.int .i64 (vi v)] 78 (0,0))).alloc (.cells #[.bool false,.int .i64 0] 78 (0,0))).drew := ((jB.alloc jN _).alloc (by simp) _).drew
  have hx0 : ((w.alloc (.cells #[.bool (vb v),.int .i64 (vi v)] 78 (0,0))).alloc (.cells #[.bool false,.int .i64 0] 78 (0,0))).drew.heap[w.heap.size]? = some (.cells #[.bool (vb v),.int .i64 (vi v)] 78 (0,0)) := jc (jg w _) ((Below.refl (w.alloc _).heap.size (w.alloc _)).alloc jN _).drew (by simp)
  have hx1 : ((w.alloc (.cells #[.bool (vb v),.int .i64 (vi v)] 78 (0,0))).alloc (.cells #[.bool false,.int .i64 0] 78 (0,0))).drew.heap[w.heap.size + 1]? = some (.cells #[.bool false,.int .i64 0] 78 (0,0)) := j9 (w := w.alloc _) (by simp)
  generalize ((w.alloc (.cells #[.bool (vb v),.int .i64 (vi v)] 78 (0,0))).alloc (.cells #[.bool false,.int .i64 0] 78 (0,0))).drew = W at hA hx0 hx1 ⊢
  have HA := jH hA
  have HX0 := jH hx0
  have HX1 := jH hx1
  have q0 : W.cell? ⟨w.heap.size,0,none⟩ = some (.bool (vb v)) := ja hx0 0 rfl
  have q1 : W.cell? ⟨w.heap.size,1,none⟩ = some (.int .i64 (vi v)) := ja hx0 1 rfl
  clear hA hx0 hx1
  by_cases hb : S < U + n + 1
  ·have HC := jH (jlC (H.out.on HA.out) HG.out)
   unfold av at HC
   have HB := jH hb
   go_wp2_with (first
    | (go_at_call 104;refine HC.out.mono ?_;rintro _ w3 ⟨rfl,κ3,X3,hc3,hm3,hf3⟩))
   go_meet
   exact ⟨κ3,X3,⟨fun _ => hc3,fun h => by rw [HU.out,HS.out] at h;have := HB.out;omega⟩,HNB1.out X3 hc3,hm3,Fr0.trans (Fr.of HA.out) hf3,hf3.blk HX0.out hk0,hf3.blk HX1.out hk1,hf3.none HX0.out hk0,hf3.none HX1.out hk1⟩
  ·have HB := jH hb
   go_wp2_with fail
   go_meet
   exact ⟨κ,X,⟨fun h => by rw [HU.out,HS.out] at h;exact absurd h HB.out,fun _ => rfl⟩,HNB0.out,H.out.on HA.out,Fr.of HA.out,HX0.out,HX1.out,hk0,hk1⟩
 case rest =>
  obtain ⟨κ1,X1,hpre,hnb,hm,hf,hx0,hx1,hk10,hk11⟩ := hcut
  have HM := jH hm
  have HF := jH hf
  have HPR := jH hpre
  have HNB := jH hnb
  have HX0 := jH hx0
  have HX1 := jH hx1
  obtain ⟨U1,hU1⟩ : ∃ U1,X1.x.used = U1 := ⟨_,rfl⟩
  obtain ⟨S1,hS1⟩ : ∃ S1,X1.x.half = S1 := ⟨_,rfl⟩
  have HU1 := jH hU1
  have HS1 := jH hS1
  have hu1 : U1 <= 100000 := by rw [<- hU1];exact hnb.used
  have hs1 : S1 <= 4096 := by rw [<- hS1];exact hnb.half
  have c24' : wc.cell? ⟨r,24,none⟩ = some (.int .i64 U1) := by rw [<- hU1];exact ja hm.run 24 rfl
  have c23' : wc.cell? ⟨r,23,none⟩ = some (.int .i64 S1) := by rw [<- hS1];exact ja hm.run 23 rfl
  have z24' := je hm.run 24
  obtain ⟨q0,q1,q3,q4,q5,q6⟩ := Jk hx1
  have hlw := jb hx1
  have hrw := hm.lt
  clear hm hf hpre hnb hx0 hx1 hU1 hS1 c24 c23 HNB0 HNB1 HG H hh hu HU HS hk0 hk1
  refine hK1 _ _ ?_
  clear hK1 K1
  have g0 : decide ((n : Int) < 0) = false := by simp
  by_cases hb : S1 < U1 + n + 1
  ·have HB := jH hb
   have g1 : decide ((S1 : Int) < (U1 : Int) + (n : Int) + 1) = true := by simp;omega
   go_wp2_with fail
   go_region
   rename_i Q2 K2 hK2
   refine hK2 _ _ ?_
   go_wp2_with fail
   have hL : Lone (w.heap.size + 1) wc (((wc.setCell ⟨w.heap.size + 1,0,none⟩ (.bool false)).setCell ⟨w.heap.size + 1,1,none⟩ (.int .i64 0)).drew) := (((Lone.refl _ wc).set 0 _).set 1 _).drew
   refine jez rfl rfl (JF HX1.out _ _) ⟨X1,HPR.out,.inl ⟨by rw [HU1.out,HS1.out];exact HB.out,rfl,κ1,HM.out.other (fun k i _ e => by rw [hk11] at e;cases e) hL,Fr.new HF.out (Nat.le_succ _) hL⟩⟩
  ·have hb' : U1 + n + 1 <= S1 := by omega
   have HB := jH hb'
   have g1 : decide ((S1 : Int) < (U1 : Int) + (n : Int) + 1) = false := by simp;omega
   have hmk := jeN n (by omega)
   go_wp2_with fail
   go_region
   rename_i Q2 K2 hK2
   refine hK2 _ _ ?_
   go_wp2_with fail
   have hcast : (((U1 + n + 1 : Nat)) : Int) = (U1 : Int) + ((n : Int) + 1) := by omega
   obtain ⟨X5,hX5⟩ : ∃ X5 : St,X5 = { X1 with x := { X1.x with used := X1.x.used + n + 1 } } := ⟨_,rfl⟩
   have hm5 : RM s (wc.setCell ⟨r,24,none⟩ (.int .i64 ((U1 : Int) + ((n : Int) + 1)))) r κ1 X5 := by
    rw [hX5,HU1.out]
    exact HM.out.upd (x' := { X1.x with used := U1 + n + 1 }) (by rw [<- hcast];exact jf HM.out.run 24 _) ((Lone.refl r wc).set 24 _) rfl
   have hf5 : Fr0 κ1 κ1 wc _ := HM.out.low ((Lone.refl r wc).set 24 (.int .i64 ((U1 : Int) + ((n : Int) + 1))))
   have hs5 : (wc.setCell ⟨r,24,none⟩ (.int .i64 ((U1 : Int) + ((n : Int) + 1)))).heap.size = wc.heap.size := jy _ _ _
   have hown := jeE (wc.setCell ⟨r,24,none⟩ (.int .i64 ((U1 : Int) + ((n : Int) + 1)))) n (by omega)
   have hA5 := (Below.refl (wc.setCell ⟨r,24,none⟩ (.int .i64 ((U1 : Int) + ((n : Int) + 1)))).heap.size (wc.setCell ⟨r,24,none⟩ (.int .i64 ((U1 : Int) + ((n : Int) + 1))))).alloc jN (.cells (mdV n) 78)
   have hm6 := ((hm5.on hA5).tag (b := wc.heap.size) (9,1) (fun k i _ e => by rw [HM.out.top _ jN] at e;cases e) (by simp [hs5])).drew
   rw [hs5] at hown
   have T6 : TR _ (jq κ1 wc.heap.size (9,1)) (9,1) 78 2 (.slice (some ⟨wc.heap.size,0,none⟩) n n) n (jv (List.replicate n z0)) := (TR.new hown rfl : TR _ (jq κ1 wc.heap.size (9,1)) _ _ _ _ _ _)
   have T6' := T6.keep (S := fun _ => False) (Fr.refl _ _ _).drew (fun h => h)
   have hk20 : jq κ1 wc.heap.size (9,1) w.heap.size = none := by rw [JG (by omega)];exact hk10
   have hk21 : jq κ1 wc.heap.size (9,1) (w.heap.size + 1) = none := by rw [JG (by omega)];exact hk11
   have hk22 : jq κ1 wc.heap.size (9,1) wc.heap.size = some (9,1) := by unfold jq;rw [if_pos rfl]
   have hy0 : ((wc.setCell ⟨r,24,none⟩ (.int .i64 ((U1 : Int) + ((n : Int) + 1)))).alloc (.cells (mdV n) 78)).drew.heap[w.heap.size]? = some (.cells #[.bool (vb v),.int .i64 (vi v)] 78 (0,0)) := jc (hf5.blk HX0.out hk10) hA5.drew (by rw [hs5];omega)
   have hy1 : ((wc.setCell ⟨r,24,none⟩ (.int .i64 ((U1 : Int) + ((n : Int) + 1)))).alloc (.cells (mdV n) 78)).drew.heap[w.heap.size + 1]? = some (.cells #[.bool false,.int .i64 0] 78 (0,0)) := jc (hf5.blk HX1.out hk11) hA5.drew (by rw [hs5];omega)
   have hf6 : Fr0 κ (jq κ1 wc.heap.size (9,1)) w ((wc.setCell ⟨r,24,none⟩ (.int .i64 ((U1 : Int) + ((n : Int) + 1)))).alloc (.cells (mdV n) 78)).drew := by
    have h1 : Fr0 κ κ1 w ((wc.setCell ⟨r,24,none⟩ (.int .i64 ((U1 : Int) + ((n : Int) + 1)))).alloc (.cells (mdV n) 78)).drew := Fr.drew (Fr0.trans (Fr0.trans HF.out hf5) (Fr.of hA5))
    refine Fr.tags h1 fun b hb => ?_
    rw [JG (by have := HF.out.low.size;omega)]
    exact HF.out.old b hb
   generalize ((wc.setCell ⟨r,24,none⟩ (.int .i64 ((U1 : Int) + ((n : Int) + 1)))).alloc (.cells (mdV n) 78)).drew = w5 at hm6 T6' hf6 hy0 hy1 ⊢
   obtain ⟨a,hpl⟩ := jh2 (s := s) (r := r) (κ := jq κ1 wc.heap.size (9,1)) (f := f) (v := v) hX5 HNB.out
   obtain ⟨gf,hgf⟩ : ∃ gf,wc.heap.size = gf := ⟨_,rfl⟩
   rw [hgf] at hm6 T6' hf6 hpl hk20 hk21 hk22 ⊢
   generalize jq κ1 gf (9,1) = κ2 at hm6 T6' hf6 hpl hk20 hk21 hk22
   have HM5 := jH hm6
   have HT5 := jH T6'
   have HF5 := jH hf6
   have HPL := jH hpl
   have HY0 := jH hy0
   have HY1 := jH hy1
   have hlg : w.heap.size + 1 < gf := by omega
   clear hm5 hf5 hs5 hown hA5 hm6 T6 T6' hf6 hpl hy0 hy1 hX5 q0 q1 q3 q4 q5 q6 c23' c24' z24' HM HX0 HX1 hk10 hk11 hmk hK2 K2
   go_loopg [11] n (fun gh s11 (wr : World) => ∃ i : Nat,i <= n /\ gh = n - i /\ s11 = .int .i64 i /\ RM s wr r κ2 X5 /\ TR wr κ2 (9,1) 78 2 (.slice (some ⟨gf,0,none⟩) n n) n (jv (List.replicate i v ++ List.replicate (n - i) z0)) /\ Lone gf w5 wr)
   case atStart =>
    exact ⟨0,Nat.zero_le _,rfl,rfl,HM5.out,HT5.out,Lone.refl _ _⟩
   case round =>
    obtain ⟨i,hi,hgi,rfl,hm,ht,hf⟩ := hrel
    have HM := jH hm
    have HT := jH ht
    have HF6 := jH hf
    have hx0 := (hf.rest _ (jb HY0.out) (by omega)).trans HY0.out
    have hx1 := (hf.rest _ (jb HY1.out) (by omega)).trans HY1.out
    have e0 : wr.cell? ⟨w.heap.size,0,none⟩ = some (.bool (vb v)) := ja hx0 0 rfl
    have e1 : wr.cell? ⟨w.heap.size,1,none⟩ = some (.int .i64 (vi v)) := ja hx0 1 rfl
    have hgl := (ht.own.lt gf rfl).2
    by_cases hl : i < n
    ·have g3 : decide ((i : Int) < (n : Int)) = true := by simp;omega
     have g4 : (i : Int) < (n : Int) := by omega
     have hiz : (List.replicate i v ++ List.replicate (n - i) z0)[i]? = some z0 := by
      rw [List.getElem?_append_right (by simp),List.length_replicate,Nat.sub_self,List.getElem?_replicate,if_pos (by omega)]
     have d0 : wr.cell? ⟨gf,i * 2,none⟩ = some (.bool (vb z0)) := ht.cell (Jj hiz).1
     have d1 : wr.cell? ⟨gf,i * 2 + 1,none⟩ = some (.int .i64 (vi z0)) := ht.cell (Jj hiz).2
     have y0 := ht.frz (i * 2)
     have y1 := ht.frz (i * 2 + 1)
     obtain ⟨T1,t1⟩ := ht.set (i * 2) (.bool (vb v))
     obtain ⟨T2,t2⟩ := T1.set (i * 2 + 1) (.int .i64 (vi v))
     rw [ja5 (by simp;omega),jhe hl] at T2
     have HT2 := jH T2
     have hL : Lone gf wr ((wr.setCell ⟨gf,i * 2,none⟩ (.bool (vb v))).setCell ⟨gf,i * 2 + 1,none⟩ (.int .i64 (vi v))) := ((Lone.refl _ _).set _ _).set _ _
     have HF7 := jH (hf.trans hL)
     have HM7 := jH (hm.other (fun k j hk e => by rw [hk22] at e;cases e;omega) hL)
     clear hm ht hf hx0 hx1 T1 t1 T2 t2 hL hiz
     go_wp2_with fail
     go_roundg (n - (i + 1))
     case measure => omega
     case rel =>
      exact ⟨i + 1,by omega,rfl,by simp,HM7.out,HT2.out,HF7.out⟩
    ·have hin : i = n := by omega
     subst hin
     have g3 : decide ((i : Int) < (i : Int)) = false := by simp
     have HX0 := jH hx0
     have HX1 := jH hx1
     clear hm ht hf hx0 hx1
     go_upto_region 12 with (first
      | (go_at_call 105;refine (HPL.out _ HM.out).mono ?_;rintro _ w7 ⟨rfl,κ7,X7,hpl7,hm7,hf7⟩))
     obtain ⟨⟨b7,hb7⟩,hbl7,hpt⟩ := hpl7
     obtain ⟨g7,cap7,e7,h72,h73,h74,h75,_⟩ := hm7.bk hb7
     have c26 : w7.cell? ⟨r,26,none⟩ = some (.slice (some ⟨g7,0,none⟩) X7.bs.length cap7) := by rw [<- e7];exact ja hm7.run 26 rfl
     have g5 : (a : Int) < (X7.bs.length : Int) := by omega
     have T7 := HT.out.keep hf7 (by simp)
     have hgr : gf < wr.heap.size := hgl
     have hk7 : κ7 gf = some (9,1) := (hf7.old gf hgr).trans hk22
     have hlg7 : gf < w7.heap.size := Nat.lt_of_lt_of_le hgr hf7.low.size
     have hm8 := hm7.tag (b := gf) (4,a) (fun k j hk e => by rw [hk7] at e;cases e;omega) hlg7
     have T8 : TR w7 (jq κ7 gf (4,a)) (4,a) 78 2 (.slice (some ⟨gf,0,none⟩) i i) i (jv (List.replicate i v)) := by
      have h1 := T7.own
      rw [Nat.sub_self,List.replicate_zero,List.append_nil] at h1
      exact TR.new h1 rfl
     have hx7 := hf7.blk HX1.out hk21
     have hk7n : jq κ7 gf (4,a) (w.heap.size + 1) = none := by rw [JG hlg];exact hf7.none HX1.out hk21
     have HM8 := jH hm8
     have HT8 := jH T8
     have HB7 := jH hb7
     have HE7 := jH e7
     have HX7 := jH hx7
     have HPT := jH hpt
     have HF7 : Hid (Fr0 κ (jq κ7 gf (4,a)) w w7) := by
      show Fr0 _ _ _ _
      have h1 : Fr0 κ κ7 w w7 := Fr0.trans (Fr.new HF5.out (by omega) HF6.out) hf7
      refine Fr.tags h1 fun b hb => ?_
      rw [JG (by omega)]
      exact h1.old b hb
     clear hpt hb7 e7 hm7 hf7 T7 hm8 T8 hx7 h73
     go_wp2_with (first
      | (show wpList _ _ _ (Oper.mk none (Op.store 174 (.tmp 76) (.tmp 75)) _ _ _ _ :: _) _ _;refine jdK (op := ⟨none,Op.store 174 (.tmp 76) (.tmp 75),_,_,_,_⟩) HM8.out ⟨true,f,List.replicate i v,0,false,.slice (some ⟨gf,0,none⟩) i i⟩ HB7.out HE7.out (by rw [List.length_replicate];exact HT8.out) rfl (.tmp 76) (.tmp 75) rfl rfl rfl rfl ?_;intro w8 X8 hX8 hm8 hf8;have hx8 := hf8.blk HX7.out hk7n;obtain ⟨r0,r1,r3,r4,r5,r6⟩ := Jk hx8;have HX8 := jH hX8;have HM9 := jH hm8;have HF8 := jH hf8;have HY8 := jH hx8;clear hX8 hm8 hf8 hx8))
     have hL : Lone (w.heap.size + 1) w8 ((w8.setCell ⟨w.heap.size + 1,0,none⟩ (.bool true)).setCell ⟨w.heap.size + 1,1,none⟩ (.int .i64 (a : Int))) := ((Lone.refl _ _).set 0 _).set 1 _
     refine jez rfl rfl (JF HY8.out _ _) ⟨X1,HPR.out,.inr ⟨by rw [HU1.out,HS1.out];exact HB.out,a,rfl,_,X8,?_,HM9.out.other (fun k j _ e => by rw [hk7n] at e;cases e) hL,Fr.new (Fr0.trans HF7.out HF8.out.all) (Nat.le_succ _) hL⟩⟩
     rw [HX8.out]
     exact HPT.out _
theorem Tryz.kiF : (Tryz.prog.info? 135).map (fun i => (i.zero,i.size,i.bytes)) = some (some (.agg #[.int .i64 0,.slice none 0 0]),2,32) := by kernel_rfl
theorem Tryz.kuF : Tryz.prog.underlying 80 = some (.slice 135) := by kernel_rfl
theorem jfh (h : RM s w r κ X) {k : Nat} (hk : k < hF s) : ∃ v0 v1 v2,w.cell? ⟨r,0,none⟩ = some v0 /\ w.cell? ⟨r,1,none⟩ = some v1 /\ w.cell? ⟨r,2,none⟩ = some v2 /\
 ∀ W,Below w.heap.size w W -> Calls Tryz.prog 66 #[.agg #[v0,v1,v2],.int .i64 k] W fun e w' => e = .returned (.agg #[.int .i64 (r0 s k),.int .i64 (r1 s k),.int .i64 (r2 s k),.int .i64 (r3 s k)]) /\ Below W.heap.size W w' := by
 have hFl : hF s < 65536 := ju _ _
 obtain ⟨g,c,e0,h1,_,h3⟩ := h.rows.cF.at (by omega)
 obtain ⟨a1,c1,e1,_⟩ := h.rows.cN.any
 obtain ⟨a2,c2,e2,_⟩ := h.rows.cL.any
 have hT := h.rows.cF
 rw [e0] at hT
 have hc : ∀ o,o < 4 -> w.cell? ⟨g,k * 4 + o,none⟩ = (cF s k)[o]? := fun o ho => by
  rw [hT.own.cellAt _ (by omega)]
  exact Jq (jcD s) ho (hF s) hk
 refine ⟨_,_,_,ja h.run 0 rfl,ja h.run 1 rfl,ja h.run 2 rfl,fun W hW => ?_⟩
 show Calls _ _ #[.agg #[X.x.vF,X.x.vN,X.x.vL],_] _ _
 rw [e0,e1,e2]
 have hg := Nat.lt_of_lt_of_le h3 hW.size
 exact jdq (by omega) hk h1 hg ((hW.cell (p := ⟨g,_,none⟩) h3).trans (hc 0 (by omega))) ((hW.cell (p := ⟨g,_,none⟩) h3).trans (hc 1 (by omega))) ((hW.cell (p := ⟨g,_,none⟩) h3).trans (hc 2 (by omega))) ((hW.cell (p := ⟨g,_,none⟩) h3).trans (hc 3 (by omega)))
structure EnW (s : ByteArray) (w : World) (r : Nat) (κ : Kp) (X : St) (f q back : Nat) (row : Array Value) (vs : Value) (W : World) (κ2 : Kp) : Prop where
 low : Below w.heap.size w W
 rb : W.heap[f]? = some (.cells row 124 (0,0))
 fb : W.heap[f + 1]? = some (.cells #[.int .i64 (back : Int),vs] 135 (0,0))
 rm : RM s W r κ2 X
 fr : Fr0 κ κ2 w W
 sl : TR W κ2 (2,X.fs.length) 78 2 vs q (jv (List.replicate q z0))
 k0 : κ2 f = none
 k1 : κ2 (f + 1) = none
 wf : w.heap.size <= f
 one : vs.oneCell' = true
theorem jkm {w w1 : World} (h : RM s w r κ X) (hb : Below w.heap.size w w1) (back : Nat) (row : Array Value) :
 EnW s w r κ X w1.heap.size 0 back row (.slice none 0 0) ((w1.alloc (.cells row 124 (0,0))).alloc (.cells #[.int .i64 (back : Int),.slice none 0 0] 135 (0,0))) κ := by
 have hA2 := ((Below.refl w1.heap.size w1).alloc jN (.cells row 124 (0,0))).alloc (by simp) (.cells #[.int .i64 (back : Int),.slice none 0 0] 135 (0,0))
 have hW := hb.trans (hA2.mono hb.size)
 exact ⟨hW,jc (jg w1 _) ((Below.refl (w1.alloc _).heap.size (w1.alloc _)).alloc jN _) (by simp),j9 (w := w1.alloc _) (by simp),h.on hW,Fr.of hW,TR.nil _ _ _ _ _,h.top _ hb.size,h.top _ (Nat.le_succ_of_le hb.size),hb.size,rfl⟩
theorem jkn {w w1 : World} (h : RM s w r κ X) (hb : Below w.heap.size w w1) (back : Nat) (row : Array Value) {q : Nat} (hq : q <= 70000) :
 EnW s w r κ X w1.heap.size q back row (.slice (some ⟨w1.heap.size + 1 + 1,0,none⟩) q q) (((w1.alloc (.cells row 124 (0,0))).alloc (.cells #[.int .i64 (back : Int),.slice (some ⟨w1.heap.size + 1 + 1,0,none⟩) q q] 135 (0,0))).alloc (.cells (mdV q) 78 (0,0))) (jq κ (w1.heap.size + 1 + 1) (2,X.fs.length)) := by
 have hA2 := ((Below.refl w1.heap.size w1).alloc jN (.cells row 124 (0,0))).alloc (by simp) (.cells #[.int .i64 (back : Int),.slice (some ⟨w1.heap.size + 1 + 1,0,none⟩) q q] 135 (0,0))
 have hA3 := hA2.alloc (by simp;omega) (.cells (mdV q) 78 (0,0))
 have hW := hb.trans (hA3.mono hb.size)
 have hown := jeE ((w1.alloc (.cells row 124 (0,0))).alloc (.cells #[.int .i64 (back : Int),.slice (some ⟨w1.heap.size + 1 + 1,0,none⟩) q q] 135 (0,0))) q hq
 simp only [World.size_alloc] at hown
 have hs := hb.size
 have hsz : ((w1.alloc (.cells row 124 (0,0))).alloc (.cells #[.int .i64 (back : Int),.slice (some ⟨w1.heap.size + 1 + 1,0,none⟩) q q] 135 (0,0))).heap.size = w1.heap.size + 1 + 1 := by simp
 have hA4 := (Below.refl ((w1.alloc (.cells row 124 (0,0))).alloc (.cells #[.int .i64 (back : Int),.slice (some ⟨w1.heap.size + 1 + 1,0,none⟩) q q] 135 (0,0))).heap.size ((w1.alloc (.cells row 124 (0,0))).alloc (.cells #[.int .i64 (back : Int),.slice (some ⟨w1.heap.size + 1 + 1,0,none⟩) q q] 135 (0,0)))).alloc jN (.cells (mdV q) 78 (0,0))
 refine ⟨hW,jc (jc (jg w1 _) ((Below.refl (w1.alloc _).heap.size (w1.alloc _)).alloc jN _) (by simp)) hA4 (by rw [hsz];omega),jc (j9 (w := w1.alloc _) (by simp)) hA4 (by rw [hsz];omega),(h.on hW).tag _ (fun k i _ e => by rw [h.top _ (by omega)] at e;cases e) (by simp),Fr.tags (Fr.of hW) (fun b hb' => JG (by omega)),TR.new hown rfl,?_,?_,hs,rfl⟩
 ·rw [JG (by omega)];exact h.top _ hs
 ·rw [JG (by omega)];exact h.top _ (by omega)
set_option maxRecDepth 100000 in
theorem jbQ {X : St} (h : RM s w r κ X) {k : Nat} (hk : k < hF s) (hr3 : r3 s k <= 65536) (hfl : X.fs.length <= 1000) (back : Nat) :
 Calls Tryz.prog 45 #[.pointer (some ⟨r,0,none⟩),.int .i64 k,.int .i64 back] w fun e w' => e = .returned (.tuple #[]) /\ Nw s κ w r (fun X' => ∃ vf v,X' = { X with x := { X.x with vfr := vf,next := r0 s k },fs := X.fs ++ [⟨back,List.replicate (r3 s k) z0,v⟩] }) w' := by
 have H := jH h
 have hlt := h.lt
 obtain ⟨v0,v1,v2,c0,c1,c2,hC⟩ := jfh h hk
 have HC := jH hC
 obtain ⟨i0,hi0,hz0,hz1,hz2⟩ := info_parts Tryz.kiF
 obtain ⟨q0,hq0⟩ : ∃ q,r0 s k = q := ⟨_,rfl⟩
 obtain ⟨q3,hq3⟩ : ∃ q,r3 s k = q := ⟨_,rfl⟩
 rw [hq0,hq3] at HC ⊢
 rw [hq3] at hr3
 generalize r1 s k = q1 at HC
 generalize r2 s k = q2 at HC
 have hmk := jeN q3 (by omega)
 clear h hC hq0 hq3
 go_enter Tryz.func45,Tryz.ntmps45
 go_upto_region 4 with (first
  | (go_at_call 66;refine (HC.out _ jB).mono ?_;rintro _ w1 ⟨rfl,hb1⟩))
 ·have hE := jkn H.out hb1 back #[.int .i64 (q0 : Int),.int .i64 (q1 : Int),.int .i64 (q2 : Int),.int .i64 (q3 : Int)] (q := q3) (by omega)
  generalize ((w1.alloc (.cells #[.int .i64 (q0 : Int),.int .i64 (q1 : Int),.int .i64 (q2 : Int),.int .i64 (q3 : Int)] 124 (0,0))).alloc (.cells #[.int .i64 (back : Int),.slice (some ⟨w1.heap.size + 1 + 1,0,none⟩) q3 q3] 135 (0,0))).alloc (.cells (mdV q3) 78 (0,0)) = W at hE ⊢
  generalize jq κ (w1.heap.size + 1 + 1) (2,X.fs.length) = κ2 at hE
  generalize Value.slice (some ⟨w1.heap.size + 1 + 1,0,none⟩) q3 q3 = vs at hE ⊢
  have hrm := hE.rm
  have hrl := hrm.lt
  have c22 : W.cell? ⟨r,22,none⟩ = some X.x.vfr := ja hrm.run 22 rfl
  have y0 : W.cell? ⟨w1.heap.size + 1,0,none⟩ = some (.int .i64 (back : Int)) := ja hE.fb 0 rfl
  have y1 : W.cell? ⟨w1.heap.size + 1,1,none⟩ = some vs := ja hE.fb 1 rfl
  have HE := jH hE
  have HRM := jH hrm
  have hone : ∀ u ∈ [Value.int .i64 (back : Int),vs],u.oneCell' = true := by
   intro u hu
   simp only [List.mem_cons,List.not_mem_nil,or_false] at hu
   rcases hu with rfl | rfl
   ·rfl
   ·exact hE.one
  have HONE := jH hone
  have hfw := jb hE.fb
  clear hE hrm hone c0 c1 c2
  go_region_law ((refine step_append_lies _ (by rfl) (.tmp 27) (.tmp 29) 80 (by rfl) 0 135 i0 _ 2 32 Tryz.kuF hi0 hz0 hz1 hz2 rfl (by decide) X.x.vfr X.fs.length (X.fs.flatMap fxC) (by rfl) (HRM.out.rows.frs.own.alloc _) ⟨W.heap.size,0,none⟩ 1 1 [.int .i64 (back : Int),vs] (by rfl) (by rfl) (Ja _ _ _ _ (by simp)) HONE.out (by decide) (by unfold maxLen;omega) (by omega) (by simp) _ rfl ?_;intro g c w4 hown4 hgrow hat hlt4;have hb4 : Below W.heap.size W (W.alloc (.cells #[.int .i64 (back : Int),vs] 135)).drew := (jB.alloc jN _).drew;have hr4 := HRM.out.run_grown hb4 hgrow HRM.out.rows.frs.tag (by decide);have q22 : w4.cell? ⟨r,22,none⟩ = some X.x.vfr := ja hr4 22 rfl;have y22 := je hr4 22;obtain ⟨κ4,hm4,hf4⟩ := HRM.out.growF (b := ⟨back,List.replicate q3 z0,vs⟩) (by simp only [List.length_replicate];exact HE.out.sl) hb4 hown4 hgrow (hat.imp (fun h => h.symm) (fun h => by rw [h];rfl));have HM4 := jH hm4;have HF4 := jH hf4;have hrb4 := hf4.blk HE.out.rb HE.out.k0;have p0 : (w4.setCell ⟨r,22,none⟩ (.slice (some ⟨g,0,none⟩) (X.fs.length + 1) c)).cell? ⟨w1.heap.size,0,none⟩ = some (.int .i64 (q0 : Int)) := ja hrb4 0 rfl;have p5 : (w4.setCell ⟨r,22,none⟩ (.slice (some ⟨g,0,none⟩) (X.fs.length + 1) c)).cell? ⟨r,5,none⟩ = some (.int .i64 X.x.next) := ja hm4.run 5 rfl;have p6 := je hm4.run 5;clear hm4 hf4 hrb4 hr4 hown4 hgrow hat))
  all_goals
   rename_i Q' K hK
   refine hK _ _ ?_
   clear hK
   clear K
   go_wp2
   go_returns
   exact ⟨rfl,κ4,_,⟨.slice (some ⟨g,0,none⟩) (X.fs.length + 1) c,vs,rfl⟩,HM4.out.upd (x' := { X.x with vfr := .slice (some ⟨g,0,none⟩) (X.fs.length + 1) c,next := q0 }) (jf HM4.out.run 5 _) ((Lone.refl _ _).set 5 _) rfl,(HE.out.fr.trans HF4.out.all).trans (HM4.out.low ((Lone.refl _ _).set 5 _))⟩
 ·have hz1' : q3 = 0 := by omega
  subst hz1'
  have hE := jkm H.out hb1 back #[.int .i64 (q0 : Int),.int .i64 (q1 : Int),.int .i64 (q2 : Int),.int .i64 ((0 : Nat) : Int)]
  generalize ((w1.alloc (.cells #[.int .i64 (q0 : Int),.int .i64 (q1 : Int),.int .i64 (q2 : Int),.int .i64 ((0 : Nat) : Int)] 124 (0,0))).alloc (.cells #[.int .i64 (back : Int),.slice none 0 0] 135 (0,0))) = W at hE ⊢
  generalize Value.slice none 0 0 = vs at hE ⊢
  have hrm := hE.rm
  have hrl := hrm.lt
  have c22 : W.cell? ⟨r,22,none⟩ = some X.x.vfr := ja hrm.run 22 rfl
  have y0 : W.cell? ⟨w1.heap.size + 1,0,none⟩ = some (.int .i64 (back : Int)) := ja hE.fb 0 rfl
  have y1 : W.cell? ⟨w1.heap.size + 1,1,none⟩ = some vs := ja hE.fb 1 rfl
  have HE := jH hE
  have HRM := jH hrm
  have hone : ∀ u ∈ [Value.int .i64 (back : Int),vs],u.oneCell' = true := by
   intro u hu
   simp only [List.mem_cons,List.not_mem_nil,or_false] at hu
   rcases hu with rfl | rfl
   ·rfl
   ·exact hE.one
  have HONE := jH hone
  have hfw := jb hE.fb
  clear hE hrm hone c0 c1 c2
  go_region_law ((refine step_append_lies _ (by rfl) (.tmp 27) (.tmp 29) 80 (by rfl) 0 135 i0 _ 2 32 Tryz.kuF hi0 hz0 hz1 hz2 rfl (by decide) X.x.vfr X.fs.length (X.fs.flatMap fxC) (by rfl) (HRM.out.rows.frs.own.alloc _) ⟨W.heap.size,0,none⟩ 1 1 [.int .i64 (back : Int),vs] (by rfl) (by rfl) (Ja _ _ _ _ (by simp)) HONE.out (by decide) (by unfold maxLen;omega) (by omega) (by simp) _ rfl ?_;intro g c w4 hown4 hgrow hat hlt4;have hb4 : Below W.heap.size W (W.alloc (.cells #[.int .i64 (back : Int),vs] 135)).drew := (jB.alloc jN _).drew;have hr4 := HRM.out.run_grown hb4 hgrow HRM.out.rows.frs.tag (by decide);have q22 : w4.cell? ⟨r,22,none⟩ = some X.x.vfr := ja hr4 22 rfl;have y22 := je hr4 22;obtain ⟨κ4,hm4,hf4⟩ := HRM.out.growF (b := ⟨back,List.replicate 0 z0,vs⟩) (by simp only [List.length_replicate];exact HE.out.sl) hb4 hown4 hgrow (hat.imp (fun h => h.symm) (fun h => by rw [h];rfl));have HM4 := jH hm4;have HF4 := jH hf4;have hrb4 := hf4.blk HE.out.rb HE.out.k0;have p0 : (w4.setCell ⟨r,22,none⟩ (.slice (some ⟨g,0,none⟩) (X.fs.length + 1) c)).cell? ⟨w1.heap.size,0,none⟩ = some (.int .i64 (q0 : Int)) := ja hrb4 0 rfl;have p5 : (w4.setCell ⟨r,22,none⟩ (.slice (some ⟨g,0,none⟩) (X.fs.length + 1) c)).cell? ⟨r,5,none⟩ = some (.int .i64 X.x.next) := ja hm4.run 5 rfl;have p6 := je hm4.run 5;clear hm4 hf4 hrb4 hr4 hown4 hgrow hat))
  all_goals
   rename_i Q' K hK
   refine hK _ _ ?_
   clear hK
   clear K
   go_wp2
   go_returns
   exact ⟨rfl,κ4,_,⟨.slice (some ⟨g,0,none⟩) (X.fs.length + 1) c,vs,rfl⟩,HM4.out.upd (x' := { X.x with vfr := .slice (some ⟨g,0,none⟩) (X.fs.length + 1) c,next := q0 }) (jf HM4.out.run 5 _) ((Lone.refl _ _).set 5 _) rfl,(HE.out.fr.trans HF4.out.all).trans (HM4.out.low ((Lone.refl _ _).set 5 _))⟩
theorem jar (h : RM s w r κ X) {n : Nat} (hn : n < 8) :
 Calls Tryz.prog 80 #[.pointer (some ⟨r,0,none⟩),.int .i64 n] w fun e w' => e = .returned (.agg #[.bool (vb (X.x.g n)),.int .i64 (vi (X.x.g n))]) /\ Below w.heap.size w w' := jhg h.run hn
def JU (X : St) (n : Nat) (v : V) : St := { X with x := { X.x with g := upd X.x.g n v } }
theorem J5 (h : RM s w r κ X) {n : Nat} (hn : n < 8) (v : V) :
 Calls Tryz.prog 79 #[.pointer (some ⟨r,0,none⟩),.int .i64 n,.agg #[.bool (vb v),.int .i64 (vi v)]] w fun e w' => e = .returned (.tuple #[]) /\ RM s w' r κ (JU X n v) /\ Fr0 κ κ w w' :=
 (jgA h.run hn v).mono fun e w' ⟨h1,h2,h3⟩ => ⟨h1,h.upd h2 h3 rfl,h.low h3⟩
theorem jbD (z : Int) (w : World) : Calls Tryz.prog 82 #[.int .i64 z] w fun e w' => e = .returned (.agg #[.bool false,.int .i64 z]) /\ Below w.heap.size w w' := by
 go_enter Tryz.func82,Tryz.ntmps82
 go_wp2
 go_returns
 exact ⟨rfl,jB.alloc jN _⟩
def tru (b : Bool) : Int := if b then 1 else 0
theorem jf2 (b : Bool) (w : World) : Calls Tryz.prog 103 #[.bool b] w fun e w' => e = .returned (.int .i64 (tru b)) /\ w' = w := by
 cases b
 all_goals
  go_enter Tryz.func103,Tryz.ntmps103
  go_wp2
  go_ret
  exact ⟨rfl,rfl⟩
theorem jb0 (z : Int) : wrap64 (wrap64 z * 2) / 2 = w63 z := by unfold wrap64 w63;omega
set_option maxRecDepth 100000 in
theorem jek {op : Nat} {a b : Int} (ho : 7 <= op /\ op <= 16) (ha : inR a) (hb : inR b) (hz : op = 10 \/ op = 11 -> b ≠ 0) (w : World) : Calls Tryz.prog 83 #[.int .i64 op,.int .i64 a,.int .i64 b] w fun e w' => e = .returned (.int .i64 (wrap64 (ar op a b))) /\ w' = w := by
 have hop : op = 7 \/ op = 8 \/ op = 9 \/ op = 10 \/ op = 11 \/ op = 12 \/ op = 13 \/ op = 14 \/ op = 15 \/ op = 16 := by omega
 have CT := jH jf2
 unfold inR at ha hb
 have hw : ∀ z : Int,-9223372036854775808 <= z -> z <= 9223372036854775807 -> wrap64 z = z := fun z h1 h2 => by unfold wrap64;omega
 have HW := jH hw
 clear hw ho
 have hz' : ∀ h : op = 10 \/ op = 11,(b == 0) = false := fun h => by simpa using hz h
 have HDV : Hid (b ≠ 0 -> -9223372036854775808 <= a.tdiv b /\ a.tdiv b <= 9223372036854775807 /\ -9223372036854775808 <= a.tmod b /\ a.tmod b <= 9223372036854775807) := fun h => by
  have h1 := Int.natAbs_tdiv_le_natAbs a b
  have h2 : (a.tmod b).natAbs <= a.natAbs := by rw [Int.natAbs_tmod];exact Nat.mod_le _ _
  omega
 rcases hop with rfl | rfl | rfl | rfl | rfl | rfl | rfl | rfl | rfl | rfl
 ·clear hz hz'
  go_enter Tryz.func83,Tryz.ntmps83
  go_wp2_with fail
  go_ret
  exact ⟨jR (HW.out _ (by show _ <= a + b;omega) (by show a + b <= _;omega)).symm,rfl⟩
 ·clear hz hz'
  go_enter Tryz.func83,Tryz.ntmps83
  go_wp2_with fail
  go_ret
  exact ⟨jR (HW.out _ (by show _ <= a - b;omega) (by show a - b <= _;omega)).symm,rfl⟩
 ·clear hz hz'
  go_enter Tryz.func83,Tryz.ntmps83
  go_wp2_with fail
  go_ret
  exact ⟨jR rfl,rfl⟩
 ·have hb0 := hz' (by omega)
  have hb1 := hz (by omega)
  have hD := HDV.out hb1
  clear hz hz'
  go_enter Tryz.func83,Tryz.ntmps83
  go_wp2_with fail
  go_ret
  exact ⟨jR (HW.out _ hD.1 hD.2.1).symm,rfl⟩
 ·have hb0 := hz' (by omega)
  have hb1 := hz (by omega)
  have hD := HDV.out hb1
  clear hz hz'
  go_enter Tryz.func83,Tryz.ntmps83
  go_wp2_with fail
  go_ret
  exact ⟨jR (HW.out _ hD.2.2.1 hD.2.2.2).symm,rfl⟩
 ·clear hz hz'
  have HE : Hid (wrap64 (ar 12 a b) = tru (a == b)) := by show _ = _;unfold ar tru;by_cases h : a = b <;> simp [h,wrap64]
  go_enter Tryz.func83,Tryz.ntmps83
  go_wp2_with (first
   | (go_at_call 103;refine (CT.out _ _).mono ?_;rintro _ w1 ⟨rfl,rfl⟩))
  go_ret
  exact ⟨jR HE.out.symm,rfl⟩
 ·clear hz hz'
  have HE : Hid (wrap64 (ar 13 a b) = tru (decide (a < b))) := by show _ = _;unfold ar tru;by_cases h : a < b <;> simp [h,wrap64]
  go_enter Tryz.func83,Tryz.ntmps83
  go_wp2_with (first
   | (go_at_call 103;refine (CT.out _ _).mono ?_;rintro _ w1 ⟨rfl,rfl⟩))
  go_ret
  exact ⟨jR HE.out.symm,rfl⟩
 ·clear hz hz'
  have HE : Hid (wrap64 (ar 14 a b) = tru (decide (a <= b))) := by show _ = _;unfold ar tru;by_cases h : a <= b <;> simp [h,wrap64]
  go_enter Tryz.func83,Tryz.ntmps83
  go_wp2_with (first
   | (go_at_call 103;refine (CT.out _ _).mono ?_;rintro _ w1 ⟨rfl,rfl⟩))
  go_ret
  exact ⟨jR HE.out.symm,rfl⟩
 ·clear hz hz'
  go_enter Tryz.func83,Tryz.ntmps83
  go_wp2_with fail
  go_ret
  exact ⟨jR (HW.out _ (by show _ <= -a;omega) (by show -a <= _;omega)).symm,rfl⟩
 ·clear hz hz'
  have HE : Hid (wrap64 (ar 16 a b) = tru (a == 0)) := by show _ = _;unfold ar tru;by_cases h : a = 0 <;> simp [h,wrap64]
  go_enter Tryz.func83,Tryz.ntmps83
  go_wp2_with (first
   | (go_at_call 103;refine (CT.out _ _).mono ?_;rintro _ w1 ⟨rfl,rfl⟩))
  go_ret
  exact ⟨jR HE.out.symm,rfl⟩
theorem jlB {g n c i nn cn nl cl : Nat} {an al : Option Addr} {a0 : Int} (hn : n <= 70000) (hi : i < n) (hc : n <= c) (hg : g < w.heap.size) (d0 : w.cell? ⟨g,i,none⟩ = some (.int .i64 a0)) :
 Calls Tryz.prog 100 #[.agg #[.slice an nn cn,.slice (some ⟨g,0,none⟩) n c,.slice al nl cl],.int .i64 i] w fun e w' => e = .returned (.int .i64 a0) /\ Below w.heap.size w w' := by
 have g1 : decide ((n : Int) <= (i : Int)) = false := by simp;omega
 have g2 : (i : Int) < (n : Int) := by omega
 go_enter Tryz.func100,Tryz.ntmps100
 go_wp2
 go_returns
 exact ⟨rfl,jB.alloc jN _⟩
theorem jZ (h : RM s w r κ X) {n : Nat} (hn : n < 8) {u : V} (hg : X.x.g n = u) : Hid (jC w 80 #[.pointer (some ⟨r,0,none⟩),.int .i64 n] (.agg #[.bool (vb u),.int .i64 (vi u)])) := fun W hW => by have := jar (h.on hW) hn;rw [hg] at this;exact this
theorem jbz (h : RM s w r κ X) {n : Nat} (hn : n < 8) {z : Int} (hg : X.x.g n = .n z) : Hid (jC w 80 #[.pointer (some ⟨r,0,none⟩),.int .i64 n] (.agg #[.bool false,.int .i64 z])) := fun W hW => by have := jar (h.on hW) hn;rw [hg] at this;exact this
theorem jc4 (h : RM s w r κ X) {n : Nat} (hn : n < 8) {i : Nat} (hg : X.x.g n = .b i) : Hid (jC w 80 #[.pointer (some ⟨r,0,none⟩),.int .i64 n] (.agg #[.bool true,.int .i64 i])) := fun W hW => by have := jar (h.on hW) hn;rw [hg] at this;exact this
theorem jcB (h : RM s w r κ X) : ∃ v0 v1 v2,w.cell? ⟨r,0,none⟩ = some v0 /\ w.cell? ⟨r,1,none⟩ = some v1 /\ w.cell? ⟨r,2,none⟩ = some v2 /\
 (∀ k,k < hF s -> ∀ W,Below w.heap.size w W -> Calls Tryz.prog 66 #[.agg #[v0,v1,v2],.int .i64 (k : Nat)] W fun e w' => e = .returned (.agg #[.int .i64 (r0 s k),.int .i64 (r1 s k),.int .i64 (r2 s k),.int .i64 (r3 s k)]) /\ Below W.heap.size W w') /\
 (∀ k,k < hN s -> ∀ W,Below w.heap.size w W -> Calls Tryz.prog 100 #[.agg #[v0,v1,v2],.int .i64 (k : Nat)] W fun e w' => e = .returned (.int .i64 (kn s k)) /\ Below W.heap.size W w') /\
 (∀ k,k < hL s -> ∀ W,Below w.heap.size w W -> Calls Tryz.prog 50 #[.agg #[v0,v1,v2],.int .i64 (k : Nat)] W fun e w' => e = .returned (.agg #[.int .i64 (l0 s k),.int .i64 (l1 s k),.int .i64 (l2 s k),.int .i64 (l3 s k),.int .i64 (l4 s k)]) /\ Below W.heap.size W w') := by
 have hFl : hF s < 65536 := ju _ _
 have hNl : hN s < 65536 := ju _ _
 have hLl : hL s < 65536 := ju _ _
 refine ⟨_,_,_,ja h.run 0 rfl,ja h.run 1 rfl,ja h.run 2 rfl,fun k hk W hW => ?_,fun k hk W hW => ?_,fun k hk W hW => ?_⟩
 ·obtain ⟨v0,v1,v2,c0,c1,c2,hC⟩ := jfh h hk
  have e0 := c0.symm.trans (ja h.run 0 rfl)
  have e1 := c1.symm.trans (ja h.run 1 rfl)
  have e2 := c2.symm.trans (ja h.run 2 rfl)
  cases e0;cases e1;cases e2
  exact hC W hW
 ·show Calls _ _ #[.agg #[X.x.vF,X.x.vN,X.x.vL],_] _ _
  obtain ⟨a0,c0,e0,_⟩ := h.rows.cF.any
  obtain ⟨g,c,e1,h1,_,h3⟩ := h.rows.cN.at (by omega)
  obtain ⟨a2,c2,e2,_⟩ := h.rows.cL.any
  have hT := h.rows.cN
  rw [e1] at hT
  have hc : w.cell? ⟨g,k,none⟩ = some (.int .i64 (kn s k)) := by
   rw [hT.own.cellAt _ (by omega)]
   have := Jq (f := cN s) (w := 1) (fun _ => rfl) (o := 0) (i := k) (by omega) (hN s) hk
   rw [Nat.mul_one,Nat.add_zero] at this
   exact this
  rw [e0,e1,e2]
  exact jlB (by omega) hk h1 (Nat.lt_of_lt_of_le h3 hW.size) ((hW.cell (p := ⟨g,_,none⟩) h3).trans hc)
 ·show Calls _ _ #[.agg #[X.x.vF,X.x.vN,X.x.vL],_] _ _
  obtain ⟨a0,c0,e0,_⟩ := h.rows.cF.any
  obtain ⟨a1,c1,e1,_⟩ := h.rows.cN.any
  obtain ⟨g,c,e2,h1,_,h3⟩ := h.rows.cL.at (by omega)
  have hT := h.rows.cL
  rw [e2] at hT
  have hc : ∀ o,o < 5 -> w.cell? ⟨g,k * 5 + o,none⟩ = (cL s k)[o]? := fun o ho => by
   rw [hT.own.cellAt _ (by omega)]
   exact Jq (f := cL s) (w := 5) (fun _ => rfl) ho (hL s) hk
  rw [e0,e1,e2]
  exact jeV (by omega) hk h1 (Nat.lt_of_lt_of_le h3 hW.size) ((hW.cell (p := ⟨g,_,none⟩) h3).trans (hc 0 (by omega))) ((hW.cell (p := ⟨g,_,none⟩) h3).trans (hc 1 (by omega))) ((hW.cell (p := ⟨g,_,none⟩) h3).trans (hc 2 (by omega))) ((hW.cell (p := ⟨g,_,none⟩) h3).trans (hc 3 (by omega))) ((hW.cell (p := ⟨g,_,none⟩) h3).trans (hc 4 (by omega)))
end Ko
end Go.Proofs.YtjmgolahkgalbaaGreatDoor
