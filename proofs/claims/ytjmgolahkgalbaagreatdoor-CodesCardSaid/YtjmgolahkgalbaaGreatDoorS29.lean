import Derived.Test.YtjmgolahkgalbaaGreatDoorS28
set_option linter.unusedVariables false
set_option linter.unusedSimpArgs false
set_option maxHeartbeats 20000000
namespace Go.Proofs.YtjmgolahkgalbaaGreatDoor
namespace Ko
open Go.RowKit Li
variable {s : ByteArray} {w : World} {m : Nat}
variable {κ : Kp} {Y : Dt}
theorem DM.rg (h : DM s w m κ Y) (hl : Y.regs.length = 8) :
 ∃ g cap,Y.x.vrg = .slice (some ⟨g,0,none⟩) 8 cap /\ 8 <= cap /\ κ g = some (17,0) /\ g < w.heap.size /\ w.cell? ⟨m,6,none⟩ = some (.slice (some ⟨g,0,none⟩) 8 cap) /\ (∀ i u,Y.regs[i]? = some u -> w.cell? ⟨g,i * 2,none⟩ = some (.bool (vb u)) /\ w.cell? ⟨g,i * 2 + 1,none⟩ = some (.int .i64 (vi u))) /\ ∀ j,w.frozen? ⟨g,j,none⟩ = false := by
 obtain ⟨g,cap,e,h1,h2,h3⟩ := h.rows.rgs.at (by omega)
 have hT := h.rows.rgs
 rw [e] at hT
 rw [hl] at e h1
 refine ⟨g,cap,e,h1,h2,h3,by rw [<- e];exact ja h.mac 6 rfl,fun i u hu => ⟨hT.cell (Jj hu).1,hT.cell (Jj hu).2⟩,hT.frz⟩
def pcS (Y : Dt) (n : Nat) : Dt := { Y with x := { Y.x with pc := n } }
theorem DM.pc (h : DM s w m κ Y) (n : Nat) : DM s (w.setCell ⟨m,7,none⟩ (.int .i64 n)) m κ (pcS Y n) /\ Fr0 κ κ w (w.setCell ⟨m,7,none⟩ (.int .i64 n)) :=
 ⟨h.upd (x' := { Y.x with pc := n }) (jf h.mac 7 _) ((Lone.refl _ _).set 7 _) rfl,h.low ((Lone.refl _ _).set 7 _)⟩
variable {l : List HX} {f : HX}
theorem jg8 (h : DM s w m κ Y) (hf : Y.fs = l ++ [f]) (hl : l.length <= 1000) (hp : 0 < l.length) :
 Calls Tryz.prog 37 #[.pointer (some ⟨m,0,none⟩)] w fun e w' => ∃ v,DOk s κ w m (pcS (jax Y l v) f.back) e w' := by
 have H := jH h
 have hlen : Y.fs.length = l.length + 1 := by rw [hf];simp
 obtain ⟨a,c,e,_⟩ := h.rows.frs.any
 rw [hlen] at e
 have c5 : w.cell? ⟨m,5,none⟩ = some (.slice a (l.length + 1) c) := by rw [<- e];exact ja h.mac 5 rfl
 have g1 : decide ((1 : Int) < (l.length : Int) + 1) = true := by simp;omega
 have CL := jH (jeX h hf hl)
 clear h hf e hlen
 go_enter Tryz.func37,Tryz.ntmps37
 go_wp2_with (first
  | (go_at_call 63;refine CL.out.mono ?_;rintro _ w2 ⟨rfl,v,hm2,hf2⟩;have c7 : w2.cell? ⟨m,7,none⟩ = some (.int .i64 Y.x.pc) := ja hm2.mac 7 rfl;have z7 := je hm2.mac 7;have HM2 := jH hm2;have HF2 := jH hf2;clear hm2 hf2))
 go_returns
 obtain ⟨h1,h2⟩ := HM2.out.pc f.back
 exact ⟨v,rfl,κ,h1,Fr0.trans HF2.out h2⟩
theorem jcQ {u : V} {t : TypeId} : VL (w.alloc (.cells #[.bool (vb u),.int .i64 (vi u)] t (0,0))) w.heap.size [u] := by
 intro i v hi
 have : i = 0 := by
  have := (jG hi).1
  simp at this;exact this
 subst this
 simp at hi
 subst hi
 exact ja (jg w _) 0 rfl
theorem jfV {u v : V} {t : TypeId} : VL (w.alloc (.cells #[.bool (vb u),.int .i64 (vi u),.bool (vb v),.int .i64 (vi v)] t (0,0))) w.heap.size [u,v] := by
 intro i z hi
 have : i = 0 \/ i = 1 := by
  have := (jG hi).1
  simp at this;omega
 rcases this with rfl | rfl
 ·simp at hi
  subst hi
  exact ja (jg w _) 0 rfl
 ·simp at hi
  subst hi
  exact ja (jg w _) 2 rfl
theorem jha (h : DM s w m κ Y) (hr : Y.regs.length = 8) {u : V} (hf : Y.fs = [f]) (hu : Y.regs[0]? = some u) (hb : vb u = true) :
 Calls Tryz.prog 37 #[.pointer (some ⟨m,0,none⟩)] w (DOk s κ w m (jF Y 50 0)) := by
 have H := jH h
 have hlen : Y.fs.length = 1 := by rw [hf];rfl
 obtain ⟨a,c,e,_⟩ := h.rows.frs.any
 rw [hlen] at e
 have c5 : w.cell? ⟨m,5,none⟩ = some (.slice a 1 c) := by rw [<- e];exact ja h.mac 5 rfl
 obtain ⟨g,cap,_,h1,_,hg,c6,hc,_⟩ := h.rg hr
 obtain ⟨d0,d1⟩ := hc 0 u hu
 rw [Nat.zero_mul] at d0 d1
 have hlt := h.lt
 have hA := (Below.refl w.heap.size w).alloc jN (.cells #[.bool (vb u),.int .i64 (vi u)] 89 (0,0))
 have HA := jH hA
 have CN := jH (jat (h.on hA) (g := w.heap.size) (l := [u]) (by simp) jcQ (by simp) (k := 0) (t := u) rfl hb (fun i u h => absurd h (Nat.not_lt_zero _)))
 clear h hf e hlen hu hc hA hb
 go_enter Tryz.func37,Tryz.ntmps37
 go_wp2_with (first
  | (go_at_call 28;refine CN.out.mono ?_;rintro _ w2 ⟨rfl,h2,f2⟩))
 go_returns
 exact ⟨rfl,κ,h2,Fr0.trans (Fr.of HA.out) f2⟩
def jkp (Y : Dt) (z : Int) : Dt := { Y with x := { Y.x with val := z } }
theorem jg6 (h : DM s w m κ Y) (hr : Y.regs.length = 8) {z : Int} (hf : Y.fs = [f]) (hu : Y.regs[0]? = some (.n z)) :
 Calls Tryz.prog 37 #[.pointer (some ⟨m,0,none⟩)] w (DOk s κ w m (jkp (jF Y 0 0) z)) := by
 have H := jH h
 have hlen : Y.fs.length = 1 := by rw [hf];rfl
 obtain ⟨a,c,e,_⟩ := h.rows.frs.any
 rw [hlen] at e
 have c5 : w.cell? ⟨m,5,none⟩ = some (.slice a 1 c) := by rw [<- e];exact ja h.mac 5 rfl
 obtain ⟨g,cap,eg,h1,_,hg,c6,hc,_⟩ := h.rg hr
 obtain ⟨d0,d1⟩ := hc 0 _ hu
 rw [Nat.zero_mul] at d0 d1
 have hlt := h.lt
 have hA := (Below.refl w.heap.size w).alloc jN (.cells #[.bool false,.int .i64 z] 89 (0,0))
 have HA := jH hA
 have CN : Hid (Calls Tryz.prog 28 #[.pointer (some ⟨m,0,none⟩),.slice (some ⟨w.heap.size,0,none⟩) 1 1] (w.alloc (.cells #[.bool false,.int .i64 z] 89 (0,0))) fun e w' => e = .returned (.bool true) /\ w' = w.alloc (.cells #[.bool false,.int .i64 z] 89 (0,0))) := jaU (h.on hA) (g := w.heap.size) (l := [.n z]) (by simp) (jcQ (u := .n z)) (by simp) (fun u hu => by simp at hu;subst hu;rfl)
 have CS := jH (Jf (h.on hA) 0 0)
 have HU := jH hu
 have HR := jH hr
 have HEG := jH eg
 clear h hf e hlen hu hc hA eg
 go_enter Tryz.func37,Tryz.ntmps37
 go_wp2_with (first
  | (go_at_call 28;refine CN.out.mono ?_;rintro _ w2 ⟨rfl,hw2⟩;subst hw2)
  | (go_at_call 33;refine CS.out.mono ?_;rintro _ w3 ⟨rfl,h3,f3⟩;obtain ⟨g3,cap3,eg3,h13,hkk,hg3,c63,hc3,hff⟩ := h3.rg HR.out;obtain ⟨d03,d13⟩ := hc3 0 _ HU.out;rw [Nat.zero_mul] at d03 d13;have c12 : w3.cell? ⟨m,12,none⟩ = some (.int .i64 Y.x.val) := ja h3.mac 12 rfl;have z12 := je h3.mac 12;have HM3 := jH h3;have HF3 := jH f3;clear h3 f3 eg3 hkk hc3 hff))
 go_returns
 have hL : Lone m w3 (w3.setCell ⟨m,12,none⟩ (.int .i64 z)) := (Lone.refl _ _).set 12 _
 exact ⟨rfl,κ,HM3.out.upd (x' := { (jF Y 0 0).x with val := z }) (jf HM3.out.mac 12 _) hL rfl,Fr0.trans (Fr0.trans (Fr.of HA.out) HF3.out) (HM3.out.low hL)⟩
theorem jlZ (h : DM s w m κ Y) {k : Nat} (hk : k < hF s) (hr3 : r3 s k <= 65536) (hf : Y.fs = l ++ [f]) (hl : l.length <= 1000) :
 Calls Tryz.prog 36 #[.pointer (some ⟨m,0,none⟩),.int .i64 k,.bool true] w fun e w' => e = .returned (.tuple #[]) /\ DNw s κ w m (fun Y' => ∃ v0 vf b v,Y' = JT s (jax Y l v0) k f.back vf b v) w' := by
 have CL := jH (jeX h hf hl)
 have HK := jH hk
 have HR := jH hr3
 clear h hf hk hr3
 go_enter Tryz.func36,Tryz.ntmps36
 go_wp2_with (first
  | (go_at_call 63;refine CL.out.mono ?_;rintro _ w2 ⟨rfl,v0,hm2,hf2⟩)
  | (go_at_call 25;refine (jdu hm2 HK.out HR.out hl f.back).mono ?_;rintro _ w3 ⟨rfl,κ3,Y3,⟨vf,b,v,hY3⟩,h3,f3⟩))
 go_returns
 exact ⟨rfl,κ3,Y3,⟨v0,vf,b,v,hY3⟩,h3,Fr0.trans hf2 f3⟩
theorem jl0 (h : DM s w m κ Y) {k : Nat} (hd : Y.fs.length = Y.x.depth) :
 Calls Tryz.prog 36 #[.pointer (some ⟨m,0,none⟩),.int .i64 k,.bool false] w (DOk s κ w m (jF Y 41 0)) := by
 have H := jH h
 have hlt := h.lt
 obtain ⟨a,c,e,_⟩ := h.rows.frs.any
 have c5 : w.cell? ⟨m,5,none⟩ = some (.slice a Y.fs.length c) := by rw [<- e];exact ja h.mac 5 rfl
 have c2 : w.cell? ⟨m,2,none⟩ = some (.int .i64 Y.fs.length) := by rw [hd];exact ja h.mac 2 rfl
 clear h e hd
 go_enter Tryz.func36,Tryz.ntmps36
 go_wp2_with fail
 go_region
 rename_i K hK
 refine hK _ _ ?_
 go_wp2_with (first
  | (go_at_call 33;refine (Jf H.out.drew 41 0).mono ?_;rintro _ w3 ⟨rfl,h3,f3⟩))
 go_returns
 exact ⟨rfl,κ,h3,Fr0.trans (Fr.drew (Fr.refl _ _ _)) f3⟩
theorem jlX (h : DM s w m κ Y) {k : Nat} (hk : k < hF s) (hr3 : r3 s k <= 65536) (hd : Y.fs.length ≠ Y.x.depth) (hl : Y.fs.length <= 1000) :
 Calls Tryz.prog 36 #[.pointer (some ⟨m,0,none⟩),.int .i64 k,.bool false] w fun e w' => e = .returned (.tuple #[]) /\ DNw s κ w m (fun Y' => ∃ vf b v,Y' = JT s Y k Y.x.pc vf b v) w' := by
 have H := jH h
 have hlt := h.lt
 obtain ⟨a,c,e,_⟩ := h.rows.frs.any
 obtain ⟨D,hD⟩ : ∃ D,Y.x.depth = D := ⟨_,rfl⟩
 obtain ⟨N,hN⟩ : ∃ N,Y.x.pc = N := ⟨_,rfl⟩
 have c5 : w.cell? ⟨m,5,none⟩ = some (.slice a Y.fs.length c) := by rw [<- e];exact ja h.mac 5 rfl
 have c2 : w.cell? ⟨m,2,none⟩ = some (.int .i64 D) := by rw [<- hD];exact ja h.mac 2 rfl
 have c7 : w.cell? ⟨m,7,none⟩ = some (.int .i64 N) := by rw [<- hN];exact ja h.mac 7 rfl
 rw [hD] at hd
 have g1 : ((Y.fs.length : Int) == (D : Int)) = false := by rw [beq_eq_false_iff_ne];omega
 have CE : Hid (Calls Tryz.prog 25 #[.pointer (some ⟨m,0,none⟩),.int .i64 k,.int .i64 N] w.drew fun e w' => e = .returned (.tuple #[]) /\ DNw s κ w.drew m (fun Y' => ∃ vf b v,Y' = JT s Y k Y.x.pc vf b v) w') := by rw [<- hN];exact jdu H.out.drew hk hr3 hl Y.x.pc
 clear h e hD hN hd hk hr3
 go_enter Tryz.func36,Tryz.ntmps36
 go_wp2_with fail
 go_region
 rename_i K hK
 refine hK _ _ ?_
 go_wp2_with (first
  | (go_at_call 25;refine CE.out.mono ?_;rintro _ w3 ⟨rfl,κ3,Y3,hY3,h3,f3⟩))
 go_returns
 exact ⟨rfl,κ3,Y3,hY3,h3,Fr0.trans (Fr.drew (Fr.refl _ _ _)) f3⟩
def rgS (Y : Dt) (q : Nat) (v : V) : Dt := { Y with regs := Y.regs.set q v }
theorem jfP (z : Int) : w63 (w63 z) = w63 z := by unfold w63;omega
theorem jdT (a b : Int) : a - a.tdiv b * b = a.tmod b := by rw [Int.tmod_def,Int.mul_comm]
theorem jga (a b : Int) : (a.tmod b).natAbs <= a.natAbs := by rw [Int.natAbs_tmod];exact Nat.mod_le _ _
theorem ar12 (a b : Int) : ar 12 a b = tru (a == b) := by unfold ar tru;by_cases h : a = b <;> simp [h]
theorem ar13 (a b : Int) : ar 13 a b = tru (decide (a < b)) := by unfold ar tru;by_cases h : a < b <;> simp [h]
theorem ar14 (a b : Int) : ar 14 a b = tru (decide (a <= b)) := by unfold ar tru;by_cases h : a <= b <;> simp [h]
structure Rg (s : ByteArray) (w : World) (m : Nat) (κ : Kp) (Y : Dt) (g cap : Nat) : Prop where
 vrg : Y.x.vrg = .slice (some ⟨g,0,none⟩) 8 cap
 c8 : 8 <= cap
 lt : g < w.heap.size
 ml : m < w.heap.size
 on : ∀ W,Below w.heap.size w W -> W.cell? ⟨m,6,none⟩ = some (.slice (some ⟨g,0,none⟩) 8 cap) /\ (∀ i u,Y.regs[i]? = some u -> W.cell? ⟨g,i * 2,none⟩ = some (.bool (vb u)) /\ W.cell? ⟨g,i * 2 + 1,none⟩ = some (.int .i64 (vi u))) /\ (∀ j,W.frozen? ⟨g,j,none⟩ = false) /\
  ∀ q v,q < 8 -> DM s ((W.setCell ⟨g,q * 2,none⟩ (.bool (vb v))).setCell ⟨g,q * 2 + 1,none⟩ (.int .i64 (vi v))) m κ (rgS Y q v) /\ Fr0 κ κ W ((W.setCell ⟨g,q * 2,none⟩ (.bool (vb v))).setCell ⟨g,q * 2 + 1,none⟩ (.int .i64 (vi v)))
theorem DM.rgs' (h : DM s w m κ Y) (hl : Y.regs.length = 8) : ∃ g cap,Rg s w m κ Y g cap := by
 obtain ⟨g,cap,e,h1,h2,h3,h4,h5,h6⟩ := h.rg hl
 refine ⟨g,cap,e,h1,h3,h.lt,fun W hW => ?_⟩
 obtain ⟨g',cap',e',_,_,_,k4,k5,k6⟩ := (h.on hW).rg hl
 rw [e] at e'
 cases e'
 refine ⟨k4,k5,k6,fun q v hq => ?_⟩
 obtain ⟨p1,p2⟩ := (h.on hW).setR (u := v) (by rw [hl];exact e) (by rw [hl];exact hq)
 exact ⟨p1,p2.all⟩
theorem jmo {w W : World} {o : Obj} (h : w.alloc o = W) : Below w.heap.size w W /\ W.heap[w.heap.size]? = some o := by subst h;exact ⟨jB.alloc jN _,jg w o⟩
set_option maxRecDepth 100000 in
theorem jaM (h : DM s w m κ Y) (hr : Y.regs.length = 8) {q x y p n : Nat} {a b E o : Int} (hq : q < 8) (ha : inR a) (hb : inR b) (hE : -9223372036854775808 <= E /\ E <= 9223372036854775807) (hV : w63 E = w63 (ar n a b)) (ho : (o = 7 /\ E = a + b) \/ (o = 8 /\ E = a - b) \/ (o = 9 /\ E = wrap64 (wrap64 (a * b) * 2) / 2) \/ (o = 10 /\ b ≠ 0 /\ (b == 0) = false /\ (-4611686018427387904 <= a.tdiv b /\ a.tdiv b <= 4611686018427387904) /\ E = a.tdiv b) \/ (o = 11 /\ b ≠ 0 /\ (b == 0) = false /\ (-4611686018427387904 <= a.tdiv b /\ a.tdiv b <= 4611686018427387904) /\ (-4611686018427387904 <= a.tdiv b * b /\ a.tdiv b * b <= 4611686018427387904) /\ E = a - a.tdiv b * b) \/ (o = 12 /\ E = tru (a == b)) \/ (o = 13 /\ E = tru (decide (a < b))) \/ (o = 14 /\ E = tru (decide (a <= b)))) :
 Calls Tryz.prog 29 #[.pointer (some ⟨m,0,none⟩),.agg #[.int .i64 o,.int .i64 q,.int .i64 x,.int .i64 y,.int .i64 p],.int .i64 a,.int .i64 b] w (DOk s κ w m (rgS Y q (.n (w63 (ar n a b))))) := by
 have H := jH h
 obtain ⟨g,cap,hR⟩ := h.rgs' hr
 have HR := jH hR
 have hgl := hR.lt
 have hml := hR.ml
 have hc8 := hR.c8
 obtain ⟨t,ht⟩ : ∃ t,Y.regs[q]? = some t := ⟨_,List.getElem?_eq_getElem (by omega)⟩
 have HQ := jH ht
 unfold inR at ha hb
 obtain ⟨ha1,ha2⟩ := ha
 obtain ⟨hb1,hb2⟩ := hb
 have hmul : IntKind.i64.wrap (a * b) = wrap64 (a * b) := jbn _
 obtain ⟨R,hR9⟩ : ∃ R,w63 (ar n a b) = R := ⟨_,rfl⟩
 have C1 : Hid (jD 30 #[.int .i64 E] (.agg #[.bool false,.int .i64 R])) := fun W' => by rw [<- hR9,<- hV];exact jc9 hE W'
 rw [hR9]
 have gq : (q : Int) < 8 := by omega
 clear h hR ht hR9 hr hV
 rcases ho with ⟨rfl,rfl⟩ | ⟨rfl,rfl⟩ | ⟨rfl,rfl⟩ | ⟨rfl,hz,hz0,hdv,rfl⟩ | ⟨rfl,hz,hz0,hdv,hmd,rfl⟩ | ⟨rfl,rfl⟩ | ⟨rfl,rfl⟩ | ⟨rfl,rfl⟩
 all_goals
  go_enter Tryz.func29,Tryz.ntmps29
  go_upto_region 22 with (first
   | (go_at_call 31;refine (jdJ _ _).mono ?_;rintro _ w0 ⟨rfl,hw0⟩;have hw0 := hw0.symm;subst hw0))
  generalize hW : World.alloc _ _ = W
  obtain ⟨hW,hbx⟩ := jmo hW
  have HY : Hid (∀ yy : Wd W.heap.size W,Below w.heap.size w yy.v) := fun yy => hW.trans (yy.h.mono hW.size)
  have f1 : ∀ yy : Wd W.heap.size W,yy.v.cell? ⟨w.heap.size,1,none⟩ = some (.int .i64 q) := fun yy => Wd.at hbx (jb hbx) 1 rfl yy
  have f6 : ∀ yy : Wd W.heap.size W,yy.v.cell? ⟨m,6,none⟩ = some (.slice (some ⟨g,0,none⟩) 8 cap) := fun yy => (HR.out.on _ (HY.out yy)).1
  haveI := Wd.ne
  clear hW hbx
  refine jP 9 10 (by kernel_rfl) (by kernel_rfl) (by decide) ?_
  simp only [TkD]
  iterate 7
   apply jd (by decide) (by rfl)
   ·intro yy;go_simp;all_goals with_reducible rfl
   simp only [Act.put,SsT]
  refine jd (by decide) (by rfl) (v := ?v7) ?hv7 ?_
  case hv7 => (intro yy;go_simp;exact C1.out _)
  simp only [Act.put,SsT]
  refine jd (by decide) (by rfl) (v := ?v8) ?hv8 ?_
  case hv8 => (intro yy;go_simp;all_goals with_reducible rfl)
  simp only [Act.put,SsT]
  refine js ?_
  intro yy
  obtain ⟨_,k5,k6,k7⟩ := HR.out.on _ (HY.out yy)
  obtain ⟨d0,d1⟩ := k5 q _ HQ.out
  have z0' := k6 (q * 2)
  have z1' := k6 (q * 2 + 1)
  have HK7 := jH (k7 q (.n R) hq)
  clear k5 k6 k7
  go_wp2_with fail
  go_returns
  exact ⟨rfl,κ,HK7.out.1,Fr0.trans (Fr.of (HY.out yy)) HK7.out.2⟩
theorem td_b {a b : Int} (ha : inR a) : -4611686018427387904 <= a.tdiv b * b /\ a.tdiv b * b <= 4611686018427387904 := by
 unfold inR at ha
 have h3 : (a.tdiv b * b).natAbs <= a.natAbs := by
  rw [Int.natAbs_mul,Int.natAbs_tdiv]
  exact Nat.div_mul_le_self _ _
 omega
theorem jmg (h : DM s w m κ Y) (hr : Y.regs.length = 8) {q x y p n : Nat} {a b o : Int} (ho : (n = 7 /\ o = 7) \/ (n = 8 /\ o = 8) \/ (n = 9 /\ o = 9) \/ (n = 12 /\ o = 12) \/ (n = 13 /\ o = 13) \/ (n = 14 /\ o = 14)) (hq : q < 8) (ha : inR a) (hb : inR b) :
 Calls Tryz.prog 29 #[.pointer (some ⟨m,0,none⟩),.agg #[.int .i64 o,.int .i64 q,.int .i64 x,.int .i64 y,.int .i64 p],.int .i64 a,.int .i64 b] w (DOk s κ w m (rgS Y q (.n (w63 (ar n a b))))) := by
 rcases ho with ⟨rfl,rfl⟩ | ⟨rfl,rfl⟩ | ⟨rfl,rfl⟩ | ⟨rfl,rfl⟩ | ⟨rfl,rfl⟩ | ⟨rfl,rfl⟩
 ·exact jaM h hr (E := a + b) hq ha hb (by unfold inR at ha hb;omega) (rfl) (.inl ⟨rfl,rfl⟩)
 ·exact jaM h hr (E := a - b) hq ha hb (by unfold inR at ha hb;omega) (rfl) (.inr (.inl ⟨rfl,rfl⟩))
 ·exact jaM h hr (E := wrap64 (wrap64 (a * b) * 2) / 2) hq ha hb (by rw [jb0];have := J2 (a * b);unfold inR at this;omega) (by show w63 _ = _;rw [jb0];exact jfP _) (.inr (.inr (.inl ⟨rfl,rfl⟩)))
 ·exact jaM h hr (E := tru (a == b)) hq ha hb (by unfold tru;split <;> omega) (by show _ = _;rw [ar12]) (.inr (.inr (.inr (.inr (.inr (.inl ⟨rfl,rfl⟩))))))
 ·exact jaM h hr (E := tru (decide (a < b))) hq ha hb (by unfold tru;split <;> omega) (by show _ = _;rw [ar13]) (.inr (.inr (.inr (.inr (.inr (.inr (.inl ⟨rfl,rfl⟩)))))))
 ·exact jaM h hr (E := tru (decide (a <= b))) hq ha hb (by unfold tru;split <;> omega) (by show _ = _;rw [ar14]) (.inr (.inr (.inr (.inr (.inr (.inr (.inr (⟨rfl,rfl⟩))))))))
theorem jmh (h : DM s w m κ Y) (hr : Y.regs.length = 8) {q x y p n : Nat} {a b o : Int} (ho : (n = 10 /\ o = 10) \/ (n = 11 /\ o = 11)) (hq : q < 8) (ha : inR a) (hb : inR b) (hz : b ≠ 0) :
 Calls Tryz.prog 29 #[.pointer (some ⟨m,0,none⟩),.agg #[.int .i64 o,.int .i64 q,.int .i64 x,.int .i64 y,.int .i64 p],.int .i64 a,.int .i64 b] w (DOk s κ w m (rgS Y q (.n (w63 (ar n a b))))) := by
 rcases ho with ⟨rfl,rfl⟩ | ⟨rfl,rfl⟩
 ·exact jaM h hr (E := a.tdiv b) hq ha hb (by have h1 := Int.natAbs_tdiv_le_natAbs a b;unfold inR at ha;omega) (rfl) (.inr (.inr (.inr (.inl ⟨rfl,hz,by simpa using hz,by have h1 := Int.natAbs_tdiv_le_natAbs a b;unfold inR at ha;omega,rfl⟩))))
 ·exact jaM h hr (E := a - a.tdiv b * b) hq ha hb (by rw [jdT];have h2 := jga a b;unfold inR at ha;omega) (by show w63 _ = _;rw [jdT];rfl) (.inr (.inr (.inr (.inr (.inl ⟨rfl,hz,by simpa using hz,by have h1 := Int.natAbs_tdiv_le_natAbs a b;unfold inR at ha;omega,td_b ha,rfl⟩)))))
set_option maxRecDepth 100000 in
theorem jmf (h : DM s w m κ Y) {q x y p : Nat} {a : Int} :
 Calls Tryz.prog 29 #[.pointer (some ⟨m,0,none⟩),.agg #[.int .i64 10,.int .i64 q,.int .i64 x,.int .i64 y,.int .i64 p],.int .i64 a,.int .i64 0] w (DOk s κ w m (jF Y 32 p)) := by
 have hA := (Below.refl w.heap.size w).alloc jN (.cells #[.int .i64 10,.int .i64 q,.int .i64 x,.int .i64 y,.int .i64 p] 60 (0,0))
 have HM := jH (h.on hA)
 have HA := jH hA
 have hml := h.lt
 clear h hA
 go_enter Tryz.func29,Tryz.ntmps29
 go_wp2_with (first
  | (go_at_call 33;refine (Jf HM.out 32 p).mono ?_;rintro _ w3 ⟨rfl,h3,f3⟩))
 go_returns
 exact ⟨rfl,κ,h3,Fr0.trans (Fr.of HA.out) f3⟩
set_option maxRecDepth 100000 in
theorem jme (h : DM s w m κ Y) {q x y p : Nat} {a : Int} :
 Calls Tryz.prog 29 #[.pointer (some ⟨m,0,none⟩),.agg #[.int .i64 11,.int .i64 q,.int .i64 x,.int .i64 y,.int .i64 p],.int .i64 a,.int .i64 0] w (DOk s κ w m (jF Y 32 p)) := by
 have hA := (Below.refl w.heap.size w).alloc jN (.cells #[.int .i64 11,.int .i64 q,.int .i64 x,.int .i64 y,.int .i64 p] 60 (0,0))
 have HM := jH (h.on hA)
 have HA := jH hA
 have hml := h.lt
 clear h hA
 go_enter Tryz.func29,Tryz.ntmps29
 go_wp2_with (first
  | (go_at_call 33;refine (Jf HM.out 32 p).mono ?_;rintro _ w3 ⟨rfl,h3,f3⟩))
 go_returns
 exact ⟨rfl,κ,h3,Fr0.trans (Fr.of HA.out) f3⟩
set_option maxRecDepth 100000 in
theorem jiR (h : DM s w m κ Y) {q x y p : Nat} {a : Int} :
 Calls Tryz.prog 34 #[.pointer (some ⟨m,0,none⟩),.agg #[.int .i64 22,.int .i64 q,.int .i64 x,.int .i64 y,.int .i64 p],.agg #[.bool false,.int .i64 a]] w (DOk s κ w m (jF Y 50 0)) := by
 have hA0 := (Below.refl w.heap.size w).alloc jN (.cells #[.int .i64 22,.int .i64 q,.int .i64 x,.int .i64 y,.int .i64 p] 60 (0,0))
 have hA := hA0.alloc hA0.size (.cells #[.bool false,.int .i64 a] 89 (0,0))
 clear hA0
 have HM := jH (h.on hA)
 have HA := jH hA
 have hml := h.lt
 clear h hA
 go_enter Tryz.func34,Tryz.ntmps34
 go_wp2_with (first
  | (go_at_call 33;refine (Jf HM.out 50 0).mono ?_;rintro _ w3 ⟨rfl,h3,f3⟩))
 go_returns
 exact ⟨rfl,κ,h3,Fr0.trans (Fr.of HA.out) f3⟩
set_option maxRecDepth 100000 in
theorem jiQ (h : DM s w m κ Y) {q x y p : Nat} {a : Int} :
 Calls Tryz.prog 34 #[.pointer (some ⟨m,0,none⟩),.agg #[.int .i64 24,.int .i64 q,.int .i64 x,.int .i64 y,.int .i64 p],.agg #[.bool false,.int .i64 a]] w (DOk s κ w m (jF Y 50 0)) := by
 have hA0 := (Below.refl w.heap.size w).alloc jN (.cells #[.int .i64 24,.int .i64 q,.int .i64 x,.int .i64 y,.int .i64 p] 60 (0,0))
 have hA := hA0.alloc hA0.size (.cells #[.bool false,.int .i64 a] 89 (0,0))
 clear hA0
 have HM := jH (h.on hA)
 have HA := jH hA
 have hml := h.lt
 clear h hA
 go_enter Tryz.func34,Tryz.ntmps34
 go_wp2_with (first
  | (go_at_call 33;refine (Jf HM.out 50 0).mono ?_;rintro _ w3 ⟨rfl,h3,f3⟩))
 go_returns
 exact ⟨rfl,κ,h3,Fr0.trans (Fr.of HA.out) f3⟩
set_option maxRecDepth 100000 in
theorem jiP (h : DM s w m κ Y) {q x y p : Nat} {a : Int} :
 Calls Tryz.prog 34 #[.pointer (some ⟨m,0,none⟩),.agg #[.int .i64 26,.int .i64 q,.int .i64 x,.int .i64 y,.int .i64 p],.agg #[.bool false,.int .i64 a]] w (DOk s κ w m (jF Y 50 0)) := by
 have hA0 := (Below.refl w.heap.size w).alloc jN (.cells #[.int .i64 26,.int .i64 q,.int .i64 x,.int .i64 y,.int .i64 p] 60 (0,0))
 have hA := hA0.alloc hA0.size (.cells #[.bool false,.int .i64 a] 89 (0,0))
 clear hA0
 have HM := jH (h.on hA)
 have HA := jH hA
 have hml := h.lt
 clear h hA
 go_enter Tryz.func34,Tryz.ntmps34
 go_wp2_with (first
  | (go_at_call 33;refine (Jf HM.out 50 0).mono ?_;rintro _ w3 ⟨rfl,h3,f3⟩))
 go_returns
 exact ⟨rfl,κ,h3,Fr0.trans (Fr.of HA.out) f3⟩
theorem JC {κ κ' : Kp} {w w1 w2 : World} {Y' : Dt} (h1 : DM s w1 m κ' Y') (h2 : Fr0 κ κ' w w1) (hb : Below w1.heap.size w1 w2) : DOk s κ w m Y' (.returned (.tuple #[])) w2 := ⟨rfl,κ',h1.on hb,Fr0.trans h2 (Fr.of hb)⟩
theorem jr (w : World) (a : Obj) : Below w.heap.size w (w.alloc a) := jB.alloc jN _
theorem JM (w : World) (a b : Obj) : Below w.heap.size w ((w.alloc a).alloc b) := (jr w a).alloc (jr w a).size _
theorem DM.bg (h : DM s w m κ Y) {k : Nat} {b : GX} (hk : Y.ds[k]? = some b) : ∃ g cap,w.cell? ⟨m,4,none⟩ = some (.slice (some ⟨g,0,none⟩) Y.ds.length cap) /\ w.cell? ⟨g,k,none⟩ = some (.pointer (some ⟨b.b,0,none⟩)) /\ w.cell? ⟨b.b,0,none⟩ = some b.v /\ w.cell? ⟨b.b,1,none⟩ = some (.int .i64 b.fn) /\ g < w.heap.size /\ b.b < w.heap.size /\ Y.ds.length <= cap /\ k < Y.ds.length := by
 have hl := (jG hk).1
 have hT := h.rows.bks
 obtain ⟨g,cap,e,h1,h2,h3⟩ := hT.at (by omega)
 rw [e] at hT
 have hB := (h.rows.bst k b hk).blk
 refine ⟨g,cap,by rw [<- e];exact ja h.mac 4 rfl,hT.cell (j := k) (by simp [hk,pt]),ja hB 0 rfl,ja hB 1 rfl,h3,jb hB,h1,hl⟩
set_option maxRecDepth 100000 in
theorem jiS (h : DM s w m κ Y) (hr : Y.regs.length = 8) {q x y p k : Nat} {b : GX} (hq : q < 8) (hk : Y.ds[k]? = some b) :
 Calls Tryz.prog 34 #[.pointer (some ⟨m,0,none⟩),.agg #[.int .i64 26,.int .i64 q,.int .i64 x,.int .i64 y,.int .i64 p],.agg #[.bool true,.int .i64 k]] w (DOk s κ w m (rgS Y q (.n b.fs.length))) := by
 have H := jH h
 obtain ⟨g,cap,hR⟩ := h.rgs' hr
 obtain ⟨g',cap',b1,b2,b3,b4,b5,b6,b7,b8⟩ := h.bg hk
 obtain ⟨a5,c5,e5,_⟩ := (h.rows.vls k b hk).any
 rw [e5] at b3
 have HR := jH hR
 have hgl := hR.lt
 have c8 := hR.c8
 have gkl : (k : Int) < (Y.ds.length : Int) := by omega
 have gq : (q : Int) < 8 := by omega
 have hml := h.lt
 obtain ⟨r1,r2,r3,r4⟩ := hR.on _ jB
 obtain ⟨t,ht⟩ : ∃ t,Y.regs[q]? = some t := ⟨_,List.getElem?_eq_getElem (by omega)⟩
 obtain ⟨d0,d1⟩ := r2 q _ ht
 have z0' := r3 (q * 2)
 have z1' := r3 (q * 2 + 1)
 clear h hR r2 r3 r4 e5 hk ht hr
 go_enter Tryz.func34,Tryz.ntmps34
 go_wp2
 go_region
 go_wp2
 go_region
 go_wp2
 go_returns
 obtain ⟨_,_,_,r4⟩ := HR.out.on _ jB
 obtain ⟨p1,p2⟩ := r4 q (.n b.fs.length) hq
 exact JC p1 p2 (JM _ _ _).drew.drew
theorem bx2 (w : World) (a b : Obj) : ((w.alloc a).alloc b).drew.heap[w.heap.size]? = some a := (Below.heap_alloc (w.alloc a) b _ (by simp)).trans (jg w a)
set_option maxRecDepth 100000 in
theorem jiX (h : DM s w m κ Y) (hr : Y.regs.length = 8) {q x y p k : Nat} {b : GX} (hq : q < 8) (hk : Y.ds[k]? = some b) (hy : b.fs.length <= y) :
 Calls Tryz.prog 34 #[.pointer (some ⟨m,0,none⟩),.agg #[.int .i64 22,.int .i64 q,.int .i64 x,.int .i64 y,.int .i64 p],.agg #[.bool true,.int .i64 k]] w (DOk s κ w m (jF Y 50 0)) := by
 have H := jH h
 obtain ⟨g,cap,hR⟩ := h.rgs' hr
 obtain ⟨g',cap',b1,b2,b3,b4,b5,b6,b7,b8⟩ := h.bg hk
 obtain ⟨a5,c5,e5,_⟩ := (h.rows.vls k b hk).any
 have HBk := jH (h.rows.bst k b hk).blk
 rw [e5] at b3
 have E5 := jH e5
 have HR := jH hR
 have HK := jH hk
 have hgl := hR.lt
 have c8 := hR.c8
 have gkl : (k : Int) < (Y.ds.length : Int) := by omega
 have gq : (q : Int) < 8 := by omega
 have hml := h.lt
 clear h hR e5 hk
 go_enter Tryz.func34,Tryz.ntmps34
 go_wp2
 go_region
 go_wp2
 have hW : Below w.heap.size w (((w.alloc (.cells #[.int .i64 22,.int .i64 q,.int .i64 x,.int .i64 y,.int .i64 p] 60 (0,0))).alloc (.cells #[.bool true,.int .i64 k] 89 (0,0))).drew) := (JM _ _ _).drew
 have hbx := bx2 w (.cells #[.int .i64 22,.int .i64 q,.int .i64 x,.int .i64 y,.int .i64 p] 60 (0,0)) (.cells #[.bool true,.int .i64 k] 89 (0,0))
 generalize ((w.alloc (.cells #[.int .i64 22,.int .i64 q,.int .i64 x,.int .i64 y,.int .i64 p] 60 (0,0))).alloc (.cells #[.bool true,.int .i64 k] 89 (0,0))).drew = W at hW hbx ⊢
 have HY : Hid (∀ yy : Wd W.heap.size W,Below w.heap.size w yy.v) := fun yy => hW.trans (yy.h.mono hW.size)
 have f0 : ∀ yy : Wd W.heap.size W,yy.v.cell? ⟨w.heap.size,0,none⟩ = some (.int .i64 22) := fun yy => Wd.at hbx (jb hbx) 0 rfl yy
 have f1 : ∀ yy : Wd W.heap.size W,yy.v.cell? ⟨w.heap.size,1,none⟩ = some (.int .i64 q) := fun yy => Wd.at hbx (jb hbx) 1 rfl yy
 have f2 : ∀ yy : Wd W.heap.size W,yy.v.cell? ⟨w.heap.size,2,none⟩ = some (.int .i64 x) := fun yy => Wd.at hbx (jb hbx) 2 rfl yy
 have f3 : ∀ yy : Wd W.heap.size W,yy.v.cell? ⟨w.heap.size,3,none⟩ = some (.int .i64 y) := fun yy => Wd.at hbx (jb hbx) 3 rfl yy
 have f4 : ∀ yy : Wd W.heap.size W,yy.v.cell? ⟨w.heap.size,4,none⟩ = some (.int .i64 p) := fun yy => Wd.at hbx (jb hbx) 4 rfl yy
 have f5 : ∀ yy : Wd W.heap.size W,yy.v.cell? ⟨b.b,0,none⟩ = some (.slice a5 b.fs.length c5) := fun yy => by rw [<- E5.out];exact ja (jc HBk.out (HY.out yy) b6) 0 rfl
 haveI := Wd.ne
 clear hW hbx
 refine jP 8 10 (by kernel_rfl) (by kernel_rfl) (by decide) ?_
 simp only [TkD]
 iterate 8
  apply jd (by decide) (by rfl)
  ·intro yy;go_simp;all_goals with_reducible rfl
  simp only [Act.put,SsT]
 refine js ?_
 intro yy
 have CN := jH (jbZ (op := 22) (q := q) (x := x) (y := y) (p := p) (i := y) (n := b.fs.length) (H.out.on (HY.out yy)) (by omega))
 rw [if_neg (by omega)] at CN
 go_wp2_with (first
  | (go_at_call 62;refine CN.out.mono ?_;rintro _ w2 ⟨rfl,h2,f2⟩))
 go_returns
 exact ⟨rfl,κ,h2,Fr0.trans (Fr.of (HY.out yy)) f2⟩
set_option maxRecDepth 100000 in
theorem jiW (h : DM s w m κ Y) (hr : Y.regs.length = 8) {q x y p k : Nat} {b : GX} {u : V} (hq : q < 8) (hk : Y.ds[k]? = some b) (hy : b.fs[y]? = some u) :
 Calls Tryz.prog 34 #[.pointer (some ⟨m,0,none⟩),.agg #[.int .i64 22,.int .i64 q,.int .i64 x,.int .i64 y,.int .i64 p],.agg #[.bool true,.int .i64 k]] w (DOk s κ w m (rgS Y q u)) := by
 have H := jH h
 obtain ⟨g,cap,hR⟩ := h.rgs' hr
 obtain ⟨g',cap',b1,b2,b3,b4,b5,b6,b7,b8⟩ := h.bg hk
 obtain ⟨a5,c5,e5,_⟩ := (h.rows.vls k b hk).any
 have HBk := jH (h.rows.bst k b hk).blk
 rw [e5] at b3
 have E5 := jH e5
 have HR := jH hR
 have HK := jH hk
 have hgl := hR.lt
 have c8 := hR.c8
 have gkl : (k : Int) < (Y.ds.length : Int) := by omega
 have gq : (q : Int) < 8 := by omega
 have hml := h.lt
 clear h hR e5 hk
 have hyl := (jG hy).1
 have gyl : (y : Int) < (b.fs.length : Int) := by omega
 have HU := jH hy
 obtain ⟨t,ht⟩ : ∃ t,Y.regs[q]? = some t := ⟨_,List.getElem?_eq_getElem (by omega)⟩
 have HQ := jH ht
 clear hy ht hr
 have C1 : Hid (jD 62 #[.pointer (some ⟨m,0,none⟩),.agg #[.int .i64 22,.int .i64 q,.int .i64 x,.int .i64 y,.int .i64 p],.int .i64 y,.int .i64 b.fs.length] (.bool true)) := fun W' => jbY (by omega)
 go_enter Tryz.func34,Tryz.ntmps34
 go_wp2
 go_region
 go_wp2
 have hW : Below w.heap.size w (((w.alloc (.cells #[.int .i64 22,.int .i64 q,.int .i64 x,.int .i64 y,.int .i64 p] 60 (0,0))).alloc (.cells #[.bool true,.int .i64 k] 89 (0,0))).drew) := (JM _ _ _).drew
 have hbx := bx2 w (.cells #[.int .i64 22,.int .i64 q,.int .i64 x,.int .i64 y,.int .i64 p] 60 (0,0)) (.cells #[.bool true,.int .i64 k] 89 (0,0))
 generalize ((w.alloc (.cells #[.int .i64 22,.int .i64 q,.int .i64 x,.int .i64 y,.int .i64 p] 60 (0,0))).alloc (.cells #[.bool true,.int .i64 k] 89 (0,0))).drew = W at hW hbx ⊢
 have HY : Hid (∀ yy : Wd W.heap.size W,Below w.heap.size w yy.v) := fun yy => hW.trans (yy.h.mono hW.size)
 have f0 : ∀ yy : Wd W.heap.size W,yy.v.cell? ⟨w.heap.size,0,none⟩ = some (.int .i64 22) := fun yy => Wd.at hbx (jb hbx) 0 rfl yy
 have f1 : ∀ yy : Wd W.heap.size W,yy.v.cell? ⟨w.heap.size,1,none⟩ = some (.int .i64 q) := fun yy => Wd.at hbx (jb hbx) 1 rfl yy
 have f2 : ∀ yy : Wd W.heap.size W,yy.v.cell? ⟨w.heap.size,2,none⟩ = some (.int .i64 x) := fun yy => Wd.at hbx (jb hbx) 2 rfl yy
 have f3 : ∀ yy : Wd W.heap.size W,yy.v.cell? ⟨w.heap.size,3,none⟩ = some (.int .i64 y) := fun yy => Wd.at hbx (jb hbx) 3 rfl yy
 have f4 : ∀ yy : Wd W.heap.size W,yy.v.cell? ⟨w.heap.size,4,none⟩ = some (.int .i64 p) := fun yy => Wd.at hbx (jb hbx) 4 rfl yy
 have f5 : ∀ yy : Wd W.heap.size W,yy.v.cell? ⟨b.b,0,none⟩ = some (.slice a5 b.fs.length c5) := fun yy => by rw [<- E5.out];exact ja (jc HBk.out (HY.out yy) b6) 0 rfl
 haveI := Wd.ne
 clear hW hbx
 refine jP 9 10 (by kernel_rfl) (by kernel_rfl) (by decide) ?_
 simp only [TkD]
 iterate 8
  apply jd (by decide) (by rfl)
  ·intro yy;go_simp;all_goals with_reducible rfl
  simp only [Act.put,SsT]
 refine jd (by decide) (by rfl) (v := ?v8) ?hv8 ?_
 case hv8 => (intro yy;go_simp;exact C1.out _)
 simp only [Act.put,SsT]
 refine js ?_
 intro yy
 obtain ⟨r1,k5,k6,k7⟩ := HR.out.on _ (HY.out yy)
 obtain ⟨d0,d1⟩ := k5 q _ HQ.out
 have z0' := k6 (q * 2)
 have z1' := k6 (q * 2 + 1)
 have HK7 := jH (k7 q u hq)
 have hT := (H.out.on (HY.out yy)).rows.vls k b HK.out
 obtain ⟨g5,c5',e6,h61,_,h63⟩ := hT.at (by omega)
 rw [e6] at hT
 have e7 := E5.out.symm.trans e6
 cases e7
 have d2 := hT.cell (Jj HU.out).1
 have d3 := hT.cell (Jj HU.out).2
 have f1' := f1 yy
 have f5' := f5 yy
 clear k5 k6 k7 hT e6 f0 f1 f2 f3 f4 f5
 go_wp2
 go_region
 go_wp2
 go_returns
 exact JC HK7.out.1 (Fr0.trans (Fr.of (HY.out yy)) HK7.out.2) jB.drew
theorem ja3 {u : V} {t : TypeId} : VL (w.alloc (.cells #[.bool (vb u),.int .i64 (vi u)] t (0,0))).drew w.heap.size [u] := fun i v h => jcQ (w := w) (t := t) i v h
theorem jmw {u v : V} {t : TypeId} : VL (w.alloc (.cells #[.bool (vb u),.int .i64 (vi u),.bool (vb v),.int .i64 (vi v)] t (0,0))).drew w.heap.size [u,v] := fun i z h => jfV (w := w) (t := t) i z h
set_option maxRecDepth 100000 in
theorem jiV (h : DM s w m κ Y) (hr : Y.regs.length = 8) {q x y p k : Nat} {b : GX} {t : V} (hq : q < 8) (hk : Y.ds[k]? = some b) (hy : Y.regs[y]? = some t) (hb : vb t = true) :
 Calls Tryz.prog 34 #[.pointer (some ⟨m,0,none⟩),.agg #[.int .i64 24,.int .i64 q,.int .i64 x,.int .i64 y,.int .i64 p],.agg #[.bool true,.int .i64 k]] w (DOk s κ w m (jF Y 50 0)) := by
 have H := jH h
 obtain ⟨g,cap,hR⟩ := h.rgs' hr
 obtain ⟨g',cap',b1,b2,b3,b4,b5,b6,b7,b8⟩ := h.bg hk
 obtain ⟨a5,c5,e5,_⟩ := (h.rows.vls k b hk).any
 have HBk := jH (h.rows.bst k b hk).blk
 rw [e5] at b3
 have E5 := jH e5
 have HR := jH hR
 have HK := jH hk
 have hgl := hR.lt
 have c8 := hR.c8
 have gkl : (k : Int) < (Y.ds.length : Int) := by omega
 have gq : (q : Int) < 8 := by omega
 have hml := h.lt
 clear h hR e5 hk
 have hy8 : (y : Int) < 8 := by have := (jG hy).1;omega
 have HQ := jH hy
 have HT := jH hb
 clear hy hb hr
 go_enter Tryz.func34,Tryz.ntmps34
 go_wp2
 go_region
 go_wp2
 have hW : Below w.heap.size w (((w.alloc (.cells #[.int .i64 24,.int .i64 q,.int .i64 x,.int .i64 y,.int .i64 p] 60 (0,0))).alloc (.cells #[.bool true,.int .i64 k] 89 (0,0))).drew) := (JM _ _ _).drew
 have hbx := bx2 w (.cells #[.int .i64 24,.int .i64 q,.int .i64 x,.int .i64 y,.int .i64 p] 60 (0,0)) (.cells #[.bool true,.int .i64 k] 89 (0,0))
 generalize ((w.alloc (.cells #[.int .i64 24,.int .i64 q,.int .i64 x,.int .i64 y,.int .i64 p] 60 (0,0))).alloc (.cells #[.bool true,.int .i64 k] 89 (0,0))).drew = W at hW hbx ⊢
 have HW := jH hW
 have HX := jH hbx
 have hsz := hW.size
 have hbl := jb hbx
 have hmW : m < W.heap.size := by omega
 have hgW : g < W.heap.size := by omega
 have f3 := ja hbx 3 rfl
 obtain ⟨r1,k5,k6,_⟩ := HR.out.on _ hW
 obtain ⟨d0,d1⟩ := k5 y _ HQ.out
 clear hW hbx k5 k6
 have hA := jr W (.cells #[.bool (vb t),.int .i64 (vi t)] 89 (0,0))
 have HA := jH hA
 have CN := jH (jat ((H.out.on HW.out).on hA.drew) (g := W.heap.size) (l := [t]) (by simp) ja3 (by simp) (k := 0) (t := t) rfl HT.out (fun i u h => absurd h (Nat.not_lt_zero _)))
 clear hA
 go_region_with (first
  | (go_at_call 28;refine CN.out.mono ?_;rintro _ w2 ⟨rfl,h2,f2⟩;have HM2 := jH h2;have HF2 := jH f2;clear h2 f2))
 all_goals
  go_wp2
  go_returns
  exact ⟨rfl,κ,HM2.out,Fr0.trans (Fr.of (HW.out.trans (HA.out.drew.mono hsz))) HF2.out⟩
set_option maxRecDepth 100000 in
theorem jiU (h : DM s w m κ Y) (hr : Y.regs.length = 8) {q x y p k : Nat} {b : GX} {z : Int} (hq : q < 8) (hk : Y.ds[k]? = some b) (hy : Y.regs[y]? = some (.n z)) (hz : ¬ (0 <= z /\ z < b.fs.length)) :
 Calls Tryz.prog 34 #[.pointer (some ⟨m,0,none⟩),.agg #[.int .i64 24,.int .i64 q,.int .i64 x,.int .i64 y,.int .i64 p],.agg #[.bool true,.int .i64 k]] w (DOk s κ w m (jF Y 30 p)) := by
 have H := jH h
 obtain ⟨g,cap,hR⟩ := h.rgs' hr
 obtain ⟨g',cap',b1,b2,b3,b4,b5,b6,b7,b8⟩ := h.bg hk
 obtain ⟨a5,c5,e5,_⟩ := (h.rows.vls k b hk).any
 have HBk := jH (h.rows.bst k b hk).blk
 rw [e5] at b3
 have E5 := jH e5
 have HR := jH hR
 have HK := jH hk
 have hgl := hR.lt
 have c8 := hR.c8
 have gkl : (k : Int) < (Y.ds.length : Int) := by omega
 have gq : (q : Int) < 8 := by omega
 have hml := h.lt
 clear h hR e5 hk
 have hy8 : (y : Int) < 8 := by have := (jG hy).1;omega
 have HQ := jH hy
 have HZ := jH hz
 clear hy hz hr
 go_enter Tryz.func34,Tryz.ntmps34
 go_wp2
 go_region
 go_wp2
 have hW : Below w.heap.size w (((w.alloc (.cells #[.int .i64 24,.int .i64 q,.int .i64 x,.int .i64 y,.int .i64 p] 60 (0,0))).alloc (.cells #[.bool true,.int .i64 k] 89 (0,0))).drew) := (JM _ _ _).drew
 have hbx := bx2 w (.cells #[.int .i64 24,.int .i64 q,.int .i64 x,.int .i64 y,.int .i64 p] 60 (0,0)) (.cells #[.bool true,.int .i64 k] 89 (0,0))
 generalize ((w.alloc (.cells #[.int .i64 24,.int .i64 q,.int .i64 x,.int .i64 y,.int .i64 p] 60 (0,0))).alloc (.cells #[.bool true,.int .i64 k] 89 (0,0))).drew = W at hW hbx ⊢
 have HW := jH hW
 have HX := jH hbx
 have hsz := hW.size
 have hbl := jb hbx
 have hmW : m < W.heap.size := by omega
 have hgW : g < W.heap.size := by omega
 have f3 := ja hbx 3 rfl
 obtain ⟨r1,k5,k6,_⟩ := HR.out.on _ hW
 obtain ⟨d0,d1⟩ := k5 y _ HQ.out
 clear hW hbx k5 k6
 have CN := jH (jaU (((H.out.on HW.out)).on (jr W (.cells #[.bool (vb (.n z)),.int .i64 (vi (.n z))] 89 (0,0))).drew) (g := W.heap.size) (l := [.n z]) (by simp) ja3 (by simp) (by simp [vb]))
 simp only [vb,vi,List.length_singleton] at CN d0 d1
 go_region_with (first
  | (go_at_call 28;refine CN.out.mono ?_;rintro _ w2 ⟨rfl,h2⟩;have h2 := h2.symm;subst h2))
 all_goals
  go_wp2
  go_region
  go_wp2
  have hW2 : Below w.heap.size w ((W.alloc (.cells #[.bool false,.int .i64 z] 89 (0,0))).drew.drew) := HW.out.trans ((jr W (.cells #[.bool false,.int .i64 z] 89 (0,0))).drew.drew.mono hsz)
  have hbx2 : ((W.alloc (.cells #[.bool false,.int .i64 z] 89 (0,0))).drew.drew).heap[w.heap.size]? = some (.cells #[.int .i64 24,.int .i64 q,.int .i64 x,.int .i64 y,.int .i64 p] 60 (0,0)) := (Below.heap_alloc W (.cells #[.bool false,.int .i64 z] 89 (0,0)) _ hbl).trans HX.out
  generalize (W.alloc (.cells #[.bool false,.int .i64 z] 89 (0,0))).drew.drew = W2 at hW2 hbx2 ⊢
  have HY : Hid (∀ yy : Wd W2.heap.size W2,Below w.heap.size w yy.v) := fun yy => hW2.trans (yy.h.mono hW2.size)
  have f0 : ∀ yy : Wd W2.heap.size W2,yy.v.cell? ⟨w.heap.size,0,none⟩ = some (.int .i64 24) := fun yy => Wd.at hbx2 (jb hbx2) 0 rfl yy
  have f1 : ∀ yy : Wd W2.heap.size W2,yy.v.cell? ⟨w.heap.size,1,none⟩ = some (.int .i64 q) := fun yy => Wd.at hbx2 (jb hbx2) 1 rfl yy
  have f2 : ∀ yy : Wd W2.heap.size W2,yy.v.cell? ⟨w.heap.size,2,none⟩ = some (.int .i64 x) := fun yy => Wd.at hbx2 (jb hbx2) 2 rfl yy
  have f3 : ∀ yy : Wd W2.heap.size W2,yy.v.cell? ⟨w.heap.size,3,none⟩ = some (.int .i64 y) := fun yy => Wd.at hbx2 (jb hbx2) 3 rfl yy
  have f4 : ∀ yy : Wd W2.heap.size W2,yy.v.cell? ⟨w.heap.size,4,none⟩ = some (.int .i64 p) := fun yy => Wd.at hbx2 (jb hbx2) 4 rfl yy
  have f5 : ∀ yy : Wd W2.heap.size W2,yy.v.cell? ⟨b.b,0,none⟩ = some (.slice a5 b.fs.length c5) := fun yy => by rw [<- E5.out];exact ja (jc HBk.out (HY.out yy) b6) 0 rfl
  haveI := Wd.ne
  clear hW2 hbx2
  refine jP 8 10 (by kernel_rfl) (by kernel_rfl) (by decide) ?_
  simp only [TkD]
  iterate 8
   apply jd (by decide) (by rfl)
   ·intro yy;go_simp;all_goals with_reducible rfl
   simp only [Act.put,SsT]
  refine js ?_
  intro yy
  have CN2 := jH (jbZ (op := 24) (q := q) (x := x) (y := y) (p := p) (i := z) (n := b.fs.length) (H.out.on (HY.out yy)) HZ.out)
  rw [if_pos (by omega)] at CN2
  go_wp2_with (first
   | (go_at_call 62;refine CN2.out.mono ?_;rintro _ w2 ⟨rfl,h2,f2⟩))
  go_returns
  exact ⟨rfl,κ,h2,Fr0.trans (Fr.of (HY.out yy)) f2⟩
set_option maxRecDepth 100000 in
theorem jiT (h : DM s w m κ Y) (hr : Y.regs.length = 8) {q x y p k i : Nat} {b : GX} {u : V} (hq : q < 8) (hk : Y.ds[k]? = some b) (hy : Y.regs[y]? = some (.n i)) (hi : b.fs[i]? = some u) :
 Calls Tryz.prog 34 #[.pointer (some ⟨m,0,none⟩),.agg #[.int .i64 24,.int .i64 q,.int .i64 x,.int .i64 y,.int .i64 p],.agg #[.bool true,.int .i64 k]] w (DOk s κ w m (rgS Y q u)) := by
 obtain ⟨z,hz⟩ : ∃ z : Int,z = (i : Int) := ⟨_,rfl⟩
 rw [<- hz] at hy
 have HZ := jH hz
 have H := jH h
 obtain ⟨g,cap,hR⟩ := h.rgs' hr
 obtain ⟨g',cap',b1,b2,b3,b4,b5,b6,b7,b8⟩ := h.bg hk
 obtain ⟨a5,c5,e5,_⟩ := (h.rows.vls k b hk).any
 have HBk := jH (h.rows.bst k b hk).blk
 rw [e5] at b3
 have E5 := jH e5
 have HR := jH hR
 have HK := jH hk
 have hgl := hR.lt
 have c8 := hR.c8
 have gkl : (k : Int) < (Y.ds.length : Int) := by omega
 have gq : (q : Int) < 8 := by omega
 have hml := h.lt
 clear h hR e5 hk
 have hy8 : (y : Int) < 8 := by have := (jG hy).1;omega
 have hil := (jG hi).1
 have HU := jH hi
 obtain ⟨t,ht⟩ : ∃ t,Y.regs[q]? = some t := ⟨_,List.getElem?_eq_getElem (by omega)⟩
 have HQ' := jH ht
 have HQ := jH hy
 have C1 : Hid (jD 62 #[.pointer (some ⟨m,0,none⟩),.agg #[.int .i64 24,.int .i64 q,.int .i64 x,.int .i64 y,.int .i64 p],.int .i64 z,.int .i64 b.fs.length] (.bool true)) := fun W' => jbY (by omega)
 clear hy hz hi ht hr
 go_enter Tryz.func34,Tryz.ntmps34
 go_wp2
 go_region
 go_wp2
 have hW : Below w.heap.size w (((w.alloc (.cells #[.int .i64 24,.int .i64 q,.int .i64 x,.int .i64 y,.int .i64 p] 60 (0,0))).alloc (.cells #[.bool true,.int .i64 k] 89 (0,0))).drew) := (JM _ _ _).drew
 have hbx := bx2 w (.cells #[.int .i64 24,.int .i64 q,.int .i64 x,.int .i64 y,.int .i64 p] 60 (0,0)) (.cells #[.bool true,.int .i64 k] 89 (0,0))
 generalize ((w.alloc (.cells #[.int .i64 24,.int .i64 q,.int .i64 x,.int .i64 y,.int .i64 p] 60 (0,0))).alloc (.cells #[.bool true,.int .i64 k] 89 (0,0))).drew = W at hW hbx ⊢
 have HW := jH hW
 have HX := jH hbx
 have hsz := hW.size
 have hbl := jb hbx
 have hmW : m < W.heap.size := by omega
 have hgW : g < W.heap.size := by omega
 have f3 := ja hbx 3 rfl
 obtain ⟨r1,k5,k6,_⟩ := HR.out.on _ hW
 obtain ⟨d0,d1⟩ := k5 y _ HQ.out
 clear hW hbx k5 k6
 have CN := jH (jaU (((H.out.on HW.out)).on (jr W (.cells #[.bool (vb (.n z)),.int .i64 (vi (.n z))] 89 (0,0))).drew) (g := W.heap.size) (l := [.n z]) (by simp) ja3 (by simp) (by simp [vb]))
 simp only [vb,vi,List.length_singleton] at CN d0 d1
 go_region_with (first
  | (go_at_call 28;refine CN.out.mono ?_;rintro _ w2 ⟨rfl,h2⟩;have h2 := h2.symm;subst h2))
 all_goals
  go_wp2
  go_region
  go_wp2
  have hW2 : Below w.heap.size w ((W.alloc (.cells #[.bool false,.int .i64 z] 89 (0,0))).drew.drew) := HW.out.trans ((jr W (.cells #[.bool false,.int .i64 z] 89 (0,0))).drew.drew.mono hsz)
  have hbx2 : ((W.alloc (.cells #[.bool false,.int .i64 z] 89 (0,0))).drew.drew).heap[w.heap.size]? = some (.cells #[.int .i64 24,.int .i64 q,.int .i64 x,.int .i64 y,.int .i64 p] 60 (0,0)) := (Below.heap_alloc W (.cells #[.bool false,.int .i64 z] 89 (0,0)) _ hbl).trans HX.out
  generalize (W.alloc (.cells #[.bool false,.int .i64 z] 89 (0,0))).drew.drew = W2 at hW2 hbx2 ⊢
  have HY : Hid (∀ yy : Wd W2.heap.size W2,Below w.heap.size w yy.v) := fun yy => hW2.trans (yy.h.mono hW2.size)
  have f0 : ∀ yy : Wd W2.heap.size W2,yy.v.cell? ⟨w.heap.size,0,none⟩ = some (.int .i64 24) := fun yy => Wd.at hbx2 (jb hbx2) 0 rfl yy
  have f1 : ∀ yy : Wd W2.heap.size W2,yy.v.cell? ⟨w.heap.size,1,none⟩ = some (.int .i64 q) := fun yy => Wd.at hbx2 (jb hbx2) 1 rfl yy
  have f2 : ∀ yy : Wd W2.heap.size W2,yy.v.cell? ⟨w.heap.size,2,none⟩ = some (.int .i64 x) := fun yy => Wd.at hbx2 (jb hbx2) 2 rfl yy
  have f3 : ∀ yy : Wd W2.heap.size W2,yy.v.cell? ⟨w.heap.size,3,none⟩ = some (.int .i64 y) := fun yy => Wd.at hbx2 (jb hbx2) 3 rfl yy
  have f4 : ∀ yy : Wd W2.heap.size W2,yy.v.cell? ⟨w.heap.size,4,none⟩ = some (.int .i64 p) := fun yy => Wd.at hbx2 (jb hbx2) 4 rfl yy
  have f5 : ∀ yy : Wd W2.heap.size W2,yy.v.cell? ⟨b.b,0,none⟩ = some (.slice a5 b.fs.length c5) := fun yy => by rw [<- E5.out];exact ja (jc HBk.out (HY.out yy) b6) 0 rfl
  haveI := Wd.ne
  clear hW2 hbx2
  refine jP 9 10 (by kernel_rfl) (by kernel_rfl) (by decide) ?_
  simp only [TkD]
  iterate 8
   apply jd (by decide) (by rfl)
   ·intro yy;go_simp;all_goals with_reducible rfl
   simp only [Act.put,SsT]
  refine jd (by decide) (by rfl) (v := ?v8) ?hv8 ?_
  case hv8 => (intro yy;go_simp;exact C1.out _)
  simp only [Act.put,SsT]
  refine js ?_
  intro yy
  have hz := HZ.out
  subst hz
  have gyl : (i : Int) < (b.fs.length : Int) := by omega
  obtain ⟨r1,k5,k6,k7⟩ := HR.out.on _ (HY.out yy)
  obtain ⟨d0,d1⟩ := k5 q _ HQ'.out
  have z0' := k6 (q * 2)
  have z1' := k6 (q * 2 + 1)
  have HK7 := jH (k7 q u hq)
  have hT := (H.out.on (HY.out yy)).rows.vls k b HK.out
  obtain ⟨g5,c5',e6,h61,_,h63⟩ := hT.at (by omega)
  rw [e6] at hT
  have e7 := E5.out.symm.trans e6
  cases e7
  have d2 := hT.cell (Jj HU.out).1
  have d3 := hT.cell (Jj HU.out).2
  have f1' := f1 yy
  have f5' := f5 yy
  clear k5 k6 k7 hT e6 f0 f1 f2 f3 f4 f5
  go_wp2
  go_region
  go_wp2
  go_returns
  exact JC HK7.out.1 (Fr0.trans (Fr.of (HY.out yy)) HK7.out.2) jB.drew
end Ko
end Go.Proofs.YtjmgolahkgalbaaGreatDoor
