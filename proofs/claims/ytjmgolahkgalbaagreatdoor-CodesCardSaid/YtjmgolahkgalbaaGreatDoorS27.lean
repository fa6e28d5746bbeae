import Derived.Test.YtjmgolahkgalbaaGreatDoorS26
set_option linter.unusedVariables false
set_option linter.unusedSimpArgs false
set_option maxHeartbeats 20000000
namespace Go.Proofs.YtjmgolahkgalbaaGreatDoor
namespace Ko
open Go.RowKit Li
variable {s : ByteArray} {w : World} {r : Nat}
def szv (X : St) (u : V) : Int := match u with
 | .b i => (match X.bs[i]? with
   | some b => (b.fs.length : Int)
   | none => -1)
 | .n _ => -1
variable {κ : Kp} {X : St}
theorem jbb (h : RM s w r κ X) (u : V) (hu : Rb X.bs u) :
 Calls Tryz.prog 106 #[.pointer (some ⟨r,23,none⟩),.agg #[.bool (vb u),.int .i64 (vi u)]] w fun e w' => e = .returned (.int .i64 (szv X u)) /\ Below w.heap.size w w' := by
 cases u with
 | n z => exact jgy h z
 | b i =>
   obtain ⟨b,hb⟩ : ∃ b,X.bs[i]? = some b := ⟨_,List.getElem?_eq_getElem (hu i rfl)⟩
   have : szv X (.b i) = (b.fs.length : Int) := by unfold szv;simp only [hb]
   rw [this]
   exact jba h hb
structure LV (w : World) (op q x y p : Nat) (u : V) (W : World) : Prop where
 low : Below w.heap.size w W
 ln : W.heap[w.heap.size]? = some (.cells #[.int .i64 op,.int .i64 q,.int .i64 x,.int .i64 y,.int .i64 p] 116 (0,0))
 vl : W.heap[w.heap.size + 1]? = some (.cells #[.bool (vb u),.int .i64 (vi u)] 78 (0,0))
theorem jbe {op q x y p : Nat} {u : V} : LV w op q x y p u ((w.alloc (.cells #[.int .i64 op,.int .i64 q,.int .i64 x,.int .i64 y,.int .i64 p] 116 (0,0))).alloc (.cells #[.bool (vb u),.int .i64 (vi u)] 78 (0,0))) :=
 ⟨(jB.alloc jN _).alloc (by simp) _,jc (jg w _) ((Below.refl (w.alloc _).heap.size (w.alloc _)).alloc jN _) (by simp),j9 (w := w.alloc _) (by simp)⟩
theorem LV.on {w W W' : World} {op q x y p : Nat} {u : V} (h : LV w op q x y p u W) (hb : Below W.heap.size W W') : LV w op q x y p u W' :=
 ⟨h.low.trans (hb.mono h.low.size),jc h.ln hb (jb h.ln),jc h.vl hb (jb h.vl)⟩
theorem jjo (h : RM s w r κ X) {op q x y p : Nat} {u : V} (hu : vb u = false) :
 Calls Tryz.prog 85 #[.pointer (some ⟨r,0,none⟩),.agg #[.int .i64 op,.int .i64 q,.int .i64 x,.int .i64 y,.int .i64 p],.agg #[.bool (vb u),.int .i64 (vi u)]] w (EnP κ w r X 50 0) := by
 have H := jH h
 rw [hu]
 clear h
 go_enter Tryz.func85,Tryz.ntmps85
 go_wp2_with (first
  | (go_at_call 60;refine (JP (H.out.on ((jB.alloc jN _).alloc (by simp) _))).mono ?_;rintro _ w3 ⟨rfl,h3,f3⟩))
 go_returns
 exact ⟨rfl,κ,h3,Fr0.trans (Fr.of ((jB.alloc jN _).alloc (by simp) _)) f3⟩
set_option maxRecDepth 100000 in
theorem jjv (h : RM s w r κ X) {op q x y p : Nat} {u : V} (hu : vb u = true) (hr : Rb X.bs u) (hq : q < 8) :
 Calls Tryz.prog 85 #[.pointer (some ⟨r,0,none⟩),.agg #[.int .i64 op,.int .i64 q,.int .i64 x,.int .i64 y,.int .i64 p],.agg #[.bool (vb u),.int .i64 (vi u)]] w (OkP s κ w r (JU X q (.n (szv X u)))) := by
 have H := jH h
 have HU := jH hu
 have HR := jH hr
 have hlt := h.lt
 obtain ⟨Z,hZ⟩ : ∃ Z,szv X u = Z := ⟨_,rfl⟩
 have C1 : Hid (jC w 106 #[.pointer (some ⟨r,23,none⟩),.agg #[.bool (vb u),.int .i64 (vi u)]] (.int .i64 Z)) := fun W' hW => by rw [<- hZ];exact jbb (H.out.on hW) u HR.out
 have C2 : Hid (jD 82 #[.int .i64 Z] (.agg #[.bool false,.int .i64 Z])) := fun W' => jbD _ _
 rw [hZ]
 clear h hu hr hZ
 go_enter Tryz.func85,Tryz.ntmps85
 go_upto_region 1 with fail
 have hT := jbe (w := w) (op := op) (q := q) (x := x) (y := y) (p := p) (u := u)
 generalize (w.alloc (.cells #[.int .i64 op,.int .i64 q,.int .i64 x,.int .i64 y,.int .i64 p] 116 (0,0))).alloc (.cells #[.bool (vb u),.int .i64 (vi u)] 78 (0,0)) = W at hT ⊢
 have HT := jH hT
 have e0 : W.cell? ⟨w.heap.size + 1,0,none⟩ = some (.bool true) := by rw [<- HU.out];exact ja hT.vl 0 rfl
 go_wp2_with fail
 have f1 : ∀ yy : Wd W.heap.size W,yy.v.cell? ⟨w.heap.size,1,none⟩ = some (.int .i64 ((q : Nat))) := fun yy => Wd.at hT.ln (jb hT.ln) 1 rfl yy
 have g0 : ∀ yy : Wd W.heap.size W,yy.v.cell? ⟨w.heap.size + 1,0,none⟩ = some (.bool (vb u)) := fun yy => Wd.at hT.vl (jb hT.vl) 0 rfl yy
 have g1 : ∀ yy : Wd W.heap.size W,yy.v.cell? ⟨w.heap.size + 1,1,none⟩ = some (.int .i64 (vi u)) := fun yy => Wd.at hT.vl (jb hT.vl) 1 rfl yy
 have HY : Hid (∀ yy : Wd W.heap.size W,Below w.heap.size w yy.v) := fun yy => hT.low.trans (yy.h.mono hT.low.size)
 haveI := Wd.ne
 clear hT
 refine jP 9 10 (by kernel_rfl) (by kernel_rfl) (by decide) ?_
 simp only [TkD]
 iterate 7
  apply jd (by decide) (by rfl)
  ·intro yy;go_simp;all_goals with_reducible rfl
  simp only [Act.put,SsT]
 refine jd (by decide) (by rfl) (v := ?v7) ?hv7 ?_
 case hv7 => (intro yy;go_simp;exact C1.out _ (HY.out _))
 simp only [Act.put,SsT]
 refine jd (by decide) (by rfl) (v := ?v8) ?hv8 ?_
 case hv8 => (intro yy;go_simp;exact C2.out _)
 simp only [Act.put,SsT]
 refine js ?_
 intro yy
 go_wp2_with (first
  | (go_at_call 79;refine (J5 (H.out.on (HY.out yy)) hq (.n Z)).mono ?_;rintro _ w3 ⟨rfl,hm3,hf3⟩))
 go_returns
 exact ⟨rfl,κ,hm3,Fr0.trans (Fr.of (HY.out yy)) hf3⟩
set_option maxRecDepth 100000 in
theorem jdW (h : RM s w r κ X) {op q x y p m : Nat} {u : V} (hr : Rb X.bs u) (hs : szv X u <= m) :
 Calls Tryz.prog 86 #[.pointer (some ⟨r,0,none⟩),.agg #[.int .i64 op,.int .i64 q,.int .i64 x,.int .i64 y,.int .i64 p],.agg #[.bool (vb u),.int .i64 (vi u)],.int .i64 m] w (EnP κ w r X 50 0) := by
 have H := jH h
 have HR := jH hr
 have hlt := h.lt
 obtain ⟨Z,hZ⟩ : ∃ Z,szv X u = Z := ⟨_,rfl⟩
 have C1 : Hid (jC w 106 #[.pointer (some ⟨r,23,none⟩),.agg #[.bool (vb u),.int .i64 (vi u)]] (.int .i64 Z)) := fun W' hW => by rw [<- hZ];exact jbb (H.out.on hW) u HR.out
 rw [hZ] at hs
 have g9 : decide (Z <= (m : Int)) = true := by simpa using hs
 clear h hr hZ
 go_enter Tryz.func86,Tryz.ntmps86
 go_upto_region 1 with fail
 have hT := jbe (w := w) (op := op) (q := q) (x := x) (y := y) (p := p) (u := u)
 generalize (w.alloc (.cells #[.int .i64 op,.int .i64 q,.int .i64 x,.int .i64 y,.int .i64 p] 116 (0,0))).alloc (.cells #[.bool (vb u),.int .i64 (vi u)] 78 (0,0)) = W at hT ⊢
 have HT := jH hT
 have g0 : ∀ yy : Wd W.heap.size W,yy.v.cell? ⟨w.heap.size + 1,0,none⟩ = some (.bool (vb u)) := fun yy => Wd.at hT.vl (jb hT.vl) 0 rfl yy
 have g1 : ∀ yy : Wd W.heap.size W,yy.v.cell? ⟨w.heap.size + 1,1,none⟩ = some (.int .i64 (vi u)) := fun yy => Wd.at hT.vl (jb hT.vl) 1 rfl yy
 have HY : Hid (∀ yy : Wd W.heap.size W,Below w.heap.size w yy.v) := fun yy => hT.low.trans (yy.h.mono hT.low.size)
 haveI := Wd.ne
 clear hT
 refine jY (by kernel_rfl) (by kernel_rfl) ?_
 repeat (go_big_quiet_step ((go_at_call 106;exact jI jN (C1.out _ (HY.out _)))))
 refine wpQuiet_nil ?_
 intro y1
 have hT := HT.out.on y1.h
 clear g0 g1 HY
 generalize y1.v = W1 at hT ⊢
 go_wp2_with (first
  | (go_at_call 60;refine (JP (H.out.on hT.low)).mono ?_;rintro _ w3 ⟨rfl,h3,f3⟩))
 go_returns
 exact ⟨rfl,κ,h3,Fr0.trans (Fr.of hT.low) f3⟩
set_option maxRecDepth 100000 in
theorem jdV (h : RM s w r κ X) {op q x y p m i : Nat} {b : HB} {t : V} (hi : X.bs[i]? = some b) (hm : b.fs[m]? = some t) (hq : q < 8) :
 Calls Tryz.prog 86 #[.pointer (some ⟨r,0,none⟩),.agg #[.int .i64 op,.int .i64 q,.int .i64 x,.int .i64 y,.int .i64 p],.agg #[.bool true,.int .i64 i],.int .i64 m] w (OkP s κ w r (JU X q t)) := by
 have H := jH h
 have HI := jH hi
 have HMM := jH hm
 have hlt := h.lt
 obtain ⟨u,hue⟩ : ∃ u : V,u = .b i := ⟨_,rfl⟩
 have hml : m < b.fs.length := (jG hm).1
 have g9 : decide ((b.fs.length : Int) <= (m : Int)) = false := by simp;omega
 have C1 : Hid (jC w 106 #[.pointer (some ⟨r,23,none⟩),.agg #[.bool (vb u),.int .i64 (vi u)]] (.int .i64 b.fs.length)) := fun W' hW => by rw [hue];exact jba (H.out.on hW) HI.out
 have C2 : Hid (jC w 107 #[.pointer (some ⟨r,23,none⟩),.agg #[.bool (vb u),.int .i64 (vi u)],.int .i64 m] (.agg #[.bool (vb t),.int .i64 (vi t)])) := fun W' hW => by rw [hue];exact jfm (H.out.on hW) HI.out HMM.out
 have e1 : (.agg #[.bool true,.int .i64 i] : Value) = .agg #[.bool (vb u),.int .i64 (vi u)] := by rw [hue];rfl
 rw [e1]
 clear h hi hm hue e1
 go_enter Tryz.func86,Tryz.ntmps86
 go_upto_region 1 with fail
 have hT := jbe (w := w) (op := op) (q := q) (x := x) (y := y) (p := p) (u := u)
 generalize (w.alloc (.cells #[.int .i64 op,.int .i64 q,.int .i64 x,.int .i64 y,.int .i64 p] 116 (0,0))).alloc (.cells #[.bool (vb u),.int .i64 (vi u)] 78 (0,0)) = W at hT ⊢
 have HT := jH hT
 have g0 : ∀ yy : Wd W.heap.size W,yy.v.cell? ⟨w.heap.size + 1,0,none⟩ = some (.bool (vb u)) := fun yy => Wd.at hT.vl (jb hT.vl) 0 rfl yy
 have g1 : ∀ yy : Wd W.heap.size W,yy.v.cell? ⟨w.heap.size + 1,1,none⟩ = some (.int .i64 (vi u)) := fun yy => Wd.at hT.vl (jb hT.vl) 1 rfl yy
 have HY : Hid (∀ yy : Wd W.heap.size W,Below w.heap.size w yy.v) := fun yy => hT.low.trans (yy.h.mono hT.low.size)
 haveI := Wd.ne
 clear hT
 refine jY (by kernel_rfl) (by kernel_rfl) ?_
 repeat (go_big_quiet_step ((go_at_call 106;exact jI jN (C1.out _ (HY.out _)))))
 refine wpQuiet_nil ?_
 intro y1
 have hT := HT.out.on y1.h
 clear g0 g1 HY
 generalize y1.v = W1 at hT ⊢
 go_wp2_with fail
 have f1 : ∀ yy : Wd W1.heap.size W1,yy.v.cell? ⟨w.heap.size,1,none⟩ = some (.int .i64 ((q : Nat))) := fun yy => Wd.at hT.ln (jb hT.ln) 1 rfl yy
 have g0 : ∀ yy : Wd W1.heap.size W1,yy.v.cell? ⟨w.heap.size + 1,0,none⟩ = some (.bool (vb u)) := fun yy => Wd.at hT.vl (jb hT.vl) 0 rfl yy
 have g1 : ∀ yy : Wd W1.heap.size W1,yy.v.cell? ⟨w.heap.size + 1,1,none⟩ = some (.int .i64 (vi u)) := fun yy => Wd.at hT.vl (jb hT.vl) 1 rfl yy
 have HY : Hid (∀ yy : Wd W1.heap.size W1,Below w.heap.size w yy.v) := fun yy => hT.low.trans (yy.h.mono hT.low.size)
 haveI := Wd.ne
 clear hT
 refine jP 9 10 (by kernel_rfl) (by kernel_rfl) (by decide) ?_
 simp only [TkD]
 iterate 8
  apply jd (by decide) (by rfl)
  ·intro yy;go_simp;all_goals with_reducible rfl
  simp only [Act.put,SsT]
 refine jd (by decide) (by rfl) (v := ?v8) ?hv8 ?_
 case hv8 => (intro yy;go_simp;exact C2.out _ (HY.out _))
 simp only [Act.put,SsT]
 refine js ?_
 intro yy
 go_wp2_with (first
  | (go_at_call 79;refine (J5 (H.out.on (HY.out yy)) hq t).mono ?_;rintro _ w3 ⟨rfl,hm3,hf3⟩))
 go_returns
 exact ⟨rfl,κ,hm3,Fr0.trans (Fr.of (HY.out yy)) hf3⟩
set_option maxRecDepth 100000 in
theorem jeu (h : RM s w r κ X) {op q x y p m : Nat} {u : V} (hr : Rb X.bs u) (hs : szv X u <= m) :
 Calls Tryz.prog 87 #[.pointer (some ⟨r,0,none⟩),.agg #[.int .i64 op,.int .i64 q,.int .i64 x,.int .i64 y,.int .i64 p],.agg #[.bool (vb u),.int .i64 (vi u)],.int .i64 m] w (EnP κ w r X 50 0) := by
 have H := jH h
 have HR := jH hr
 have hlt := h.lt
 obtain ⟨Z,hZ⟩ : ∃ Z,szv X u = Z := ⟨_,rfl⟩
 have C1 : Hid (jC w 106 #[.pointer (some ⟨r,23,none⟩),.agg #[.bool (vb u),.int .i64 (vi u)]] (.int .i64 Z)) := fun W' hW => by rw [<- hZ];exact jbb (H.out.on hW) u HR.out
 rw [hZ] at hs
 have g9 : decide (Z <= (m : Int)) = true := by simpa using hs
 clear h hr hZ
 go_enter Tryz.func87,Tryz.ntmps87
 go_upto_region 1 with fail
 have hT := jbe (w := w) (op := op) (q := q) (x := x) (y := y) (p := p) (u := u)
 generalize (w.alloc (.cells #[.int .i64 op,.int .i64 q,.int .i64 x,.int .i64 y,.int .i64 p] 116 (0,0))).alloc (.cells #[.bool (vb u),.int .i64 (vi u)] 78 (0,0)) = W at hT ⊢
 have HT := jH hT
 have g0 : ∀ yy : Wd W.heap.size W,yy.v.cell? ⟨w.heap.size + 1,0,none⟩ = some (.bool (vb u)) := fun yy => Wd.at hT.vl (jb hT.vl) 0 rfl yy
 have g1 : ∀ yy : Wd W.heap.size W,yy.v.cell? ⟨w.heap.size + 1,1,none⟩ = some (.int .i64 (vi u)) := fun yy => Wd.at hT.vl (jb hT.vl) 1 rfl yy
 have HY : Hid (∀ yy : Wd W.heap.size W,Below w.heap.size w yy.v) := fun yy => hT.low.trans (yy.h.mono hT.low.size)
 haveI := Wd.ne
 clear hT
 refine jY (by kernel_rfl) (by kernel_rfl) ?_
 repeat (go_big_quiet_step ((go_at_call 106;exact jI jN (C1.out _ (HY.out _)))))
 refine wpQuiet_nil ?_
 intro y1
 have hT := HT.out.on y1.h
 clear g0 g1 HY
 generalize y1.v = W1 at hT ⊢
 go_wp2_with (first
  | (go_at_call 60;refine (JP (H.out.on hT.low)).mono ?_;rintro _ w3 ⟨rfl,h3,f3⟩))
 go_returns
 exact ⟨rfl,κ,h3,Fr0.trans (Fr.of hT.low) f3⟩
def jcw (X : St) (i m : Nat) (b : HB) (t : V) : St := { X with bs := X.bs.set i { b with fs := b.fs.set m t } }
set_option maxRecDepth 100000 in
theorem jet (h : RM s w r κ X) {op q x y p m i : Nat} {b : HB} (hi : X.bs[i]? = some b) (hml : m < b.fs.length) (hy : y < 8) :
 Calls Tryz.prog 87 #[.pointer (some ⟨r,0,none⟩),.agg #[.int .i64 op,.int .i64 q,.int .i64 x,.int .i64 y,.int .i64 p],.agg #[.bool true,.int .i64 i],.int .i64 m] w (OkP s κ w r (jcw X i m b (X.x.g y))) := by
 have H := jH h
 have HI := jH hi
 have hlt := h.lt
 obtain ⟨u,hue⟩ : ∃ u : V,u = .b i := ⟨_,rfl⟩
 have g9 : decide ((b.fs.length : Int) <= (m : Int)) = false := by simp;omega
 obtain ⟨t,ht⟩ : ∃ t,X.x.g y = t := ⟨_,rfl⟩
 have C1 : Hid (jC w 106 #[.pointer (some ⟨r,23,none⟩),.agg #[.bool (vb u),.int .i64 (vi u)]] (.int .i64 b.fs.length)) := fun W' hW => by rw [hue];exact jba (H.out.on hW) HI.out
 have C2 := jZ H.out hy ht
 have C3 : Hid (∀ W',Below w.heap.size w W' -> Calls Tryz.prog 108 #[.pointer (some ⟨r,23,none⟩),.agg #[.bool (vb u),.int .i64 (vi u)],.int .i64 m,.agg #[.bool (vb t),.int .i64 (vi t)]] W' fun e w' => e = .returned (.tuple #[]) /\ RM s w' r κ (jcw X i m b t) /\ Fr0 κ κ W' w') := fun W' hW => by rw [hue];exact jgB (H.out.on hW) t HI.out hml
 rw [ht]
 have e1 : (.agg #[.bool true,.int .i64 i] : Value) = .agg #[.bool (vb u),.int .i64 (vi u)] := by rw [hue];rfl
 rw [e1]
 clear h hi hue e1 ht
 go_enter Tryz.func87,Tryz.ntmps87
 go_upto_region 1 with fail
 have hT := jbe (w := w) (op := op) (q := q) (x := x) (y := y) (p := p) (u := u)
 generalize (w.alloc (.cells #[.int .i64 op,.int .i64 q,.int .i64 x,.int .i64 y,.int .i64 p] 116 (0,0))).alloc (.cells #[.bool (vb u),.int .i64 (vi u)] 78 (0,0)) = W at hT ⊢
 have HT := jH hT
 have g0 : ∀ yy : Wd W.heap.size W,yy.v.cell? ⟨w.heap.size + 1,0,none⟩ = some (.bool (vb u)) := fun yy => Wd.at hT.vl (jb hT.vl) 0 rfl yy
 have g1 : ∀ yy : Wd W.heap.size W,yy.v.cell? ⟨w.heap.size + 1,1,none⟩ = some (.int .i64 (vi u)) := fun yy => Wd.at hT.vl (jb hT.vl) 1 rfl yy
 have HY : Hid (∀ yy : Wd W.heap.size W,Below w.heap.size w yy.v) := fun yy => hT.low.trans (yy.h.mono hT.low.size)
 haveI := Wd.ne
 clear hT
 refine jY (by kernel_rfl) (by kernel_rfl) ?_
 repeat (go_big_quiet_step ((go_at_call 106;exact jI jN (C1.out _ (HY.out _)))))
 refine wpQuiet_nil ?_
 intro y1
 have hT := HT.out.on y1.h
 clear g0 g1 HY
 generalize y1.v = W1 at hT ⊢
 go_wp2_with fail
 have f3 : ∀ yy : Wd W1.heap.size W1,yy.v.cell? ⟨w.heap.size,3,none⟩ = some (.int .i64 ((y : Nat))) := fun yy => Wd.at hT.ln (jb hT.ln) 3 rfl yy
 have g0 : ∀ yy : Wd W1.heap.size W1,yy.v.cell? ⟨w.heap.size + 1,0,none⟩ = some (.bool (vb u)) := fun yy => Wd.at hT.vl (jb hT.vl) 0 rfl yy
 have g1 : ∀ yy : Wd W1.heap.size W1,yy.v.cell? ⟨w.heap.size + 1,1,none⟩ = some (.int .i64 (vi u)) := fun yy => Wd.at hT.vl (jb hT.vl) 1 rfl yy
 have HY : Hid (∀ yy : Wd W1.heap.size W1,Below w.heap.size w yy.v) := fun yy => hT.low.trans (yy.h.mono hT.low.size)
 haveI := Wd.ne
 clear hT
 refine jP 9 10 (by kernel_rfl) (by kernel_rfl) (by decide) ?_
 simp only [TkD]
 iterate 8
  apply jd (by decide) (by rfl)
  ·intro yy;go_simp;all_goals with_reducible rfl
  simp only [Act.put,SsT]
 refine jd (by decide) (by rfl) (v := ?v8) ?hv8 ?_
 case hv8 => (intro yy;go_simp;exact C2.out _ (HY.out _))
 simp only [Act.put,SsT]
 refine js ?_
 intro yy
 go_wp2_with (first
  | (go_at_call 108;refine (C3.out _ (HY.out yy)).mono ?_;rintro _ w3 ⟨rfl,hm3,hf3⟩))
 go_returns
 exact ⟨rfl,κ,hm3,Fr0.trans (Fr.of (HY.out yy)) hf3⟩
structure Good (κ : Kp) (Q : World -> Ending -> World -> Prop) : Prop where
 ret : ∀ W e w',Q W e w' -> e = .returned (.tuple #[])
 pre : ∀ w W e w',Fr0 κ κ w W -> Q W e w' -> Q w e w'
theorem jjV (s : ByteArray) (κ : Kp) (r : Nat) (X : St) : Good κ (fun w => OkP s κ w r X) := ⟨fun W e w' h => h.1,fun w W e w' hf ⟨h1,κ',h2,h3⟩ => ⟨h1,κ',h2,Fr0.trans hf h3⟩⟩
theorem jj0 (κ : Kp) (r : Nat) (X : St) (a b : Nat) : Good κ (fun w => EnP κ w r X a b) := ⟨fun W e w' h => h.1,fun w W e w' hf ⟨h1,κ',h2,h3⟩ => ⟨h1,κ',h2,Fr0.trans hf h3⟩⟩
theorem jmT {α : Type} {Q : α -> World -> Ending -> World -> Prop} (h : ∀ a,Good κ (Q a)) : Good κ (fun w e w' => ∃ a,Q a w e w') := ⟨fun W e w' ⟨a,h1⟩ => (h a).ret W e w' h1,fun w W e w' hf ⟨a,h1⟩ => ⟨a,(h a).pre w W e w' hf h1⟩⟩
structure LVV (w : World) (op q x y p : Nat) (u t : V) (W : World) : Prop where
 low : Below w.heap.size w W
 ln : W.heap[w.heap.size]? = some (.cells #[.int .i64 op,.int .i64 q,.int .i64 x,.int .i64 y,.int .i64 p] 116 (0,0))
 vl : W.heap[w.heap.size + 1]? = some (.cells #[.bool (vb u),.int .i64 (vi u)] 78 (0,0))
 vt : W.heap[w.heap.size + 1 + 1]? = some (.cells #[.bool (vb t),.int .i64 (vi t)] 78 (0,0))
theorem jcg {op q x y p : Nat} {u t : V} : LVV w op q x y p u t (((w.alloc (.cells #[.int .i64 op,.int .i64 q,.int .i64 x,.int .i64 y,.int .i64 p] 116 (0,0))).alloc (.cells #[.bool (vb u),.int .i64 (vi u)] 78 (0,0))).alloc (.cells #[.bool (vb t),.int .i64 (vi t)] 78 (0,0))) := by
 have h := jbe (w := w) (op := op) (q := q) (x := x) (y := y) (p := p) (u := u)
 have hA := (Below.refl ((w.alloc (.cells #[.int .i64 op,.int .i64 q,.int .i64 x,.int .i64 y,.int .i64 p] 116 (0,0))).alloc (.cells #[.bool (vb u),.int .i64 (vi u)] 78 (0,0))).heap.size _).alloc jN (.cells #[.bool (vb t),.int .i64 (vi t)] 78 (0,0))
 have h2 := h.on hA
 exact ⟨h2.low,h2.ln,h2.vl,j9 (by simp)⟩
theorem LVV.on {w W W' : World} {op q x y p : Nat} {u t : V} (h : LVV w op q x y p u t W) (hb : Below W.heap.size W W') : LVV w op q x y p u t W' :=
 ⟨h.low.trans (hb.mono h.low.size),jc h.ln hb (jb h.ln),jc h.vl hb (jb h.vl),jc h.vt hb (jb h.vt)⟩
def NoP (κ : Kp) (w : World) (r : Nat) (X : St) (er p : Nat) (e : Ending) (w' : World) : Prop := e = .returned (.bool false) /\ EnP κ w r X er p (.returned (.tuple #[])) w'
set_option maxRecDepth 100000 in
theorem jcf (h : RM s w r κ X) {op q x y p : Nat} {u t : V} (hb : vb u = false \/ vb t = true) :
 Calls Tryz.prog 88 #[.pointer (some ⟨r,0,none⟩),.agg #[.int .i64 op,.int .i64 q,.int .i64 x,.int .i64 y,.int .i64 p],.agg #[.bool (vb u),.int .i64 (vi u)],.agg #[.bool (vb t),.int .i64 (vi t)]] w (NoP κ w r X 50 0) := by
 have H := jH h
 have HB := jH hb
 clear h hb
 go_enter Tryz.func88,Tryz.ntmps88
 go_upto_region 1 with fail
 have hT := jcg (w := w) (op := op) (q := q) (x := x) (y := y) (p := p) (u := u) (t := t)
 generalize ((w.alloc (.cells #[.int .i64 op,.int .i64 q,.int .i64 x,.int .i64 y,.int .i64 p] 116 (0,0))).alloc (.cells #[.bool (vb u),.int .i64 (vi u)] 78 (0,0))).alloc (.cells #[.bool (vb t),.int .i64 (vi t)] 78 (0,0)) = W at hT ⊢
 have HT := jH hT
 have l4 : W.cell? ⟨w.heap.size,4,none⟩ = some (.int .i64 p) := ja hT.ln 4 rfl
 have u0 : W.cell? ⟨w.heap.size + 1,0,none⟩ = some (.bool (vb u)) := ja hT.vl 0 rfl
 have t0 : W.cell? ⟨w.heap.size + 1 + 1,0,none⟩ = some (.bool (vb t)) := ja hT.vt 0 rfl
 clear hT
 cases hu : vb u with
 | false =>
   rw [hu] at u0
   go_wp2_with (first
    | (go_at_call 60;refine (JP (H.out.on HT.out.low)).mono ?_;rintro _ w3 ⟨rfl,h3,f3⟩))
   go_ret
   exact ⟨rfl,rfl,κ,h3,Fr0.trans (Fr.of HT.out.low) f3⟩
 | true =>
   have ht : vb t = true := HB.out.resolve_left (by rw [hu];decide)
   rw [hu] at u0
   rw [ht] at t0
   go_wp2_with (first
    | (go_at_call 60;refine (JP (H.out.on HT.out.low)).mono ?_;rintro _ w3 ⟨rfl,h3,f3⟩))
   go_ret
   exact ⟨rfl,rfl,κ,h3,Fr0.trans (Fr.of HT.out.low) f3⟩
set_option maxRecDepth 100000 in
theorem jeH (h : RM s w r κ X) {op q x y p : Nat} {u t : V} (hr : Rb X.bs u) (hu : vb u = true) (ht : vb t = false) (hs : vi t < 0 /\ szv X u = szv X u) :
 Calls Tryz.prog 88 #[.pointer (some ⟨r,0,none⟩),.agg #[.int .i64 op,.int .i64 q,.int .i64 x,.int .i64 y,.int .i64 p],.agg #[.bool (vb u),.int .i64 (vi u)],.agg #[.bool (vb t),.int .i64 (vi t)]] w (NoP κ w r X 30 p) := by
 have H := jH h
 have HR := jH hr
 have HU := jH hu
 have HTT := jH ht
 have hlt := h.lt
 obtain ⟨Z,hZ⟩ : ∃ Z,szv X u = Z := ⟨_,rfl⟩
 have C1 : Hid (jC w 106 #[.pointer (some ⟨r,23,none⟩),.agg #[.bool (vb u),.int .i64 (vi u)]] (.int .i64 Z)) := fun W' hW => by rw [<- hZ];exact jbb (H.out.on hW) u HR.out
 rw [hZ] at hs
 clear h hr hZ hu ht
 have g9 : decide (vi t < 0) = true := by simpa using hs.1
 clear hs
 go_enter Tryz.func88,Tryz.ntmps88
 go_upto_region 1 with fail
 have hT := jcg (w := w) (op := op) (q := q) (x := x) (y := y) (p := p) (u := u) (t := t)
 generalize ((w.alloc (.cells #[.int .i64 op,.int .i64 q,.int .i64 x,.int .i64 y,.int .i64 p] 116 (0,0))).alloc (.cells #[.bool (vb u),.int .i64 (vi u)] 78 (0,0))).alloc (.cells #[.bool (vb t),.int .i64 (vi t)] 78 (0,0)) = W at hT ⊢
 have HT := jH hT
 have l4 : W.cell? ⟨w.heap.size,4,none⟩ = some (.int .i64 p) := ja hT.ln 4 rfl
 have u0 : W.cell? ⟨w.heap.size + 1,0,none⟩ = some (.bool (vb u)) := ja hT.vl 0 rfl
 have t0 : W.cell? ⟨w.heap.size + 1 + 1,0,none⟩ = some (.bool (vb t)) := ja hT.vt 0 rfl
 rw [HU.out] at u0
 rw [HTT.out] at t0
 have g0 : ∀ yy : Wd W.heap.size W,yy.v.cell? ⟨w.heap.size + 1,0,none⟩ = some (.bool (vb u)) := fun yy => Wd.at hT.vl (jb hT.vl) 0 rfl yy
 have g1 : ∀ yy : Wd W.heap.size W,yy.v.cell? ⟨w.heap.size + 1,1,none⟩ = some (.int .i64 (vi u)) := fun yy => Wd.at hT.vl (jb hT.vl) 1 rfl yy
 have g2 : ∀ yy : Wd W.heap.size W,yy.v.cell? ⟨w.heap.size + 1 + 1,1,none⟩ = some (.int .i64 (vi t)) := fun yy => Wd.at hT.vt (jb hT.vt) 1 rfl yy
 have HY : Hid (∀ yy : Wd W.heap.size W,Below w.heap.size w yy.v) := fun yy => hT.low.trans (yy.h.mono hT.low.size)
 haveI := Wd.ne
 clear hT
 go_wp2_with fail
 refine jY (by kernel_rfl) (by kernel_rfl) ?_
 repeat (go_big_quiet_step ((go_at_call 106;exact jI jN (C1.out _ (HY.out _)))))
 refine wpQuiet_nil ?_
 intro y1
 have hT := HT.out.on y1.h
 have l4' : y1.v.cell? ⟨w.heap.size,4,none⟩ = some (.int .i64 p) := ja hT.ln 4 rfl
 go_wp2_with (first
  | (go_at_call 81;refine (end_any (H.out.on hT.low) 30 p).mono ?_;rintro _ w3 ⟨rfl,h3,f3⟩))
 go_ret
 exact ⟨rfl,rfl,κ,h3,Fr0.trans (Fr.of hT.low) f3⟩
set_option maxRecDepth 100000 in
theorem jeI (h : RM s w r κ X) {op q x y p : Nat} {u t : V} (hr : Rb X.bs u) (hu : vb u = true) (ht : vb t = false) (hs : 0 <= vi t /\ szv X u <= vi t) :
 Calls Tryz.prog 88 #[.pointer (some ⟨r,0,none⟩),.agg #[.int .i64 op,.int .i64 q,.int .i64 x,.int .i64 y,.int .i64 p],.agg #[.bool (vb u),.int .i64 (vi u)],.agg #[.bool (vb t),.int .i64 (vi t)]] w (NoP κ w r X 30 p) := by
 have H := jH h
 have HR := jH hr
 have HU := jH hu
 have HTT := jH ht
 have hlt := h.lt
 obtain ⟨Z,hZ⟩ : ∃ Z,szv X u = Z := ⟨_,rfl⟩
 have C1 : Hid (jC w 106 #[.pointer (some ⟨r,23,none⟩),.agg #[.bool (vb u),.int .i64 (vi u)]] (.int .i64 Z)) := fun W' hW => by rw [<- hZ];exact jbb (H.out.on hW) u HR.out
 rw [hZ] at hs
 clear h hr hZ hu ht
 have g9 : decide (vi t < 0) = false := by simp;omega
 have g8 : decide (Z <= vi t) = true := by simpa using hs.2
 clear hs
 go_enter Tryz.func88,Tryz.ntmps88
 go_upto_region 1 with fail
 have hT := jcg (w := w) (op := op) (q := q) (x := x) (y := y) (p := p) (u := u) (t := t)
 generalize ((w.alloc (.cells #[.int .i64 op,.int .i64 q,.int .i64 x,.int .i64 y,.int .i64 p] 116 (0,0))).alloc (.cells #[.bool (vb u),.int .i64 (vi u)] 78 (0,0))).alloc (.cells #[.bool (vb t),.int .i64 (vi t)] 78 (0,0)) = W at hT ⊢
 have HT := jH hT
 have l4 : W.cell? ⟨w.heap.size,4,none⟩ = some (.int .i64 p) := ja hT.ln 4 rfl
 have u0 : W.cell? ⟨w.heap.size + 1,0,none⟩ = some (.bool (vb u)) := ja hT.vl 0 rfl
 have t0 : W.cell? ⟨w.heap.size + 1 + 1,0,none⟩ = some (.bool (vb t)) := ja hT.vt 0 rfl
 rw [HU.out] at u0
 rw [HTT.out] at t0
 have g0 : ∀ yy : Wd W.heap.size W,yy.v.cell? ⟨w.heap.size + 1,0,none⟩ = some (.bool (vb u)) := fun yy => Wd.at hT.vl (jb hT.vl) 0 rfl yy
 have g1 : ∀ yy : Wd W.heap.size W,yy.v.cell? ⟨w.heap.size + 1,1,none⟩ = some (.int .i64 (vi u)) := fun yy => Wd.at hT.vl (jb hT.vl) 1 rfl yy
 have g2 : ∀ yy : Wd W.heap.size W,yy.v.cell? ⟨w.heap.size + 1 + 1,1,none⟩ = some (.int .i64 (vi t)) := fun yy => Wd.at hT.vt (jb hT.vt) 1 rfl yy
 have HY : Hid (∀ yy : Wd W.heap.size W,Below w.heap.size w yy.v) := fun yy => hT.low.trans (yy.h.mono hT.low.size)
 haveI := Wd.ne
 clear hT
 go_wp2_with fail
 refine jY (by kernel_rfl) (by kernel_rfl) ?_
 repeat (go_big_quiet_step ((go_at_call 106;exact jI jN (C1.out _ (HY.out _)))))
 refine wpQuiet_nil ?_
 intro y1
 have hT := HT.out.on y1.h
 have l4' : y1.v.cell? ⟨w.heap.size,4,none⟩ = some (.int .i64 p) := ja hT.ln 4 rfl
 go_wp2_with (first
  | (go_at_call 81;refine (end_any (H.out.on hT.low) 30 p).mono ?_;rintro _ w3 ⟨rfl,h3,f3⟩))
 go_ret
 exact ⟨rfl,rfl,κ,h3,Fr0.trans (Fr.of hT.low) f3⟩
set_option maxRecDepth 100000 in
theorem jeG (h : RM s w r κ X) {op q x y p : Nat} {u t : V} (hr : Rb X.bs u) (hu : vb u = true) (ht : vb t = false) (hs : 0 <= vi t /\ vi t < szv X u) :
 Calls Tryz.prog 88 #[.pointer (some ⟨r,0,none⟩),.agg #[.int .i64 op,.int .i64 q,.int .i64 x,.int .i64 y,.int .i64 p],.agg #[.bool (vb u),.int .i64 (vi u)],.agg #[.bool (vb t),.int .i64 (vi t)]] w fun e w' => e = .returned (.bool true) /\ Below w.heap.size w w' := by
 have H := jH h
 have HR := jH hr
 have HU := jH hu
 have HTT := jH ht
 have hlt := h.lt
 obtain ⟨Z,hZ⟩ : ∃ Z,szv X u = Z := ⟨_,rfl⟩
 have C1 : Hid (jC w 106 #[.pointer (some ⟨r,23,none⟩),.agg #[.bool (vb u),.int .i64 (vi u)]] (.int .i64 Z)) := fun W' hW => by rw [<- hZ];exact jbb (H.out.on hW) u HR.out
 rw [hZ] at hs
 clear h hr hZ hu ht
 have g9 : decide (vi t < 0) = false := by simp;omega
 have g8 : decide (Z <= vi t) = false := by simp;omega
 clear hs
 go_enter Tryz.func88,Tryz.ntmps88
 go_upto_region 1 with fail
 have hT := jcg (w := w) (op := op) (q := q) (x := x) (y := y) (p := p) (u := u) (t := t)
 generalize ((w.alloc (.cells #[.int .i64 op,.int .i64 q,.int .i64 x,.int .i64 y,.int .i64 p] 116 (0,0))).alloc (.cells #[.bool (vb u),.int .i64 (vi u)] 78 (0,0))).alloc (.cells #[.bool (vb t),.int .i64 (vi t)] 78 (0,0)) = W at hT ⊢
 have HT := jH hT
 have l4 : W.cell? ⟨w.heap.size,4,none⟩ = some (.int .i64 p) := ja hT.ln 4 rfl
 have u0 : W.cell? ⟨w.heap.size + 1,0,none⟩ = some (.bool (vb u)) := ja hT.vl 0 rfl
 have t0 : W.cell? ⟨w.heap.size + 1 + 1,0,none⟩ = some (.bool (vb t)) := ja hT.vt 0 rfl
 rw [HU.out] at u0
 rw [HTT.out] at t0
 have g0 : ∀ yy : Wd W.heap.size W,yy.v.cell? ⟨w.heap.size + 1,0,none⟩ = some (.bool (vb u)) := fun yy => Wd.at hT.vl (jb hT.vl) 0 rfl yy
 have g1 : ∀ yy : Wd W.heap.size W,yy.v.cell? ⟨w.heap.size + 1,1,none⟩ = some (.int .i64 (vi u)) := fun yy => Wd.at hT.vl (jb hT.vl) 1 rfl yy
 have g2 : ∀ yy : Wd W.heap.size W,yy.v.cell? ⟨w.heap.size + 1 + 1,1,none⟩ = some (.int .i64 (vi t)) := fun yy => Wd.at hT.vt (jb hT.vt) 1 rfl yy
 have HY : Hid (∀ yy : Wd W.heap.size W,Below w.heap.size w yy.v) := fun yy => hT.low.trans (yy.h.mono hT.low.size)
 haveI := Wd.ne
 clear hT
 go_wp2_with fail
 refine jY (by kernel_rfl) (by kernel_rfl) ?_
 repeat (go_big_quiet_step ((go_at_call 106;exact jI jN (C1.out _ (HY.out _)))))
 refine wpQuiet_nil ?_
 intro y1
 have hT := HT.out.on y1.h
 have l4' : y1.v.cell? ⟨w.heap.size,4,none⟩ = some (.int .i64 p) := ja hT.ln 4 rfl
 go_wp2_with fail
 go_ret
 exact ⟨rfl,hT.low⟩
theorem andm {n : Nat} (h : n < 65536) : bits BinOp.and IntKind.i64 (n : Int) 7 = ((n % 8 : Nat) : Int) := by
 have := Ro.i64_and n 7 (by omega) (by decide)
 rw [show ((7 : Nat) : Int) = 7 from rfl] at this
 rw [this,show (7 : Nat) = 2 ^ 3 - 1 from rfl,Nat.and_two_pow_sub_one_eq_mod]
theorem jhf (h : RM s w r κ X) {n : Nat} (hn : n < 65536) :
 Calls Tryz.prog 80 #[.pointer (some ⟨r,0,none⟩),.int .i64 n] w fun e w' => e = .returned (.agg #[.bool (vb (X.x.g (n % 8))),.int .i64 (vi (X.x.g (n % 8)))]) /\ Below w.heap.size w w' := by
 obtain ⟨q1,q2⟩ := h.run.reg (n := n % 8) (by omega)
 have h7 := andm hn
 have hlt := h.lt
 obtain ⟨m,hm⟩ : ∃ m,n % 8 = m := ⟨_,rfl⟩
 rw [hm] at q1 q2 h7 ⊢
 have hm8 : m < 8 := by omega
 clear h hm
 go_enter Tryz.func80,Tryz.ntmps80
 go_wp2
 go_returns
 exact ⟨rfl,jB.alloc jN _⟩
theorem bb1 {w w1 : World} {o1 : Obj} (hb : Below (w.alloc o1).heap.size (w.alloc o1) w1) (o2 : Obj) : Below w.heap.size w (w1.alloc o2) := b2 hb
theorem bb2 {w w1 w2 : World} {o1 o2 : Obj} (hb : Below (w.alloc o1).heap.size (w.alloc o1) w1) (hb2 : Below (w1.alloc o2).heap.size (w1.alloc o2) w2) : Below w.heap.size w w2 := (jp hb).trans ((jp hb2).mono (jp hb).size)
set_option maxRecDepth 100000 in
theorem jf5 (h : RM s w r κ X) {q x y p : Nat} {u : V} (hx : x < 8) (hu : X.x.g x = u) {Q : World -> Ending -> World -> Prop} (hQ : Good κ Q) (hC : ∀ W,RM s W r κ X -> Calls Tryz.prog 85 #[.pointer (some ⟨r,0,none⟩),.agg #[.int .i64 26,.int .i64 q,.int .i64 x,.int .i64 y,.int .i64 p],.agg #[.bool (vb u),.int .i64 (vi u)]] W (Q W)) :
 Calls Tryz.prog 55 #[.pointer (some ⟨r,0,none⟩),.agg #[.int .i64 26,.int .i64 q,.int .i64 x,.int .i64 y,.int .i64 p]] w (Q w) := by
 have H := jH h
 have HQ := jH hQ
 have HC := jH hC
 have CX := jZ h hx hu
 clear h hu hQ hC
 go_enter Tryz.func55,Tryz.ntmps55
 go_wp2_with (first
  | (go_at_call 80;refine (CX.out _ (jB.alloc jN _)).mono ?_;rintro _ w1 ⟨rfl,hb1⟩;have l0w1 : w1.cell? ⟨w.heap.size,0,none⟩ = some (.int .i64 (26)) := ja (boxed hb1) 0 rfl;have l1w1 : w1.cell? ⟨w.heap.size,1,none⟩ = some (.int .i64 ((q : Nat))) := ja (boxed hb1) 1 rfl;have l2w1 : w1.cell? ⟨w.heap.size,2,none⟩ = some (.int .i64 ((x : Nat))) := ja (boxed hb1) 2 rfl;have l3w1 : w1.cell? ⟨w.heap.size,3,none⟩ = some (.int .i64 ((y : Nat))) := ja (boxed hb1) 3 rfl;have l4w1 : w1.cell? ⟨w.heap.size,4,none⟩ = some (.int .i64 ((p : Nat))) := ja (boxed hb1) 4 rfl;have hw1 := jb (boxed hb1))
  | (go_at_call 85;refine (HC.out _ (H.out.on (bb1 hb1 _))).mono ?_;intro e3 w3 hq3;have he3 := HQ.out.ret _ _ _ hq3;subst he3))
 go_returns
 exact HQ.out.pre _ _ _ _ (Fr.of (bb1 hb1 _)) hq3
set_option maxRecDepth 100000 in
theorem jf7 (h : RM s w r κ X) {q x y p : Nat} {u : V} (hx : x < 8) (hu : X.x.g x = u) {Q : World -> Ending -> World -> Prop} (hQ : Good κ Q) (hC : ∀ W,RM s W r κ X -> Calls Tryz.prog 86 #[.pointer (some ⟨r,0,none⟩),.agg #[.int .i64 22,.int .i64 q,.int .i64 x,.int .i64 y,.int .i64 p],.agg #[.bool (vb u),.int .i64 (vi u)],.int .i64 y] W (Q W)) :
 Calls Tryz.prog 55 #[.pointer (some ⟨r,0,none⟩),.agg #[.int .i64 22,.int .i64 q,.int .i64 x,.int .i64 y,.int .i64 p]] w (Q w) := by
 have H := jH h
 have HQ := jH hQ
 have HC := jH hC
 have CX := jZ h hx hu
 clear h hu hQ hC
 go_enter Tryz.func55,Tryz.ntmps55
 go_wp2_with (first
  | (go_at_call 80;refine (CX.out _ (jB.alloc jN _)).mono ?_;rintro _ w1 ⟨rfl,hb1⟩;have l0w1 : w1.cell? ⟨w.heap.size,0,none⟩ = some (.int .i64 (22)) := ja (boxed hb1) 0 rfl;have l1w1 : w1.cell? ⟨w.heap.size,1,none⟩ = some (.int .i64 ((q : Nat))) := ja (boxed hb1) 1 rfl;have l2w1 : w1.cell? ⟨w.heap.size,2,none⟩ = some (.int .i64 ((x : Nat))) := ja (boxed hb1) 2 rfl;have l3w1 : w1.cell? ⟨w.heap.size,3,none⟩ = some (.int .i64 ((y : Nat))) := ja (boxed hb1) 3 rfl;have l4w1 : w1.cell? ⟨w.heap.size,4,none⟩ = some (.int .i64 ((p : Nat))) := ja (boxed hb1) 4 rfl;have hw1 := jb (boxed hb1))
  | (go_at_call 86;refine (HC.out _ (H.out.on (bb1 hb1 _))).mono ?_;intro e3 w3 hq3;have he3 := HQ.out.ret _ _ _ hq3;subst he3))
 go_returns
 exact HQ.out.pre _ _ _ _ (Fr.of (bb1 hb1 _)) hq3
set_option maxRecDepth 100000 in
theorem jf3 (h : RM s w r κ X) {q x y p : Nat} {u : V} (hx : x < 65536) (hq : q < 8) (hu : X.x.g q = u) {Q : World -> Ending -> World -> Prop} (hQ : Good κ Q) (hC : ∀ W,RM s W r κ X -> Calls Tryz.prog 87 #[.pointer (some ⟨r,0,none⟩),.agg #[.int .i64 21,.int .i64 q,.int .i64 x,.int .i64 y,.int .i64 p],.agg #[.bool (vb u),.int .i64 (vi u)],.int .i64 x] W (Q W)) :
 Calls Tryz.prog 55 #[.pointer (some ⟨r,0,none⟩),.agg #[.int .i64 21,.int .i64 q,.int .i64 x,.int .i64 y,.int .i64 p]] w (Q w) := by
 have H := jH h
 have HQ := jH hQ
 have HC := jH hC
 obtain ⟨t,ht⟩ : ∃ t,X.x.g (x % 8) = t := ⟨_,rfl⟩
 have CX : Hid (jC w 80 #[.pointer (some ⟨r,0,none⟩),.int .i64 x] (.agg #[.bool (vb t),.int .i64 (vi t)])) := fun W' hW => by have := jhf (h.on hW) hx;rw [ht] at this;exact this
 have CQ := jZ h hq hu
 have HTOP := jH h.top
 clear h hu hQ hC ht
 go_enter Tryz.func55,Tryz.ntmps55
 go_wp2_with (first
  | (go_at_call_of 80 x;refine (CX.out _ (jB.alloc jN _)).mono ?_;rintro _ w1 ⟨rfl,hb1⟩;have l0w1 : w1.cell? ⟨w.heap.size,0,none⟩ = some (.int .i64 (21)) := ja (boxed hb1) 0 rfl;have l1w1 : w1.cell? ⟨w.heap.size,1,none⟩ = some (.int .i64 ((q : Nat))) := ja (boxed hb1) 1 rfl;have l2w1 : w1.cell? ⟨w.heap.size,2,none⟩ = some (.int .i64 ((x : Nat))) := ja (boxed hb1) 2 rfl;have l3w1 : w1.cell? ⟨w.heap.size,3,none⟩ = some (.int .i64 ((y : Nat))) := ja (boxed hb1) 3 rfl;have l4w1 : w1.cell? ⟨w.heap.size,4,none⟩ = some (.int .i64 ((p : Nat))) := ja (boxed hb1) 4 rfl;have hw1 := jb (boxed hb1))
  | (go_at_call 80;refine (CQ.out _ (bb1 hb1 _)).mono ?_;rintro _ w2 ⟨rfl,hb2⟩;have l0w2 : w2.cell? ⟨w.heap.size,0,none⟩ = some (.int .i64 (21)) := ja (jc (boxed hb1) (jp hb2) (jb (boxed hb1))) 0 rfl;have l1w2 : w2.cell? ⟨w.heap.size,1,none⟩ = some (.int .i64 ((q : Nat))) := ja (jc (boxed hb1) (jp hb2) (jb (boxed hb1))) 1 rfl;have l2w2 : w2.cell? ⟨w.heap.size,2,none⟩ = some (.int .i64 ((x : Nat))) := ja (jc (boxed hb1) (jp hb2) (jb (boxed hb1))) 2 rfl;have l3w2 : w2.cell? ⟨w.heap.size,3,none⟩ = some (.int .i64 ((y : Nat))) := ja (jc (boxed hb1) (jp hb2) (jb (boxed hb1))) 3 rfl;have l4w2 : w2.cell? ⟨w.heap.size,4,none⟩ = some (.int .i64 ((p : Nat))) := ja (jc (boxed hb1) (jp hb2) (jb (boxed hb1))) 4 rfl;have hbx2 := boxed hb2;have HBX2 := jH hbx2;obtain ⟨r0,r1,r3,r4,r5,r6⟩ := Jk hbx2;have hwl := jb hbx2;clear hbx2)
  | (go_at_call 87;refine (HC.out _ ((H.out.on (bb2 hb1 hb2)).other (b := w1.heap.size) (fun k i _ e => by rw [HTOP.out _ (jp hb1).size] at e;cases e) (((Lone.refl _ _).set 0 _).set 1 _))).mono ?_;intro e3 w3 hq3;have he3 := HQ.out.ret _ _ _ hq3;subst he3))
 go_returns
 exact HQ.out.pre _ _ _ _ (Fr.new (Fr.of (bb2 hb1 hb2)) (jp hb1).size (((Lone.refl _ _).set 0 _).set 1 _)) hq3
set_option maxRecDepth 100000 in
theorem jb4 (h : RM s w r κ X) {q x y p : Nat} {u t : V} (hx : x < 8) (hy : y < 8) (hu : X.x.g x = u) (ht : X.x.g y = t) {Q : World -> Ending -> World -> Prop} (hQ : Good κ Q) (hM : ∀ W,RM s W r κ X -> Calls Tryz.prog 88 #[.pointer (some ⟨r,0,none⟩),.agg #[.int .i64 24,.int .i64 q,.int .i64 x,.int .i64 y,.int .i64 p],.agg #[.bool (vb u),.int .i64 (vi u)],.agg #[.bool (vb t),.int .i64 (vi t)]] W fun e w' => e = .returned (.bool false) /\ Q W (.returned (.tuple #[])) w') :
 Calls Tryz.prog 55 #[.pointer (some ⟨r,0,none⟩),.agg #[.int .i64 24,.int .i64 q,.int .i64 x,.int .i64 y,.int .i64 p]] w (Q w) := by
 have H := jH h
 have HQ := jH hQ
 have HMI := jH hM
 have CX := jZ h hx hu
 have CY := jZ h hy ht
 clear h hu ht hQ hM
 go_enter Tryz.func55,Tryz.ntmps55
 go_wp2_with (first
  | (go_at_call_of 80 x;refine (CX.out _ (jB.alloc jN _)).mono ?_;rintro _ w1 ⟨rfl,hb1⟩;have l0w1 : w1.cell? ⟨w.heap.size,0,none⟩ = some (.int .i64 (24)) := ja (boxed hb1) 0 rfl;have l1w1 : w1.cell? ⟨w.heap.size,1,none⟩ = some (.int .i64 ((q : Nat))) := ja (boxed hb1) 1 rfl;have l2w1 : w1.cell? ⟨w.heap.size,2,none⟩ = some (.int .i64 ((x : Nat))) := ja (boxed hb1) 2 rfl;have l3w1 : w1.cell? ⟨w.heap.size,3,none⟩ = some (.int .i64 ((y : Nat))) := ja (boxed hb1) 3 rfl;have l4w1 : w1.cell? ⟨w.heap.size,4,none⟩ = some (.int .i64 ((p : Nat))) := ja (boxed hb1) 4 rfl;have hw1 := jb (boxed hb1))
  | (go_at_call 80;refine (CY.out _ (bb1 hb1 _)).mono ?_;rintro _ w2 ⟨rfl,hb2⟩;have l0w2 : w2.cell? ⟨w.heap.size,0,none⟩ = some (.int .i64 (24)) := ja (jc (boxed hb1) (jp hb2) (jb (boxed hb1))) 0 rfl;have l1w2 : w2.cell? ⟨w.heap.size,1,none⟩ = some (.int .i64 ((q : Nat))) := ja (jc (boxed hb1) (jp hb2) (jb (boxed hb1))) 1 rfl;have l2w2 : w2.cell? ⟨w.heap.size,2,none⟩ = some (.int .i64 ((x : Nat))) := ja (jc (boxed hb1) (jp hb2) (jb (boxed hb1))) 2 rfl;have l3w2 : w2.cell? ⟨w.heap.size,3,none⟩ = some (.int .i64 ((y : Nat))) := ja (jc (boxed hb1) (jp hb2) (jb (boxed hb1))) 3 rfl;have l4w2 : w2.cell? ⟨w.heap.size,4,none⟩ = some (.int .i64 ((p : Nat))) := ja (jc (boxed hb1) (jp hb2) (jb (boxed hb1))) 4 rfl;have hbx2 := boxed hb2;have v0 : w2.cell? ⟨w1.heap.size,0,none⟩ = some (.bool (vb u)) := ja hbx2 0 rfl;have v1 : w2.cell? ⟨w1.heap.size,1,none⟩ = some (.int .i64 (vi u)) := ja hbx2 1 rfl;have hwl := jb hbx2;have hw2 : w.heap.size < w2.heap.size := Nat.lt_trans hw1 hwl;have HLN := jH (jc (boxed hb1) (jp hb2) (jb (boxed hb1)));have HVL := jH hbx2;have HB2 : Hid (∀ o : Obj,Below w.heap.size w (w2.alloc o)) := (fun o => (bb2 hb1 hb2).alloc (bb2 hb1 hb2).size o);clear hbx2)
  | (go_at_call 88;go_loud (refine (HMI.out _ (H.out.on (HB2.out _))).mono ?_;rintro _ w3 ⟨rfl,hq4⟩)))
 go_returns
 exact HQ.out.pre _ _ _ _ (Fr.of (HB2.out _)) hq4
set_option maxRecDepth 100000 in
theorem jf6 (h : RM s w r κ X) {q x y p : Nat} {u t : V} (hx : x < 8) (hy : y < 8) (hu : X.x.g x = u) (ht : X.x.g y = t) {Q : World -> Ending -> World -> Prop} (hQ : Good κ Q) (hM : ∀ W,RM s W r κ X -> Calls Tryz.prog 88 #[.pointer (some ⟨r,0,none⟩),.agg #[.int .i64 24,.int .i64 q,.int .i64 x,.int .i64 y,.int .i64 p],.agg #[.bool (vb u),.int .i64 (vi u)],.agg #[.bool (vb t),.int .i64 (vi t)]] W fun e w' => e = .returned (.bool true) /\ Below W.heap.size W w') (hC : ∀ W,RM s W r κ X -> Calls Tryz.prog 86 #[.pointer (some ⟨r,0,none⟩),.agg #[.int .i64 24,.int .i64 q,.int .i64 x,.int .i64 y,.int .i64 p],.agg #[.bool (vb u),.int .i64 (vi u)],.int .i64 (vi t)] W (Q W)) :
 Calls Tryz.prog 55 #[.pointer (some ⟨r,0,none⟩),.agg #[.int .i64 24,.int .i64 q,.int .i64 x,.int .i64 y,.int .i64 p]] w (Q w) := by
 have H := jH h
 have HQ := jH hQ
 have HMI := jH hM
 have HC := jH hC
 have CX := jZ h hx hu
 have CY := jZ h hy ht
 clear h hu ht hQ hM hC
 go_enter Tryz.func55,Tryz.ntmps55
 go_wp2_with (first
  | (go_at_call_of 80 x;refine (CX.out _ (jB.alloc jN _)).mono ?_;rintro _ w1 ⟨rfl,hb1⟩;have l0w1 : w1.cell? ⟨w.heap.size,0,none⟩ = some (.int .i64 (24)) := ja (boxed hb1) 0 rfl;have l1w1 : w1.cell? ⟨w.heap.size,1,none⟩ = some (.int .i64 ((q : Nat))) := ja (boxed hb1) 1 rfl;have l2w1 : w1.cell? ⟨w.heap.size,2,none⟩ = some (.int .i64 ((x : Nat))) := ja (boxed hb1) 2 rfl;have l3w1 : w1.cell? ⟨w.heap.size,3,none⟩ = some (.int .i64 ((y : Nat))) := ja (boxed hb1) 3 rfl;have l4w1 : w1.cell? ⟨w.heap.size,4,none⟩ = some (.int .i64 ((p : Nat))) := ja (boxed hb1) 4 rfl;have hw1 := jb (boxed hb1))
  | (go_at_call 80;refine (CY.out _ (bb1 hb1 _)).mono ?_;rintro _ w2 ⟨rfl,hb2⟩;have l0w2 : w2.cell? ⟨w.heap.size,0,none⟩ = some (.int .i64 (24)) := ja (jc (boxed hb1) (jp hb2) (jb (boxed hb1))) 0 rfl;have l1w2 : w2.cell? ⟨w.heap.size,1,none⟩ = some (.int .i64 ((q : Nat))) := ja (jc (boxed hb1) (jp hb2) (jb (boxed hb1))) 1 rfl;have l2w2 : w2.cell? ⟨w.heap.size,2,none⟩ = some (.int .i64 ((x : Nat))) := ja (jc (boxed hb1) (jp hb2) (jb (boxed hb1))) 2 rfl;have l3w2 : w2.cell? ⟨w.heap.size,3,none⟩ = some (.int .i64 ((y : Nat))) := ja (jc (boxed hb1) (jp hb2) (jb (boxed hb1))) 3 rfl;have l4w2 : w2.cell? ⟨w.heap.size,4,none⟩ = some (.int .i64 ((p : Nat))) := ja (jc (boxed hb1) (jp hb2) (jb (boxed hb1))) 4 rfl;have hbx2 := boxed hb2;have v0 : w2.cell? ⟨w1.heap.size,0,none⟩ = some (.bool (vb u)) := ja hbx2 0 rfl;have v1 : w2.cell? ⟨w1.heap.size,1,none⟩ = some (.int .i64 (vi u)) := ja hbx2 1 rfl;have hwl := jb hbx2;have hw2 : w.heap.size < w2.heap.size := Nat.lt_trans hw1 hwl;have HLN := jH (jc (boxed hb1) (jp hb2) (jb (boxed hb1)));have HVL := jH hbx2;have HB2 : Hid (∀ o : Obj,Below w.heap.size w (w2.alloc o)) := (fun o => (bb2 hb1 hb2).alloc (bb2 hb1 hb2).size o);clear hbx2)
  | (go_at_call 88;refine (HMI.out _ (H.out.on (HB2.out _))).mono ?_;rintro _ w3 ⟨rfl,hb3⟩;have hA2 := (Below.refl w2.heap.size w2).alloc jN (.cells #[.bool (vb t),.int .i64 (vi t)] 78 (0,0));have hb23 := hA2.trans (hb3.mono (by simp));have l0w3 : w3.cell? ⟨w.heap.size,0,none⟩ = some (.int .i64 (24)) := ja (jc HLN.out hb23 (jb HLN.out)) 0 rfl;have l1w3 : w3.cell? ⟨w.heap.size,1,none⟩ = some (.int .i64 ((q : Nat))) := ja (jc HLN.out hb23 (jb HLN.out)) 1 rfl;have l2w3 : w3.cell? ⟨w.heap.size,2,none⟩ = some (.int .i64 ((x : Nat))) := ja (jc HLN.out hb23 (jb HLN.out)) 2 rfl;have l3w3 : w3.cell? ⟨w.heap.size,3,none⟩ = some (.int .i64 ((y : Nat))) := ja (jc HLN.out hb23 (jb HLN.out)) 3 rfl;have l4w3 : w3.cell? ⟨w.heap.size,4,none⟩ = some (.int .i64 ((p : Nat))) := ja (jc HLN.out hb23 (jb HLN.out)) 4 rfl;have v03 : w3.cell? ⟨w1.heap.size,0,none⟩ = some (.bool (vb u)) := ja (jc HVL.out hb23 (jb HVL.out)) 0 rfl;have v13 : w3.cell? ⟨w1.heap.size,1,none⟩ = some (.int .i64 (vi u)) := ja (jc HVL.out hb23 (jb HVL.out)) 1 rfl;have x13 : w3.cell? ⟨w2.heap.size,1,none⟩ = some (.int .i64 (vi t)) := ja (boxed hb3) 1 rfl;have HB3 := jH ((HB2.out _).trans (hb3.mono (HB2.out _).size));clear hA2 hb23)
  | (go_at_call 86;refine (HC.out _ (H.out.on HB3.out)).mono ?_;intro e4 w4 hq4;have he4 := HQ.out.ret _ _ _ hq4;subst he4))
 go_returns
 exact HQ.out.pre _ _ _ _ (Fr.of HB3.out) hq4
set_option maxRecDepth 100000 in
theorem jb3 (h : RM s w r κ X) {q x y p : Nat} {u t : V} (hx : x < 8) (hq : q < 8) (hu : X.x.g q = u) (ht : X.x.g x = t) {Q : World -> Ending -> World -> Prop} (hQ : Good κ Q) (hM : ∀ W,RM s W r κ X -> Calls Tryz.prog 88 #[.pointer (some ⟨r,0,none⟩),.agg #[.int .i64 25,.int .i64 q,.int .i64 x,.int .i64 y,.int .i64 p],.agg #[.bool (vb u),.int .i64 (vi u)],.agg #[.bool (vb t),.int .i64 (vi t)]] W fun e w' => e = .returned (.bool false) /\ Q W (.returned (.tuple #[])) w') :
 Calls Tryz.prog 55 #[.pointer (some ⟨r,0,none⟩),.agg #[.int .i64 25,.int .i64 q,.int .i64 x,.int .i64 y,.int .i64 p]] w (Q w) := by
 have H := jH h
 have HQ := jH hQ
 have HMI := jH hM
 have CX := jZ h hx ht
 have CQ := jZ h hq hu
 have HTOP := jH h.top
 have HGT := jH ht
 clear h hu ht hQ hM
 go_enter Tryz.func55,Tryz.ntmps55
 go_upto_region 4 with (first
  | (go_at_call_of 80 x;refine (CX.out _ (jB.alloc jN _)).mono ?_;rintro _ w1 ⟨rfl,hb1⟩;have l0w1 : w1.cell? ⟨w.heap.size,0,none⟩ = some (.int .i64 (25)) := ja (boxed hb1) 0 rfl;have l1w1 : w1.cell? ⟨w.heap.size,1,none⟩ = some (.int .i64 ((q : Nat))) := ja (boxed hb1) 1 rfl;have l2w1 : w1.cell? ⟨w.heap.size,2,none⟩ = some (.int .i64 ((x : Nat))) := ja (boxed hb1) 2 rfl;have l3w1 : w1.cell? ⟨w.heap.size,3,none⟩ = some (.int .i64 ((y : Nat))) := ja (boxed hb1) 3 rfl;have l4w1 : w1.cell? ⟨w.heap.size,4,none⟩ = some (.int .i64 ((p : Nat))) := ja (boxed hb1) 4 rfl;have hw1 := jb (boxed hb1))
  | (go_at_call 80;refine (CQ.out _ (bb1 hb1 _)).mono ?_;rintro _ w2 ⟨rfl,hb2⟩;have hbx2 := boxed hb2;have HBX2 := jH hbx2;obtain ⟨r0,r1,r3,r4,r5,r6⟩ := Jk hbx2;have hwl := jb hbx2;clear hbx2))
 have hL : Lone w1.heap.size w2 ((w2.setCell ⟨w1.heap.size,0,none⟩ (.bool (vb u))).setCell ⟨w1.heap.size,1,none⟩ (.int .i64 (vi u))) := ((Lone.refl _ _).set 0 _).set 1 _
 have hm3 : RM s ((w2.setCell ⟨w1.heap.size,0,none⟩ (.bool (vb u))).setCell ⟨w1.heap.size,1,none⟩ (.int .i64 (vi u))) r κ X := (H.out.on (bb2 hb1 hb2)).other (b := w1.heap.size) (fun k i _ e => by rw [HTOP.out _ (jp hb1).size] at e;cases e) hL
 have hf3 : Fr0 κ κ w ((w2.setCell ⟨w1.heap.size,0,none⟩ (.bool (vb u))).setCell ⟨w1.heap.size,1,none⟩ (.int .i64 (vi u))) := Fr.new (Fr.of (bb2 hb1 hb2)) (jp hb1).size hL
 have hln3 : ((w2.setCell ⟨w1.heap.size,0,none⟩ (.bool (vb u))).setCell ⟨w1.heap.size,1,none⟩ (.int .i64 (vi u))).heap[w.heap.size]? = some (.cells #[.int .i64 25,.int .i64 q,.int .i64 x,.int .i64 y,.int .i64 p] 116 (0,0)) := (hL.rest _ (Nat.lt_trans hw1 hwl) (by omega)).trans (jc (boxed hb1) (jp hb2) (jb (boxed hb1)))
 have hvl3 : ((w2.setCell ⟨w1.heap.size,0,none⟩ (.bool (vb u))).setCell ⟨w1.heap.size,1,none⟩ (.int .i64 (vi u))).heap[w1.heap.size]? = some (.cells #[.bool (vb u),.int .i64 (vi u)] 78 (0,0)) := JF HBX2.out _ _
 generalize ((w2.setCell ⟨w1.heap.size,0,none⟩ (.bool (vb u))).setCell ⟨w1.heap.size,1,none⟩ (.int .i64 (vi u))) = W3 at hm3 hf3 hln3 hvl3 ⊢
 have l0W3 : W3.cell? ⟨w.heap.size,0,none⟩ = some (.int .i64 (25)) := ja hln3 0 rfl
 have l1W3 : W3.cell? ⟨w.heap.size,1,none⟩ = some (.int .i64 ((q : Nat))) := ja hln3 1 rfl
 have l2W3 : W3.cell? ⟨w.heap.size,2,none⟩ = some (.int .i64 ((x : Nat))) := ja hln3 2 rfl
 have l3W3 : W3.cell? ⟨w.heap.size,3,none⟩ = some (.int .i64 ((y : Nat))) := ja hln3 3 rfl
 have l4W3 : W3.cell? ⟨w.heap.size,4,none⟩ = some (.int .i64 ((p : Nat))) := ja hln3 4 rfl
 have v0 : W3.cell? ⟨w1.heap.size,0,none⟩ = some (.bool (vb u)) := ja hvl3 0 rfl
 have v1 : W3.cell? ⟨w1.heap.size,1,none⟩ = some (.int .i64 (vi u)) := ja hvl3 1 rfl
 have HM3 := jH hm3
 have HF3 := jH hf3
 have HLN := jH hln3
 have HVL := jH hvl3
 have hs3 := jb hln3
 have hs4 := jb hvl3
 have CX3 : Hid (Calls Tryz.prog 80 #[.pointer (some ⟨r,0,none⟩),.int .i64 x] W3 fun e w' => e = .returned (.agg #[.bool (vb t),.int .i64 (vi t)]) /\ Below W3.heap.size W3 w') := by
  have h1 := jar hm3 hx
  have h2 : X.x.g x = t := HGT.out
  rw [h2] at h1
  exact h1
 clear hm3 hf3 hln3 hvl3 hL r0 r1 r3 r4 r5 r6
 go_wp2_with (first
  | (go_at_call 80;refine CX3.out.mono ?_;rintro _ w4 ⟨rfl,hb4⟩;have l0w4 : w4.cell? ⟨w.heap.size,0,none⟩ = some (.int .i64 (25)) := ja (jc HLN.out hb4 (jb HLN.out)) 0 rfl;have l1w4 : w4.cell? ⟨w.heap.size,1,none⟩ = some (.int .i64 ((q : Nat))) := ja (jc HLN.out hb4 (jb HLN.out)) 1 rfl;have l2w4 : w4.cell? ⟨w.heap.size,2,none⟩ = some (.int .i64 ((x : Nat))) := ja (jc HLN.out hb4 (jb HLN.out)) 2 rfl;have l3w4 : w4.cell? ⟨w.heap.size,3,none⟩ = some (.int .i64 ((y : Nat))) := ja (jc HLN.out hb4 (jb HLN.out)) 3 rfl;have l4w4 : w4.cell? ⟨w.heap.size,4,none⟩ = some (.int .i64 ((p : Nat))) := ja (jc HLN.out hb4 (jb HLN.out)) 4 rfl;have v04 : w4.cell? ⟨w1.heap.size,0,none⟩ = some (.bool (vb u)) := ja (jc HVL.out hb4 (jb HVL.out)) 0 rfl;have v14 : w4.cell? ⟨w1.heap.size,1,none⟩ = some (.int .i64 (vi u)) := ja (jc HVL.out hb4 (jb HVL.out)) 1 rfl;have hs44 : w.heap.size < w4.heap.size := Nat.lt_of_lt_of_le hs3 hb4.size;have hs45 : w1.heap.size < w4.heap.size := Nat.lt_of_lt_of_le hs4 hb4.size;have HB4 : Hid (∀ o : Obj,Below W3.heap.size W3 (w4.alloc o)) := (fun o => hb4.alloc hb4.size o))
  | (go_at_call 88;refine (HMI.out _ (HM3.out.on (HB4.out _))).mono ?_;rintro _ w5 ⟨rfl,hq6⟩))
 go_returns
 exact HQ.out.pre _ _ _ _ (Fr0.trans HF3.out (Fr.of (HB4.out _))) hq6
set_option maxRecDepth 100000 in
theorem jf4 (h : RM s w r κ X) {q x y p : Nat} {u t : V} (hx : x < 8) (hq : q < 8) (hu : X.x.g q = u) (ht : X.x.g x = t) {Q : World -> Ending -> World -> Prop} (hQ : Good κ Q) (hM : ∀ W,RM s W r κ X -> Calls Tryz.prog 88 #[.pointer (some ⟨r,0,none⟩),.agg #[.int .i64 25,.int .i64 q,.int .i64 x,.int .i64 y,.int .i64 p],.agg #[.bool (vb u),.int .i64 (vi u)],.agg #[.bool (vb t),.int .i64 (vi t)]] W fun e w' => e = .returned (.bool true) /\ Below W.heap.size W w') (hC : ∀ W,RM s W r κ X -> Calls Tryz.prog 87 #[.pointer (some ⟨r,0,none⟩),.agg #[.int .i64 25,.int .i64 q,.int .i64 x,.int .i64 y,.int .i64 p],.agg #[.bool (vb u),.int .i64 (vi u)],.int .i64 (vi t)] W (Q W)) :
 Calls Tryz.prog 55 #[.pointer (some ⟨r,0,none⟩),.agg #[.int .i64 25,.int .i64 q,.int .i64 x,.int .i64 y,.int .i64 p]] w (Q w) := by
 have H := jH h
 have HQ := jH hQ
 have HMI := jH hM
 have HC := jH hC
 have CX := jZ h hx ht
 have CQ := jZ h hq hu
 have HTOP := jH h.top
 have HGT := jH ht
 clear h hu ht hQ hM hC
 go_enter Tryz.func55,Tryz.ntmps55
 go_upto_region 4 with (first
  | (go_at_call_of 80 x;refine (CX.out _ (jB.alloc jN _)).mono ?_;rintro _ w1 ⟨rfl,hb1⟩;have l0w1 : w1.cell? ⟨w.heap.size,0,none⟩ = some (.int .i64 (25)) := ja (boxed hb1) 0 rfl;have l1w1 : w1.cell? ⟨w.heap.size,1,none⟩ = some (.int .i64 ((q : Nat))) := ja (boxed hb1) 1 rfl;have l2w1 : w1.cell? ⟨w.heap.size,2,none⟩ = some (.int .i64 ((x : Nat))) := ja (boxed hb1) 2 rfl;have l3w1 : w1.cell? ⟨w.heap.size,3,none⟩ = some (.int .i64 ((y : Nat))) := ja (boxed hb1) 3 rfl;have l4w1 : w1.cell? ⟨w.heap.size,4,none⟩ = some (.int .i64 ((p : Nat))) := ja (boxed hb1) 4 rfl;have hw1 := jb (boxed hb1))
  | (go_at_call 80;refine (CQ.out _ (bb1 hb1 _)).mono ?_;rintro _ w2 ⟨rfl,hb2⟩;have hbx2 := boxed hb2;have HBX2 := jH hbx2;obtain ⟨r0,r1,r3,r4,r5,r6⟩ := Jk hbx2;have hwl := jb hbx2;clear hbx2))
 have hL : Lone w1.heap.size w2 ((w2.setCell ⟨w1.heap.size,0,none⟩ (.bool (vb u))).setCell ⟨w1.heap.size,1,none⟩ (.int .i64 (vi u))) := ((Lone.refl _ _).set 0 _).set 1 _
 have hm3 : RM s ((w2.setCell ⟨w1.heap.size,0,none⟩ (.bool (vb u))).setCell ⟨w1.heap.size,1,none⟩ (.int .i64 (vi u))) r κ X := (H.out.on (bb2 hb1 hb2)).other (b := w1.heap.size) (fun k i _ e => by rw [HTOP.out _ (jp hb1).size] at e;cases e) hL
 have hf3 : Fr0 κ κ w ((w2.setCell ⟨w1.heap.size,0,none⟩ (.bool (vb u))).setCell ⟨w1.heap.size,1,none⟩ (.int .i64 (vi u))) := Fr.new (Fr.of (bb2 hb1 hb2)) (jp hb1).size hL
 have hln3 : ((w2.setCell ⟨w1.heap.size,0,none⟩ (.bool (vb u))).setCell ⟨w1.heap.size,1,none⟩ (.int .i64 (vi u))).heap[w.heap.size]? = some (.cells #[.int .i64 25,.int .i64 q,.int .i64 x,.int .i64 y,.int .i64 p] 116 (0,0)) := (hL.rest _ (Nat.lt_trans hw1 hwl) (by omega)).trans (jc (boxed hb1) (jp hb2) (jb (boxed hb1)))
 have hvl3 : ((w2.setCell ⟨w1.heap.size,0,none⟩ (.bool (vb u))).setCell ⟨w1.heap.size,1,none⟩ (.int .i64 (vi u))).heap[w1.heap.size]? = some (.cells #[.bool (vb u),.int .i64 (vi u)] 78 (0,0)) := JF HBX2.out _ _
 generalize ((w2.setCell ⟨w1.heap.size,0,none⟩ (.bool (vb u))).setCell ⟨w1.heap.size,1,none⟩ (.int .i64 (vi u))) = W3 at hm3 hf3 hln3 hvl3 ⊢
 have l0W3 : W3.cell? ⟨w.heap.size,0,none⟩ = some (.int .i64 (25)) := ja hln3 0 rfl
 have l1W3 : W3.cell? ⟨w.heap.size,1,none⟩ = some (.int .i64 ((q : Nat))) := ja hln3 1 rfl
 have l2W3 : W3.cell? ⟨w.heap.size,2,none⟩ = some (.int .i64 ((x : Nat))) := ja hln3 2 rfl
 have l3W3 : W3.cell? ⟨w.heap.size,3,none⟩ = some (.int .i64 ((y : Nat))) := ja hln3 3 rfl
 have l4W3 : W3.cell? ⟨w.heap.size,4,none⟩ = some (.int .i64 ((p : Nat))) := ja hln3 4 rfl
 have v0 : W3.cell? ⟨w1.heap.size,0,none⟩ = some (.bool (vb u)) := ja hvl3 0 rfl
 have v1 : W3.cell? ⟨w1.heap.size,1,none⟩ = some (.int .i64 (vi u)) := ja hvl3 1 rfl
 have HM3 := jH hm3
 have HF3 := jH hf3
 have HLN := jH hln3
 have HVL := jH hvl3
 have hs3 := jb hln3
 have hs4 := jb hvl3
 have CX3 : Hid (Calls Tryz.prog 80 #[.pointer (some ⟨r,0,none⟩),.int .i64 x] W3 fun e w' => e = .returned (.agg #[.bool (vb t),.int .i64 (vi t)]) /\ Below W3.heap.size W3 w') := by
  have h1 := jar hm3 hx
  have h2 : X.x.g x = t := HGT.out
  rw [h2] at h1
  exact h1
 clear hm3 hf3 hln3 hvl3 hL r0 r1 r3 r4 r5 r6
 go_wp2_with (first
  | (go_at_call 80;refine CX3.out.mono ?_;rintro _ w4 ⟨rfl,hb4⟩;have l0w4 : w4.cell? ⟨w.heap.size,0,none⟩ = some (.int .i64 (25)) := ja (jc HLN.out hb4 (jb HLN.out)) 0 rfl;have l1w4 : w4.cell? ⟨w.heap.size,1,none⟩ = some (.int .i64 ((q : Nat))) := ja (jc HLN.out hb4 (jb HLN.out)) 1 rfl;have l2w4 : w4.cell? ⟨w.heap.size,2,none⟩ = some (.int .i64 ((x : Nat))) := ja (jc HLN.out hb4 (jb HLN.out)) 2 rfl;have l3w4 : w4.cell? ⟨w.heap.size,3,none⟩ = some (.int .i64 ((y : Nat))) := ja (jc HLN.out hb4 (jb HLN.out)) 3 rfl;have l4w4 : w4.cell? ⟨w.heap.size,4,none⟩ = some (.int .i64 ((p : Nat))) := ja (jc HLN.out hb4 (jb HLN.out)) 4 rfl;have v04 : w4.cell? ⟨w1.heap.size,0,none⟩ = some (.bool (vb u)) := ja (jc HVL.out hb4 (jb HVL.out)) 0 rfl;have v14 : w4.cell? ⟨w1.heap.size,1,none⟩ = some (.int .i64 (vi u)) := ja (jc HVL.out hb4 (jb HVL.out)) 1 rfl;have hs44 : w.heap.size < w4.heap.size := Nat.lt_of_lt_of_le hs3 hb4.size;have hs45 : w1.heap.size < w4.heap.size := Nat.lt_of_lt_of_le hs4 hb4.size;have HB4 : Hid (∀ o : Obj,Below W3.heap.size W3 (w4.alloc o)) := (fun o => hb4.alloc hb4.size o))
  | (go_at_call 88;refine (HMI.out _ (HM3.out.on (HB4.out _))).mono ?_;rintro _ w5 ⟨rfl,hb5⟩;have hA5 := (HB4.out _).trans (hb5.mono (HB4.out _).size);have l0w5 : w5.cell? ⟨w.heap.size,0,none⟩ = some (.int .i64 (25)) := ja (jc HLN.out hA5 (jb HLN.out)) 0 rfl;have l1w5 : w5.cell? ⟨w.heap.size,1,none⟩ = some (.int .i64 ((q : Nat))) := ja (jc HLN.out hA5 (jb HLN.out)) 1 rfl;have l2w5 : w5.cell? ⟨w.heap.size,2,none⟩ = some (.int .i64 ((x : Nat))) := ja (jc HLN.out hA5 (jb HLN.out)) 2 rfl;have l3w5 : w5.cell? ⟨w.heap.size,3,none⟩ = some (.int .i64 ((y : Nat))) := ja (jc HLN.out hA5 (jb HLN.out)) 3 rfl;have l4w5 : w5.cell? ⟨w.heap.size,4,none⟩ = some (.int .i64 ((p : Nat))) := ja (jc HLN.out hA5 (jb HLN.out)) 4 rfl;have v05 : w5.cell? ⟨w1.heap.size,0,none⟩ = some (.bool (vb u)) := ja (jc HVL.out hA5 (jb HVL.out)) 0 rfl;have v15 : w5.cell? ⟨w1.heap.size,1,none⟩ = some (.int .i64 (vi u)) := ja (jc HVL.out hA5 (jb HVL.out)) 1 rfl;have x15 : w5.cell? ⟨w4.heap.size,1,none⟩ = some (.int .i64 (vi t)) := ja (boxed hb5) 1 rfl;have HA5 := jH hA5;clear hA5)
  | (go_at_call 87;refine (HC.out _ (HM3.out.on HA5.out)).mono ?_;intro e6 w6 hq6;have he6 := HQ.out.ret _ _ _ hq6;subst he6))
 go_returns
 exact HQ.out.pre _ _ _ _ (Fr0.trans HF3.out (Fr.of HA5.out)) hq6
end Ko
end Go.Proofs.YtjmgolahkgalbaaGreatDoor
