import Derived.Test.YtjmgolahkgalbaaGreatDoorS27
import Derived.Test.YtjmgolahkgalbaaGreatDoorS29
set_option linter.unusedVariables false
set_option linter.unusedSimpArgs false
set_option maxHeartbeats 20000000
namespace Go.Proofs.YtjmgolahkgalbaaGreatDoor
namespace Ko
open Go.RowKit Li
variable {s : ByteArray} {w : World} {m : Nat}
def chS (Y : Dt) (k : Nat) (b : GX) (i : Nat) (u : V) : Dt := { Y with ds := Y.ds.set k { b with fs := b.fs.set i u } }
variable {κ : Kp} {Y : Dt}
set_option maxRecDepth 100000 in
theorem jlO (h : DM s w m κ Y) {q x y p : Nat} {a : Int} :
 Calls Tryz.prog 35 #[.pointer (some ⟨m,0,none⟩),.agg #[.int .i64 21,.int .i64 q,.int .i64 x,.int .i64 y,.int .i64 p],.agg #[.bool false,.int .i64 a]] w (DOk s κ w m (jF Y 50 0)) := by
 have hA0 := (Below.refl w.heap.size w).alloc jN (.cells #[.int .i64 21,.int .i64 q,.int .i64 x,.int .i64 y,.int .i64 p] 60 (0,0))
 have hA := hA0.alloc hA0.size (.cells #[.bool false,.int .i64 a] 89 (0,0))
 clear hA0
 have HM := jH (h.on hA)
 have HA := jH hA
 have hml := h.lt
 clear h hA
 go_enter Tryz.func35,Tryz.ntmps35
 go_wp2_with (first
  | (go_at_call 33;refine (Jf HM.out 50 0).mono ?_;rintro _ w3 ⟨rfl,h3,f3⟩))
 go_returns
 exact ⟨rfl,κ,h3,Fr0.trans (Fr.of HA.out) f3⟩
set_option maxRecDepth 100000 in
theorem jlN (h : DM s w m κ Y) {q x y p : Nat} {a : Int} :
 Calls Tryz.prog 35 #[.pointer (some ⟨m,0,none⟩),.agg #[.int .i64 25,.int .i64 q,.int .i64 x,.int .i64 y,.int .i64 p],.agg #[.bool false,.int .i64 a]] w (DOk s κ w m (jF Y 50 0)) := by
 have hA0 := (Below.refl w.heap.size w).alloc jN (.cells #[.int .i64 25,.int .i64 q,.int .i64 x,.int .i64 y,.int .i64 p] 60 (0,0))
 have hA := hA0.alloc hA0.size (.cells #[.bool false,.int .i64 a] 89 (0,0))
 clear hA0
 have HM := jH (h.on hA)
 have HA := jH hA
 have hml := h.lt
 clear h hA
 go_enter Tryz.func35,Tryz.ntmps35
 go_wp2_with (first
  | (go_at_call 33;refine (Jf HM.out 50 0).mono ?_;rintro _ w3 ⟨rfl,h3,f3⟩))
 go_returns
 exact ⟨rfl,κ,h3,Fr0.trans (Fr.of HA.out) f3⟩
set_option maxRecDepth 100000 in
theorem jlT (h : DM s w m κ Y) (hr : Y.regs.length = 8) {q x y p k : Nat} {b : GX} (hk : Y.ds[k]? = some b) (hy : b.fs.length <= x) :
 Calls Tryz.prog 35 #[.pointer (some ⟨m,0,none⟩),.agg #[.int .i64 21,.int .i64 q,.int .i64 x,.int .i64 y,.int .i64 p],.agg #[.bool true,.int .i64 k]] w (DOk s κ w m (jF Y 50 0)) := by
 have H := jH h
 obtain ⟨g,cap,hR⟩ := h.rgs' hr
 obtain ⟨g',cap',b1,b2,b3,b4,b5,b6,b7,b8⟩ := h.bg hk
 obtain ⟨a5,c5,e5,_⟩ := (h.rows.vls k b hk).any
 have HBk := jH (h.rows.bst k b hk).blk
 rw [e5] at b3
 have E5 := jH e5
 have HR := jH hR
 have HK := jH hk
 have hgl := hR.lt
 have c8 := hR.c8
 have gkl : (k : Int) < (Y.ds.length : Int) := by omega
 have hml := h.lt
 clear h hR e5 hk
 go_enter Tryz.func35,Tryz.ntmps35
 go_wp2
 go_region
 go_wp2
 have hW : Below w.heap.size w (((w.alloc (.cells #[.int .i64 21,.int .i64 q,.int .i64 x,.int .i64 y,.int .i64 p] 60 (0,0))).alloc (.cells #[.bool true,.int .i64 k] 89 (0,0))).drew) := (JM _ _ _).drew
 have hbx := bx2 w (.cells #[.int .i64 21,.int .i64 q,.int .i64 x,.int .i64 y,.int .i64 p] 60 (0,0)) (.cells #[.bool true,.int .i64 k] 89 (0,0))
 generalize ((w.alloc (.cells #[.int .i64 21,.int .i64 q,.int .i64 x,.int .i64 y,.int .i64 p] 60 (0,0))).alloc (.cells #[.bool true,.int .i64 k] 89 (0,0))).drew = W at hW hbx ⊢
 have HY : Hid (∀ yy : Wd W.heap.size W,Below w.heap.size w yy.v) := fun yy => hW.trans (yy.h.mono hW.size)
 have f0 : ∀ yy : Wd W.heap.size W,yy.v.cell? ⟨w.heap.size,0,none⟩ = some (.int .i64 21) := fun yy => Wd.at hbx (jb hbx) 0 rfl yy
 have f1 : ∀ yy : Wd W.heap.size W,yy.v.cell? ⟨w.heap.size,1,none⟩ = some (.int .i64 q) := fun yy => Wd.at hbx (jb hbx) 1 rfl yy
 have f2 : ∀ yy : Wd W.heap.size W,yy.v.cell? ⟨w.heap.size,2,none⟩ = some (.int .i64 x) := fun yy => Wd.at hbx (jb hbx) 2 rfl yy
 have f3 : ∀ yy : Wd W.heap.size W,yy.v.cell? ⟨w.heap.size,3,none⟩ = some (.int .i64 y) := fun yy => Wd.at hbx (jb hbx) 3 rfl yy
 have f4 : ∀ yy : Wd W.heap.size W,yy.v.cell? ⟨w.heap.size,4,none⟩ = some (.int .i64 p) := fun yy => Wd.at hbx (jb hbx) 4 rfl yy
 have f5 : ∀ yy : Wd W.heap.size W,yy.v.cell? ⟨b.b,0,none⟩ = some (.slice a5 b.fs.length c5) := fun yy => by rw [<- E5.out];exact ja (jc HBk.out (HY.out yy) b6) 0 rfl
 haveI := Wd.ne
 clear hW hbx
 refine jP 8 10 (by kernel_rfl) (by kernel_rfl) (by decide) ?_
 simp only [TkD]
 iterate 8
  apply jd (by decide) (by rfl)
  ·intro yy;go_simp;all_goals with_reducible rfl
  simp only [Act.put,SsT]
 refine js ?_
 intro yy
 have CN := jH (jbZ (op := 21) (q := q) (x := x) (y := y) (p := p) (i := x) (n := b.fs.length) (H.out.on (HY.out yy)) (by omega))
 rw [if_neg (by omega)] at CN
 go_wp2_with (first
  | (go_at_call 62;refine CN.out.mono ?_;rintro _ w2 ⟨rfl,h2,f2⟩))
 go_returns
 exact ⟨rfl,κ,h2,Fr0.trans (Fr.of (HY.out yy)) f2⟩
set_option maxRecDepth 100000 in
theorem jlS (h : DM s w m κ Y) (hr : Y.regs.length = 8) {q i y p k : Nat} {b : GX} {u t : V} (hk : Y.ds[k]? = some b) (hi : b.fs[i]? = some u) (hy : Y.regs[y]? = some t) :
 Calls Tryz.prog 35 #[.pointer (some ⟨m,0,none⟩),.agg #[.int .i64 21,.int .i64 q,.int .i64 i,.int .i64 y,.int .i64 p],.agg #[.bool true,.int .i64 k]] w (DOk s κ w m (chS Y k b i t)) := by
 have H := jH h
 obtain ⟨g,cap,hR⟩ := h.rgs' hr
 obtain ⟨g',cap',b1,b2,b3,b4,b5,b6,b7,b8⟩ := h.bg hk
 obtain ⟨a5,c5,e5,_⟩ := (h.rows.vls k b hk).any
 have HBk := jH (h.rows.bst k b hk).blk
 rw [e5] at b3
 have E5 := jH e5
 have HR := jH hR
 have HK := jH hk
 have hgl := hR.lt
 have c8 := hR.c8
 have gkl : (k : Int) < (Y.ds.length : Int) := by omega
 have hml := h.lt
 clear h hR e5 hk
 have hil := (jG hi).1
 have gyl : (i : Int) < (b.fs.length : Int) := by omega
 have hy8 : (y : Int) < 8 := by have := (jG hy).1;omega
 have HU := jH hi
 have HQY := jH hy
 clear hy hi hr
 have C1 : Hid (jD 62 #[.pointer (some ⟨m,0,none⟩),.agg #[.int .i64 21,.int .i64 q,.int .i64 i,.int .i64 y,.int .i64 p],.int .i64 i,.int .i64 b.fs.length] (.bool true)) := fun W' => jbY (by omega)
 go_enter Tryz.func35,Tryz.ntmps35
 go_wp2
 go_region
 go_wp2
 have hW : Below w.heap.size w (((w.alloc (.cells #[.int .i64 21,.int .i64 q,.int .i64 i,.int .i64 y,.int .i64 p] 60 (0,0))).alloc (.cells #[.bool true,.int .i64 k] 89 (0,0))).drew) := (JM _ _ _).drew
 have hbx := bx2 w (.cells #[.int .i64 21,.int .i64 q,.int .i64 i,.int .i64 y,.int .i64 p] 60 (0,0)) (.cells #[.bool true,.int .i64 k] 89 (0,0))
 generalize ((w.alloc (.cells #[.int .i64 21,.int .i64 q,.int .i64 i,.int .i64 y,.int .i64 p] 60 (0,0))).alloc (.cells #[.bool true,.int .i64 k] 89 (0,0))).drew = W at hW hbx ⊢
 have HY : Hid (∀ yy : Wd W.heap.size W,Below w.heap.size w yy.v) := fun yy => hW.trans (yy.h.mono hW.size)
 have f0 : ∀ yy : Wd W.heap.size W,yy.v.cell? ⟨w.heap.size,0,none⟩ = some (.int .i64 21) := fun yy => Wd.at hbx (jb hbx) 0 rfl yy
 have f1 : ∀ yy : Wd W.heap.size W,yy.v.cell? ⟨w.heap.size,1,none⟩ = some (.int .i64 q) := fun yy => Wd.at hbx (jb hbx) 1 rfl yy
 have f2 : ∀ yy : Wd W.heap.size W,yy.v.cell? ⟨w.heap.size,2,none⟩ = some (.int .i64 i) := fun yy => Wd.at hbx (jb hbx) 2 rfl yy
 have f3 : ∀ yy : Wd W.heap.size W,yy.v.cell? ⟨w.heap.size,3,none⟩ = some (.int .i64 y) := fun yy => Wd.at hbx (jb hbx) 3 rfl yy
 have f4 : ∀ yy : Wd W.heap.size W,yy.v.cell? ⟨w.heap.size,4,none⟩ = some (.int .i64 p) := fun yy => Wd.at hbx (jb hbx) 4 rfl yy
 have f5 : ∀ yy : Wd W.heap.size W,yy.v.cell? ⟨b.b,0,none⟩ = some (.slice a5 b.fs.length c5) := fun yy => by rw [<- E5.out];exact ja (jc HBk.out (HY.out yy) b6) 0 rfl
 haveI := Wd.ne
 clear hW hbx
 refine jP 9 10 (by kernel_rfl) (by kernel_rfl) (by decide) ?_
 simp only [TkD]
 iterate 8
  apply jd (by decide) (by rfl)
  ·intro yy;go_simp;all_goals with_reducible rfl
  simp only [Act.put,SsT]
 refine jd (by decide) (by rfl) (v := ?v8) ?hv8 ?_
 case hv8 => (intro yy;go_simp;exact C1.out _)
 simp only [Act.put,SsT]
 refine js ?_
 intro yy
 obtain ⟨r1,k5,_,_⟩ := HR.out.on _ (HY.out yy)
 obtain ⟨d0,d1⟩ := k5 y _ HQY.out
 have hT := (H.out.on (HY.out yy)).rows.vls k b HK.out
 obtain ⟨g5,c5',e6,h61,_,h63⟩ := hT.at (by omega)
 rw [e6] at hT
 have e7 := E5.out.symm.trans e6
 cases e7
 have d2 := hT.cell (Jj HU.out).1
 have d3 := hT.cell (Jj HU.out).2
 have z0' := hT.frz (i * 2)
 have z1' := hT.frz (i * 2 + 1)
 have HK7 := jH ((H.out.on (HY.out yy)).setV (u := t) HK.out E5.out (a := i) (by omega))
 have f3' := f3 yy
 have f5' := f5 yy
 clear k5 hT e6 f0 f1 f2 f3 f4 f5
 go_wp2
 go_region
 go_wp2
 go_returns
 exact JC HK7.out.1 (Fr0.trans (Fr.of (HY.out yy)) HK7.out.2.all) jB.drew
set_option maxRecDepth 100000 in
theorem jlR (h : DM s w m κ Y) (hr : Y.regs.length = 8) {q x y p k : Nat} {b : GX} {t : V} (hk : Y.ds[k]? = some b) (hy : Y.regs[x]? = some t) (hb : vb t = true) :
 Calls Tryz.prog 35 #[.pointer (some ⟨m,0,none⟩),.agg #[.int .i64 25,.int .i64 q,.int .i64 x,.int .i64 y,.int .i64 p],.agg #[.bool true,.int .i64 k]] w (DOk s κ w m (jF Y 50 0)) := by
 have H := jH h
 obtain ⟨g,cap,hR⟩ := h.rgs' hr
 obtain ⟨g',cap',b1,b2,b3,b4,b5,b6,b7,b8⟩ := h.bg hk
 obtain ⟨a5,c5,e5,_⟩ := (h.rows.vls k b hk).any
 have HBk := jH (h.rows.bst k b hk).blk
 rw [e5] at b3
 have E5 := jH e5
 have HR := jH hR
 have HK := jH hk
 have hgl := hR.lt
 have c8 := hR.c8
 have gkl : (k : Int) < (Y.ds.length : Int) := by omega
 have hml := h.lt
 clear h hR e5 hk
 have hy8 : (x : Int) < 8 := by have := (jG hy).1;omega
 have HQ := jH hy
 have HT := jH hb
 clear hy hb hr
 go_enter Tryz.func35,Tryz.ntmps35
 go_wp2
 go_region
 go_wp2
 have hW : Below w.heap.size w (((w.alloc (.cells #[.int .i64 25,.int .i64 q,.int .i64 x,.int .i64 y,.int .i64 p] 60 (0,0))).alloc (.cells #[.bool true,.int .i64 k] 89 (0,0))).drew) := (JM _ _ _).drew
 have hbx := bx2 w (.cells #[.int .i64 25,.int .i64 q,.int .i64 x,.int .i64 y,.int .i64 p] 60 (0,0)) (.cells #[.bool true,.int .i64 k] 89 (0,0))
 generalize ((w.alloc (.cells #[.int .i64 25,.int .i64 q,.int .i64 x,.int .i64 y,.int .i64 p] 60 (0,0))).alloc (.cells #[.bool true,.int .i64 k] 89 (0,0))).drew = W at hW hbx ⊢
 have HW := jH hW
 have HX := jH hbx
 have hsz := hW.size
 have hbl := jb hbx
 have hmW : m < W.heap.size := by omega
 have hgW : g < W.heap.size := by omega
 have f2 := ja hbx 2 rfl
 obtain ⟨r1,k5,k6,_⟩ := HR.out.on _ hW
 obtain ⟨d0,d1⟩ := k5 x _ HQ.out
 clear hW hbx k5 k6
 have hA := jr W (.cells #[.bool (vb t),.int .i64 (vi t)] 89 (0,0))
 have HA := jH hA
 have CN := jH (jat ((H.out.on HW.out).on hA.drew) (g := W.heap.size) (l := [t]) (by simp) ja3 (by simp) (k := 0) (t := t) rfl HT.out (fun i u h => absurd h (Nat.not_lt_zero _)))
 clear hA
 go_region_with (first
  | (go_at_call 28;refine CN.out.mono ?_;rintro _ w2 ⟨rfl,h2,f2⟩;have HM2 := jH h2;have HF2 := jH f2;clear h2 f2))
 all_goals
  go_wp2
  go_returns
  exact ⟨rfl,κ,HM2.out,Fr0.trans (Fr.of (HW.out.trans (HA.out.drew.mono hsz))) HF2.out⟩
set_option maxRecDepth 100000 in
theorem jlQ (h : DM s w m κ Y) (hr : Y.regs.length = 8) {q x y p k : Nat} {b : GX} {z : Int} (hk : Y.ds[k]? = some b) (hy : Y.regs[x]? = some (.n z)) (hz : ¬ (0 <= z /\ z < b.fs.length)) :
 Calls Tryz.prog 35 #[.pointer (some ⟨m,0,none⟩),.agg #[.int .i64 25,.int .i64 q,.int .i64 x,.int .i64 y,.int .i64 p],.agg #[.bool true,.int .i64 k]] w (DOk s κ w m (jF Y 30 p)) := by
 have H := jH h
 obtain ⟨g,cap,hR⟩ := h.rgs' hr
 obtain ⟨g',cap',b1,b2,b3,b4,b5,b6,b7,b8⟩ := h.bg hk
 obtain ⟨a5,c5,e5,_⟩ := (h.rows.vls k b hk).any
 have HBk := jH (h.rows.bst k b hk).blk
 rw [e5] at b3
 have E5 := jH e5
 have HR := jH hR
 have HK := jH hk
 have hgl := hR.lt
 have c8 := hR.c8
 have gkl : (k : Int) < (Y.ds.length : Int) := by omega
 have hml := h.lt
 clear h hR e5 hk
 have hy8 : (x : Int) < 8 := by have := (jG hy).1;omega
 have HQ := jH hy
 have HZ := jH hz
 clear hy hz hr
 go_enter Tryz.func35,Tryz.ntmps35
 go_wp2
 go_region
 go_wp2
 have hW : Below w.heap.size w (((w.alloc (.cells #[.int .i64 25,.int .i64 q,.int .i64 x,.int .i64 y,.int .i64 p] 60 (0,0))).alloc (.cells #[.bool true,.int .i64 k] 89 (0,0))).drew) := (JM _ _ _).drew
 have hbx := bx2 w (.cells #[.int .i64 25,.int .i64 q,.int .i64 x,.int .i64 y,.int .i64 p] 60 (0,0)) (.cells #[.bool true,.int .i64 k] 89 (0,0))
 generalize ((w.alloc (.cells #[.int .i64 25,.int .i64 q,.int .i64 x,.int .i64 y,.int .i64 p] 60 (0,0))).alloc (.cells #[.bool true,.int .i64 k] 89 (0,0))).drew = W at hW hbx ⊢
 have HW := jH hW
 have HX := jH hbx
 have hsz := hW.size
 have hbl := jb hbx
 have hmW : m < W.heap.size := by omega
 have hgW : g < W.heap.size := by omega
 have f2 := ja hbx 2 rfl
 obtain ⟨r1,k5,k6,_⟩ := HR.out.on _ hW
 obtain ⟨d0,d1⟩ := k5 x _ HQ.out
 clear hW hbx k5 k6
 have CN := jH (jaU (((H.out.on HW.out)).on (jr W (.cells #[.bool (vb (.n z)),.int .i64 (vi (.n z))] 89 (0,0))).drew) (g := W.heap.size) (l := [.n z]) (by simp) ja3 (by simp) (by simp [vb]))
 simp only [vb,vi,List.length_singleton] at CN d0 d1
 go_region_with (first
  | (go_at_call 28;refine CN.out.mono ?_;rintro _ w2 ⟨rfl,h2⟩;have h2 := h2.symm;subst h2))
 all_goals
  go_wp2
  go_region
  go_wp2
  have hW2 : Below w.heap.size w ((W.alloc (.cells #[.bool false,.int .i64 z] 89 (0,0))).drew.drew) := HW.out.trans ((jr W (.cells #[.bool false,.int .i64 z] 89 (0,0))).drew.drew.mono hsz)
  have hbx2 : ((W.alloc (.cells #[.bool false,.int .i64 z] 89 (0,0))).drew.drew).heap[w.heap.size]? = some (.cells #[.int .i64 25,.int .i64 q,.int .i64 x,.int .i64 y,.int .i64 p] 60 (0,0)) := (Below.heap_alloc W (.cells #[.bool false,.int .i64 z] 89 (0,0)) _ hbl).trans HX.out
  generalize (W.alloc (.cells #[.bool false,.int .i64 z] 89 (0,0))).drew.drew = W2 at hW2 hbx2 ⊢
  have HY : Hid (∀ yy : Wd W2.heap.size W2,Below w.heap.size w yy.v) := fun yy => hW2.trans (yy.h.mono hW2.size)
  have f0 : ∀ yy : Wd W2.heap.size W2,yy.v.cell? ⟨w.heap.size,0,none⟩ = some (.int .i64 25) := fun yy => Wd.at hbx2 (jb hbx2) 0 rfl yy
  have f1 : ∀ yy : Wd W2.heap.size W2,yy.v.cell? ⟨w.heap.size,1,none⟩ = some (.int .i64 q) := fun yy => Wd.at hbx2 (jb hbx2) 1 rfl yy
  have f2 : ∀ yy : Wd W2.heap.size W2,yy.v.cell? ⟨w.heap.size,2,none⟩ = some (.int .i64 x) := fun yy => Wd.at hbx2 (jb hbx2) 2 rfl yy
  have f3 : ∀ yy : Wd W2.heap.size W2,yy.v.cell? ⟨w.heap.size,3,none⟩ = some (.int .i64 y) := fun yy => Wd.at hbx2 (jb hbx2) 3 rfl yy
  have f4 : ∀ yy : Wd W2.heap.size W2,yy.v.cell? ⟨w.heap.size,4,none⟩ = some (.int .i64 p) := fun yy => Wd.at hbx2 (jb hbx2) 4 rfl yy
  have f5 : ∀ yy : Wd W2.heap.size W2,yy.v.cell? ⟨b.b,0,none⟩ = some (.slice a5 b.fs.length c5) := fun yy => by rw [<- E5.out];exact ja (jc HBk.out (HY.out yy) b6) 0 rfl
  haveI := Wd.ne
  clear hW2 hbx2
  refine jP 8 10 (by kernel_rfl) (by kernel_rfl) (by decide) ?_
  simp only [TkD]
  iterate 8
   apply jd (by decide) (by rfl)
   ·intro yy;go_simp;all_goals with_reducible rfl
   simp only [Act.put,SsT]
  refine js ?_
  intro yy
  have CN2 := jH (jbZ (op := 25) (q := q) (x := x) (y := y) (p := p) (i := z) (n := b.fs.length) (H.out.on (HY.out yy)) HZ.out)
  rw [if_pos (by omega)] at CN2
  go_wp2_with (first
   | (go_at_call 62;refine CN2.out.mono ?_;rintro _ w2 ⟨rfl,h2,f2⟩))
  go_returns
  exact ⟨rfl,κ,h2,Fr0.trans (Fr.of (HY.out yy)) f2⟩
set_option maxRecDepth 100000 in
theorem jlP (h : DM s w m κ Y) (hr : Y.regs.length = 8) {q x y p k i : Nat} {b : GX} {u t : V} (hk : Y.ds[k]? = some b) (hx : Y.regs[x]? = some (.n i)) (hi : b.fs[i]? = some u) (hy : Y.regs[y]? = some t) :
 Calls Tryz.prog 35 #[.pointer (some ⟨m,0,none⟩),.agg #[.int .i64 25,.int .i64 q,.int .i64 x,.int .i64 y,.int .i64 p],.agg #[.bool true,.int .i64 k]] w (DOk s κ w m (chS Y k b i t)) := by
 obtain ⟨z,hz⟩ : ∃ z : Int,z = (i : Int) := ⟨_,rfl⟩
 rw [<- hz] at hx
 have HZ := jH hz
 have H := jH h
 obtain ⟨g,cap,hR⟩ := h.rgs' hr
 obtain ⟨g',cap',b1,b2,b3,b4,b5,b6,b7,b8⟩ := h.bg hk
 obtain ⟨a5,c5,e5,_⟩ := (h.rows.vls k b hk).any
 have HBk := jH (h.rows.bst k b hk).blk
 rw [e5] at b3
 have E5 := jH e5
 have HR := jH hR
 have HK := jH hk
 have hgl := hR.lt
 have c8 := hR.c8
 have gkl : (k : Int) < (Y.ds.length : Int) := by omega
 have hml := h.lt
 clear h hR e5 hk
 have hx8 : (x : Int) < 8 := by have := (jG hx).1;omega
 have hy8 : (y : Int) < 8 := by have := (jG hy).1;omega
 have hil := (jG hi).1
 have HU := jH hi
 have HQY := jH hy
 have HQ := jH hx
 have C1 : Hid (jD 62 #[.pointer (some ⟨m,0,none⟩),.agg #[.int .i64 25,.int .i64 q,.int .i64 x,.int .i64 y,.int .i64 p],.int .i64 z,.int .i64 b.fs.length] (.bool true)) := fun W' => jbY (by omega)
 clear hy hz hi hx hr
 go_enter Tryz.func35,Tryz.ntmps35
 go_wp2
 go_region
 go_wp2
 have hW : Below w.heap.size w (((w.alloc (.cells #[.int .i64 25,.int .i64 q,.int .i64 x,.int .i64 y,.int .i64 p] 60 (0,0))).alloc (.cells #[.bool true,.int .i64 k] 89 (0,0))).drew) := (JM _ _ _).drew
 have hbx := bx2 w (.cells #[.int .i64 25,.int .i64 q,.int .i64 x,.int .i64 y,.int .i64 p] 60 (0,0)) (.cells #[.bool true,.int .i64 k] 89 (0,0))
 generalize ((w.alloc (.cells #[.int .i64 25,.int .i64 q,.int .i64 x,.int .i64 y,.int .i64 p] 60 (0,0))).alloc (.cells #[.bool true,.int .i64 k] 89 (0,0))).drew = W at hW hbx ⊢
 have HW := jH hW
 have HX := jH hbx
 have hsz := hW.size
 have hbl := jb hbx
 have hmW : m < W.heap.size := by omega
 have hgW : g < W.heap.size := by omega
 have f2 := ja hbx 2 rfl
 obtain ⟨r1,k5,k6,_⟩ := HR.out.on _ hW
 obtain ⟨d0,d1⟩ := k5 x _ HQ.out
 clear hW hbx k5 k6
 have CN := jH (jaU (((H.out.on HW.out)).on (jr W (.cells #[.bool (vb (.n z)),.int .i64 (vi (.n z))] 89 (0,0))).drew) (g := W.heap.size) (l := [.n z]) (by simp) ja3 (by simp) (by simp [vb]))
 simp only [vb,vi,List.length_singleton] at CN d0 d1
 go_region_with (first
  | (go_at_call 28;refine CN.out.mono ?_;rintro _ w2 ⟨rfl,h2⟩;have h2 := h2.symm;subst h2))
 all_goals
  go_wp2
  go_region
  go_wp2
  have hW2 : Below w.heap.size w ((W.alloc (.cells #[.bool false,.int .i64 z] 89 (0,0))).drew.drew) := HW.out.trans ((jr W (.cells #[.bool false,.int .i64 z] 89 (0,0))).drew.drew.mono hsz)
  have hbx2 : ((W.alloc (.cells #[.bool false,.int .i64 z] 89 (0,0))).drew.drew).heap[w.heap.size]? = some (.cells #[.int .i64 25,.int .i64 q,.int .i64 x,.int .i64 y,.int .i64 p] 60 (0,0)) := (Below.heap_alloc W (.cells #[.bool false,.int .i64 z] 89 (0,0)) _ hbl).trans HX.out
  generalize (W.alloc (.cells #[.bool false,.int .i64 z] 89 (0,0))).drew.drew = W2 at hW2 hbx2 ⊢
  have HY : Hid (∀ yy : Wd W2.heap.size W2,Below w.heap.size w yy.v) := fun yy => hW2.trans (yy.h.mono hW2.size)
  have f0 : ∀ yy : Wd W2.heap.size W2,yy.v.cell? ⟨w.heap.size,0,none⟩ = some (.int .i64 25) := fun yy => Wd.at hbx2 (jb hbx2) 0 rfl yy
  have f1 : ∀ yy : Wd W2.heap.size W2,yy.v.cell? ⟨w.heap.size,1,none⟩ = some (.int .i64 q) := fun yy => Wd.at hbx2 (jb hbx2) 1 rfl yy
  have f2 : ∀ yy : Wd W2.heap.size W2,yy.v.cell? ⟨w.heap.size,2,none⟩ = some (.int .i64 x) := fun yy => Wd.at hbx2 (jb hbx2) 2 rfl yy
  have f3 : ∀ yy : Wd W2.heap.size W2,yy.v.cell? ⟨w.heap.size,3,none⟩ = some (.int .i64 y) := fun yy => Wd.at hbx2 (jb hbx2) 3 rfl yy
  have f4 : ∀ yy : Wd W2.heap.size W2,yy.v.cell? ⟨w.heap.size,4,none⟩ = some (.int .i64 p) := fun yy => Wd.at hbx2 (jb hbx2) 4 rfl yy
  have f5 : ∀ yy : Wd W2.heap.size W2,yy.v.cell? ⟨b.b,0,none⟩ = some (.slice a5 b.fs.length c5) := fun yy => by rw [<- E5.out];exact ja (jc HBk.out (HY.out yy) b6) 0 rfl
  haveI := Wd.ne
  clear hW2 hbx2
  refine jP 9 10 (by kernel_rfl) (by kernel_rfl) (by decide) ?_
  simp only [TkD]
  iterate 8
   apply jd (by decide) (by rfl)
   ·intro yy;go_simp;all_goals with_reducible rfl
   simp only [Act.put,SsT]
  refine jd (by decide) (by rfl) (v := ?v8) ?hv8 ?_
  case hv8 => (intro yy;go_simp;exact C1.out _)
  simp only [Act.put,SsT]
  refine js ?_
  intro yy
  have hz := HZ.out
  subst hz
  have gyl : (i : Int) < (b.fs.length : Int) := by omega
  obtain ⟨r1,k5,_,_⟩ := HR.out.on _ (HY.out yy)
  obtain ⟨d0,d1⟩ := k5 y _ HQY.out
  have hT := (H.out.on (HY.out yy)).rows.vls k b HK.out
  obtain ⟨g5,c5',e6,h61,_,h63⟩ := hT.at (by omega)
  rw [e6] at hT
  have e7 := E5.out.symm.trans e6
  cases e7
  have d2 := hT.cell (Jj HU.out).1
  have d3 := hT.cell (Jj HU.out).2
  have z0' := hT.frz (i * 2)
  have z1' := hT.frz (i * 2 + 1)
  have HK7 := jH ((H.out.on (HY.out yy)).setV (u := t) HK.out E5.out (a := i) (by omega))
  have f3' := f3 yy
  have f5' := f5 yy
  clear k5 hT e6 f0 f1 f2 f3 f4 f5
  go_wp2
  go_region
  go_wp2
  go_returns
  exact JC HK7.out.1 (Fr0.trans (Fr.of (HY.out yy)) HK7.out.2.all) jB.drew
def onD (Y : Dt) : Dt := pcS Y (Y.x.pc + 1)
def inD (Y : Dt) (q : Nat) (z : Int) : Dt := { Y with x := { Y.x with read := Y.x.read + 1 },regs := Y.regs.set q (.n (w63 z)) }
def outD (Y : Dt) (z : Int) (v : Value) : Dt := { Y with x := { Y.x with vout := v },out := Y.out ++ [z] }
structure DL (s : ByteArray) (w : World) (m : Nat) (κ : Kp) (Y : Dt) (l : List HX) (f : HX) : Prop where
 dm : DM s w m κ Y
 hr : Y.regs.length = 8
 hf : Y.fs = l ++ [f]
 hl : l.length <= 1000
 hpc : Y.x.pc <= 1000000
structure LP (s : ByteArray) (w : World) (m : Nat) (κ : Kp) (Y : Dt) (ln : Array Value) (W : World) : Prop where
 dm : DM s W m κ Y
 fr : Fr0 κ κ w W
 ln : W.heap[w.heap.size]? = some (.cells ln 60 (0,0))
 kn : κ w.heap.size = none
theorem jiN {Y : Dt} (h : DM s w m κ Y) {ln : Array Value} : LP s w m κ (onD Y) ln ((w.setCell ⟨m,7,none⟩ (.int .i64 ((Y.x.pc : Int) + 1))).alloc (.cells ln 60 (0,0))) := by
 have h1 := h.pc (Y.x.pc + 1)
 have e : ((Y.x.pc + 1 : Nat) : Int) = (Y.x.pc : Int) + 1 := by omega
 rw [e] at h1
 have hA := jr (w.setCell ⟨m,7,none⟩ (.int .i64 ((Y.x.pc : Int) + 1))) (.cells ln 60 (0,0))
 exact ⟨h1.1.on hA,Fr0.trans h1.2 (Fr.of hA),j9 (by simp),h.top _ jN⟩
theorem LP.drew {ln : Array Value} {W : World} (h : LP s w m κ Y ln W) : LP s w m κ Y ln W.drew := ⟨h.dm.drew,Fr.drew h.fr,h.ln,h.kn⟩
theorem LP.on {ln : Array Value} {W W' : World} (h : LP s w m κ Y ln W) (hb : Below W.heap.size W W') : LP s w m κ Y ln W' := ⟨h.dm.on hb,Fr0.trans h.fr (Fr.of hb),jc h.ln hb (jb h.ln),h.kn⟩
theorem LP.step {Y Y' : Dt} {ln : Array Value} {W W' : World} (h : LP s w m κ Y ln W) (hd : DM s W' m κ Y') (hf : Fr0 κ κ W W') : LP s w m κ Y' ln W' := ⟨hd,Fr0.trans h.fr hf,Fr.blk hf h.ln h.kn,h.kn⟩
variable {l : List HX}
theorem jf9 {W : World} (h : DM s W m κ Y) {f : HX} (hf : Y.fs = l ++ [f]) :
 ∃ g cap,W.cell? ⟨m,5,none⟩ = some (.slice (some ⟨g,0,none⟩) (l.length + 1) cap) /\ W.cell? ⟨g,l.length,none⟩ = some (.pointer (some ⟨f.b,0,none⟩)) /\ l.length + 1 <= cap /\ g < W.heap.size := by
 have hi : Y.fs[l.length]? = some f := by rw [hf];simp
 have hlen : Y.fs.length = l.length + 1 := by rw [hf];simp
 obtain ⟨g,cap,e,h2,h3,h4,h5,c0,c1,c2,h6⟩ := h.fr hi
 rw [hlen] at e h2
 exact ⟨g,cap,by rw [<- e];exact ja h.mac 5 rfl,c0,h2,h4⟩
theorem DM.sl {W : World} {Y : Dt} (h : DM s W m κ Y) {f : HX} (hf : Y.fs = l ++ [f]) {x : Nat} {u : V} (hx : f.sl[x]? = some u) :
 ∃ g cap,W.cell? ⟨f.b,0,none⟩ = some (.slice (some ⟨g,0,none⟩) f.sl.length cap) /\ f.sl.length <= cap /\ g < W.heap.size /\ f.b < W.heap.size /\ W.cell? ⟨g,x * 2,none⟩ = some (.bool (vb u)) /\ W.cell? ⟨g,x * 2 + 1,none⟩ = some (.int .i64 (vi u)) /\ (∀ j,W.frozen? ⟨g,j,none⟩ = false) /\
   ∀ v,DM s ((W.setCell ⟨g,x * 2,none⟩ (.bool (vb v))).setCell ⟨g,x * 2 + 1,none⟩ (.int .i64 (vi v))) m κ { Y with fs := l ++ [{ f with sl := f.sl.set x v }] } /\ Fr0 κ κ W ((W.setCell ⟨g,x * 2,none⟩ (.bool (vb v))).setCell ⟨g,x * 2 + 1,none⟩ (.int .i64 (vi v))) := by
 have hi : Y.fs[l.length]? = some f := by rw [hf];simp
 have hxl := (jG hx).1
 have hT := h.rows.sls _ f hi
 obtain ⟨g,cap,e,h1,h2,h3⟩ := hT.at (by omega)
 have hB := (h.rows.fst _ f hi).blk
 have hc := ja hB 0 rfl
 have hS : ∀ v,_ := fun v => h.setS (u := v) hi e hxl
 rw [e] at hT hc
 refine ⟨g,cap,hc,h1,h3,jb hB,hT.cell (Jj hx).1,hT.cell (Jj hx).2,hT.frz,fun v => ?_⟩
 obtain ⟨p1,p2⟩ := hS v
 rw [show Y.fs.set l.length { f with sl := f.sl.set x v } = l ++ [{ f with sl := f.sl.set x v }] by rw [hf,List.set_append_right _ _ jN,Nat.sub_self];rfl] at p1
 exact ⟨p1,p2.all⟩
theorem DM.nm {p : Nat} (h : DM s w p κ Y) {k : Nat} (hk : k < hN s) : ∃ g c,w.cell? ⟨p,0,none⟩ = some (.pointer (some ⟨Y.x.q,0,none⟩)) /\ w.cell? ⟨Y.x.q,1,none⟩ = some (.slice (some ⟨g,0,none⟩) (hN s) c) /\ hN s <= c /\ g < w.heap.size /\ Y.x.q < w.heap.size /\ w.cell? ⟨g,k,none⟩ = some (.int .i64 (kn s k)) := by
 obtain ⟨g,c,e,h1,_,h3⟩ := h.rows.cN.at (by omega)
 have hT := h.rows.cN
 rw [e] at hT
 have hc : w.cell? ⟨g,k,none⟩ = some (.int .i64 (kn s k)) := by
  have h4 := hT.own.cellAt k (by omega)
  rw [h4]
  have := Jq (f := dN s) (w := 1) (fun _ => rfl) (o := 0) (by omega) (hN s) hk
  rw [Nat.mul_one,Nat.add_zero] at this
  exact this
 refine ⟨g,c,ja h.mac 0 rfl,?_,h1,h3,jb h.rows.prg.blk,hc⟩
 have := ja h.rows.prg.blk 1 rfl
 rw [e] at this
 exact this
theorem DM.in {p : Nat} (h : DM s w p κ Y) : ∃ a c,w.cell? ⟨p,3,none⟩ = some (.slice a Y.ins.length c) /\ Y.ins.length <= c := by
 obtain ⟨a,c,e,h1⟩ := h.rows.ins.any
 exact ⟨a,c,by rw [<- e];exact ja h.mac 3 rfl,h1⟩
theorem DM.inat {p : Nat} (h : DM s w p κ Y) {i : Nat} {z : Int} (hi : Y.ins[i]? = some z) : ∃ g c,w.cell? ⟨p,3,none⟩ = some (.slice (some ⟨g,0,none⟩) Y.ins.length c) /\ Y.ins.length <= c /\ g < w.heap.size /\ w.cell? ⟨g,i,none⟩ = some (.int .i64 z) := by
 have hl := (jG hi).1
 obtain ⟨g,c,e,h1,_,h3⟩ := h.rows.ins.at (by omega)
 have hT := h.rows.ins
 rw [e] at hT
 exact ⟨g,c,by rw [<- e];exact ja h.mac 3 rfl,h1,h3,hT.cell (by simp [iV,hi])⟩
theorem DM.ini {p : Nat} (h : DM s w p κ Y) {i : Nat} {z : Int} (hi : Y.ins[i]? = some z) : ∃ g c,Y.ins.length <= c /\ g < w.heap.size /\ ∀ W,Below w.heap.size w W -> W.cell? ⟨p,3,none⟩ = some (.slice (some ⟨g,0,none⟩) Y.ins.length c) /\ W.cell? ⟨g,i,none⟩ = some (.int .i64 z) := by
 have hl := (jG hi).1
 obtain ⟨g,c,e,h1,_,h3⟩ := h.rows.ins.at (by omega)
 refine ⟨g,c,h1,h3,fun W hW => ?_⟩
 have hT := (h.on hW).rows.ins
 rw [e] at hT
 exact ⟨by rw [<- e];exact ja (h.on hW).mac 3 rfl,hT.cell (by simp [iV,hi])⟩
theorem ja4 {W : World} {u : V} {b : Nat} {t : TypeId} (h : W.heap[b]? = some (.cells #[.bool (vb u),.int .i64 (vi u)] t (0,0))) : VL W b [u] := by
 intro i v hi
 have : i = 0 := by
  have := (jG hi).1
  simp at this;exact this
 subst this
 simp at hi
 subst hi
 exact ja h 0 rfl
theorem jdN {W : World} {u v : V} {b : Nat} {t : TypeId} (h : W.heap[b]? = some (.cells #[.bool (vb u),.int .i64 (vi u),.bool (vb v),.int .i64 (vi v)] t (0,0))) : VL W b [u,v] := by
 intro i z hi
 have : i = 0 \/ i = 1 := by
  have := (jG hi).1
  simp at this;omega
 rcases this with rfl | rfl
 ·simp at hi
  subst hi
  exact ja h 0 rfl
 ·simp at hi
  subst hi
  exact ja h 2 rfl
theorem jmN (s : ByteArray) (κ : Kp) (m : Nat) (Y : Dt) : Good κ (fun w => DOk s κ w m Y) := ⟨fun W e w' h => h.1,fun w W e w' hf ⟨h1,κ',h2,h3⟩ => ⟨h1,κ',h2,Fr0.trans hf h3⟩⟩
section
variable {s : ByteArray} {w W : World} {m : Nat} {κ : Kp} {Y : Dt} {l : List HX} {f : HX}
theorem jL (h : DL s w m κ Y l f) : w.cell? ⟨m,7,none⟩ = some (.int .i64 Y.x.pc) /\ w.frozen? ⟨m,7,none⟩ = false /\ m < w.heap.size /\ Y.x.pc <= 1000000 /\ l.length <= 1000 /\ Hid (DL s w m κ Y l f) := ⟨ja h.dm.mac 7 rfl,je h.dm.mac 7,h.dm.lt,h.hpc,h.hl,h⟩
theorem jK (h : DL s w m κ Y l f) {ln : Array Value} (hW : (w.setCell ⟨m,7,none⟩ (.int .i64 ((Y.x.pc : Int) + 1))).alloc (.cells ln 60 (0,0)) = W) : Hid (LP s w m κ (onD Y) ln W) /\ ∃ g p,W.cell? ⟨m,5,none⟩ = some (.slice (some ⟨g,0,none⟩) (l.length + 1) p) /\ W.cell? ⟨g,l.length,none⟩ = some (.pointer (some ⟨f.b,0,none⟩)) /\ l.length + 1 <= p /\ g < W.heap.size /\ m < W.heap.size /\ (l.length : Int) < (l.length : Int) + 1 := by
 have hT := jiN h.dm (ln := ln)
 rw [hW] at hT
 obtain ⟨g,p,c,d,n,hg⟩ := jf9 hT.dm (show (onD Y).fs = l ++ [f] from h.hf)
 exact ⟨hT,g,p,c,d,n,hg,hT.dm.lt,by omega⟩
variable {o : Int} {q x y p : Nat}
theorem jw (hT : LP s w m κ Y #[.int .i64 o,.int .i64 q,.int .i64 x,.int .i64 y,.int .i64 p] W) : W.cell? ⟨w.heap.size,0,none⟩ = some (.int .i64 o) /\ W.cell? ⟨w.heap.size,1,none⟩ = some (.int .i64 q) /\ W.cell? ⟨w.heap.size,2,none⟩ = some (.int .i64 x) /\ W.cell? ⟨w.heap.size,3,none⟩ = some (.int .i64 y) /\ W.cell? ⟨w.heap.size,4,none⟩ = some (.int .i64 p) /\ w.heap.size < W.heap.size /\ m < W.heap.size /\ Hid (LP s w m κ Y #[.int .i64 o,.int .i64 q,.int .i64 x,.int .i64 y,.int .i64 p] W) :=
 ⟨ja hT.ln 0 rfl,ja hT.ln 1 rfl,ja hT.ln 2 rfl,ja hT.ln 3 rfl,ja hT.ln 4 rfl,jb hT.ln,hT.dm.lt,hT⟩
theorem Je (hT : LP s w m κ Y #[.int .i64 o,.int .i64 q,.int .i64 x,.int .i64 y,.int .i64 p] W) : Hid (∀ yy : Wd W.heap.size W,LP s w m κ Y #[.int .i64 o,.int .i64 q,.int .i64 x,.int .i64 y,.int .i64 p] yy.v) /\ (∀ yy : Wd W.heap.size W,yy.v.cell? ⟨w.heap.size,0,none⟩ = some (.int .i64 o)) /\ (∀ yy : Wd W.heap.size W,yy.v.cell? ⟨w.heap.size,1,none⟩ = some (.int .i64 q)) /\ (∀ yy : Wd W.heap.size W,yy.v.cell? ⟨w.heap.size,2,none⟩ = some (.int .i64 x)) /\ (∀ yy : Wd W.heap.size W,yy.v.cell? ⟨w.heap.size,3,none⟩ = some (.int .i64 y)) /\ (∀ yy : Wd W.heap.size W,yy.v.cell? ⟨w.heap.size,4,none⟩ = some (.int .i64 p)) /\ m < W.heap.size /\ w.heap.size < W.heap.size :=
 ⟨fun yy => hT.on yy.h,fun yy => (jw (hT.on yy.h)).1,fun yy => (jw (hT.on yy.h)).2.1,fun yy => (jw (hT.on yy.h)).2.2.1,fun yy => (jw (hT.on yy.h)).2.2.2.1,fun yy => (jw (hT.on yy.h)).2.2.2.2.1,hT.dm.lt,jb hT.ln⟩
theorem Jd (hT : DM s W m κ Y) (hr : Y.regs.length = 8) : ∃ g cap,Hid (Rg s W m κ Y g cap) /\ g < W.heap.size /\ 8 <= cap /\ (∀ yy : Wd W.heap.size W,yy.v.cell? ⟨m,6,none⟩ = some (.slice (some ⟨g,0,none⟩) 8 cap)) := by
 obtain ⟨g,cap,h⟩ := hT.rgs' hr
 exact ⟨g,cap,h,h.lt,h.c8,fun yy => (h.on _ yy.h).1⟩
variable {g cap : Nat}
theorem jae (HR : Hid (Rg s W m κ Y g cap)) {u : V} (hx : Hid (Y.regs[x]? = some u)) : (∀ yy : Wd W.heap.size W,yy.v.cell? ⟨g,x * 2,none⟩ = some (.bool (vb u))) /\ (∀ yy : Wd W.heap.size W,yy.v.cell? ⟨g,x * 2 + 1,none⟩ = some (.int .i64 (vi u))) :=
 ⟨fun yy => ((HR.out.on _ yy.h).2.1 x _ hx.out).1,fun yy => ((HR.out.on _ yy.h).2.1 x _ hx.out).2⟩
theorem JW (HR : Hid (Rg s W m κ Y g cap)) {a : Int} (hx : Hid (Y.regs[x]? = some (.n a))) : (∀ yy : Wd W.heap.size W,yy.v.cell? ⟨g,x * 2,none⟩ = some (.bool false)) /\ (∀ yy : Wd W.heap.size W,yy.v.cell? ⟨g,x * 2 + 1,none⟩ = some (.int .i64 a)) := jae HR hx
theorem jc0 (HR : Hid (Rg s W m κ Y g cap)) (hr : Y.regs.length = 8) {v : V} (hq : q < 8) (yy : Wd W.heap.size W) : ∃ a b,yy.v.cell? ⟨m,6,none⟩ = some (.slice (some ⟨g,0,none⟩) 8 cap) /\ yy.v.cell? ⟨g,q * 2,none⟩ = some (.bool a) /\ yy.v.cell? ⟨g,q * 2 + 1,none⟩ = some (.int .i64 b) /\ yy.v.frozen? ⟨g,q * 2,none⟩ = false /\ yy.v.frozen? ⟨g,q * 2 + 1,none⟩ = false /\ Hid (DM s ((yy.v.setCell ⟨g,q * 2,none⟩ (.bool (vb v))).setCell ⟨g,q * 2 + 1,none⟩ (.int .i64 (vi v))) m κ (rgS Y q v) /\ Fr0 κ κ yy.v ((yy.v.setCell ⟨g,q * 2,none⟩ (.bool (vb v))).setCell ⟨g,q * 2 + 1,none⟩ (.int .i64 (vi v)))) /\ g < yy.v.heap.size := by
 obtain ⟨k1,k5,k6,k7⟩ := HR.out.on _ yy.h
 obtain ⟨t,ht⟩ : ∃ t,Y.regs[q]? = some t := ⟨_,List.getElem?_eq_getElem (by omega)⟩
 obtain ⟨d0,d1⟩ := k5 q _ ht
 have := yy.h.size
 have := HR.out.lt
 exact ⟨_,_,k1,d0,d1,k6 _,k6 _,k7 q v hq,by omega⟩
theorem JV (hT : DM s W m κ Y) (hr : Y.regs.length = 8) : ∃ g cap,Hid (Rg s W m κ Y g cap) /\ g < W.heap.size /\ 8 <= cap /\ W.cell? ⟨m,6,none⟩ = some (.slice (some ⟨g,0,none⟩) 8 cap) /\ (∀ i u,Y.regs[i]? = some u -> W.cell? ⟨g,i * 2,none⟩ = some (.bool (vb u)) /\ W.cell? ⟨g,i * 2 + 1,none⟩ = some (.int .i64 (vi u))) /\ (∀ j,W.frozen? ⟨g,j,none⟩ = false) := by
 obtain ⟨g,cap,h⟩ := hT.rgs' hr
 obtain ⟨r1,r2,r3,_⟩ := h.on _ jB
 exact ⟨g,cap,h,h.lt,h.c8,r1,r2,r3⟩
theorem gX8 (h : DL s w m κ Y l f) {u : V} (hx : Y.regs[x]? = some u) : (x : Int) < 8 := by have := (jG hx).1;have := h.hr;omega
end
theorem jaT {w W : World} {ln : Array Value} (h : LP s w m κ Y ln W) {b : Nat} {t : TypeId} {a : Int} (hb : W.heap[b]? = some (.cells #[.bool false,.int .i64 a] t (0,0))) : Hid (Calls Tryz.prog 28 #[.pointer (some ⟨m,0,none⟩),.slice (some ⟨b,0,none⟩) 1 1] W fun e w' => e = .returned (.bool true) /\ w' = W) := jaU h.dm (g := b) (l := [.n a]) (jb hb) (ja4 (u := .n a) hb) (by simp) (by simp [vb])
theorem jif {w W : World} {ln : Array Value} (h : LP s w m κ Y ln W) {b : Nat} {t : TypeId} {a c : Int} (hb : W.heap[b]? = some (.cells #[.bool false,.int .i64 a,.bool false,.int .i64 c] t (0,0))) : Hid (Calls Tryz.prog 28 #[.pointer (some ⟨m,0,none⟩),.slice (some ⟨b,0,none⟩) 2 2] W fun e w' => e = .returned (.bool true) /\ w' = W) := jaU h.dm (g := b) (l := [.n a,.n c]) (jb hb) (jdN (u := .n a) (v := .n c) hb) (by simp) (by simp [vb])
theorem jaG {w W : World} {ln : Array Value} (h : LP s w m κ Y ln W) : m < W.heap.size /\ w.heap.size < W.heap.size /\ Hid (LP s w m κ Y ln W) := ⟨h.dm.lt,jb h.ln,h⟩
end Ko
end Go.Proofs.YtjmgolahkgalbaaGreatDoor
