import Derived.Test.YtjmgolahkgalbaaGreatDoorS27
import Derived.Test.YtjmgolahkgalbaaGreatDoorS36
set_option linter.unusedVariables false
set_option linter.unusedSimpArgs false
set_option maxHeartbeats 20000000
namespace Go.Proofs.YtjmgolahkgalbaaGreatDoor
namespace Ko
open Go.RowKit Li
variable {s : ByteArray} {w : World} {r : Nat}
theorem jbF {W : World} {tmps : Array Value} {b : Nat} {x0 x1 : Value} {t : TypeId} {Q : Ending -> World -> Prop} (ht : tmps.getD 4 undef = .pointer (some ⟨b,0,none⟩)) (hb : W.heap[b]? = some (.cells #[x0,x1] t (0,0))) (hq : Q (.returned (.agg #[x0,x1])) W) :
 bodyPost Tryz.prog Tryz.f77 Q Exit.ret { tmps := tmps,defers := [] } W := by
 have c0 : W.cell? ⟨b,0,none⟩ = some x0 := ja hb 0 rfl
 have c1 : W.cell? ⟨b,1,none⟩ = some x1 := ja hb 1 rfl
 have ht' : tmps[4]?.getD undef = .pointer (some ⟨b,0,none⟩) := by simpa using ht
 exact bodyPost_ret (v := .agg #[x0,x1]) (by simp [results,Tryz.results77,go_sem,ht',c0,c1]) rfl hq
theorem jab (o1 o2 : Obj) : Below w.heap.size w ((w.alloc o1).alloc o2) := (jB.alloc jN _).alloc (by simp) _
theorem J0 {w w1 : World} {o1 o2 : Obj} (hb : Below ((w.alloc o1).alloc o2).heap.size ((w.alloc o1).alloc o2) w1) : w1.heap[w.heap.size + 1]? = some o2 := by
 have h := boxed (w := w.alloc o1) hb
 simp only [World.size_alloc] at h
 exact h
theorem Jg {w w1 : World} {o1 o2 : Obj} (hb : Below ((w.alloc o1).alloc o2).heap.size ((w.alloc o1).alloc o2) w1) : Below w.heap.size w w1 := jp (jp hb)
variable {κ : Kp} {X : St}
set_option maxRecDepth 100000 in
theorem jin (h : RM s w r κ X) {q x y p : Nat} {u : V} (hx : x < 8) (hu : X.x.g x = u) :
 Calls Tryz.prog 77 #[.pointer (some ⟨r,0,none⟩),.agg #[.int .i64 2,.int .i64 q,.int .i64 x,.int .i64 y,.int .i64 p]] w fun e w' => e = .returned (.agg #[.bool (vb u),.int .i64 (vi u)]) /\ Below w.heap.size w w' := by
 have H := jH h
 have C1 := jZ h hx hu
 clear h hu
 go_enter Tryz.func77,Tryz.ntmps77
 go_wp2_with (first
  | (go_at_call 80;refine (C1.out _ (jab _ _)).mono ?_;rintro _ w1 ⟨rfl,hb1⟩;obtain ⟨r0,r1,r3,r4,r5,r6⟩ := Jk (J0 hb1);have hs1 := jb (J0 hb1)))
 exact jbF rfl (JF (J0 hb1) _ _) ⟨rfl,jaL (Jg hb1) (Nat.le_succ _) _ _⟩
set_option maxRecDepth 100000 in
theorem jik (h : RM s w r κ X) {q x y p : Nat} {u : V} (hq : q < 8) (hu : X.x.g q = u) :
 Calls Tryz.prog 77 #[.pointer (some ⟨r,0,none⟩),.agg #[.int .i64 5,.int .i64 q,.int .i64 x,.int .i64 y,.int .i64 p]] w fun e w' => e = .returned (.agg #[.bool (vb u),.int .i64 (vi u)]) /\ Below w.heap.size w w' := by
 have H := jH h
 have C1 := jZ h hq hu
 clear h hu
 go_enter Tryz.func77,Tryz.ntmps77
 go_wp2_with (first
  | (go_at_call 80;refine (C1.out _ (jab _ _)).mono ?_;rintro _ w1 ⟨rfl,hb1⟩;obtain ⟨r0,r1,r3,r4,r5,r6⟩ := Jk (J0 hb1);have hs1 := jb (J0 hb1)))
 exact jbF rfl (JF (J0 hb1) _ _) ⟨rfl,jaL (Jg hb1) (Nat.le_succ _) _ _⟩
set_option maxRecDepth 100000 in
theorem jim (h : RM s w r κ X) {q x y p : Nat} {u : V} {l : List FX} {f : FX} (hf : X.fs = l ++ [f]) (hn : f.sl[x]? = some u) (hl : l.length <= 1000) :
 Calls Tryz.prog 77 #[.pointer (some ⟨r,0,none⟩),.agg #[.int .i64 3,.int .i64 q,.int .i64 x,.int .i64 y,.int .i64 p]] w fun e w' => e = .returned (.agg #[.bool (vb u),.int .i64 (vi u)]) /\ Below w.heap.size w w' := by
 have H := jH h
 have C1 : Hid (jC w 101 #[.pointer (some ⟨r,0,none⟩),.int .i64 x] (.agg #[.bool (vb u),.int .i64 (vi u)])) := fun W' hW => by exact jd2 (h.on hW) hf hn hl
 clear h hf hn
 go_enter Tryz.func77,Tryz.ntmps77
 go_wp2_with (first
  | (go_at_call 101;refine (C1.out _ (jab _ _)).mono ?_;rintro _ w1 ⟨rfl,hb1⟩;obtain ⟨r0,r1,r3,r4,r5,r6⟩ := Jk (J0 hb1);have hs1 := jb (J0 hb1)))
 exact jbF rfl (JF (J0 hb1) _ _) ⟨rfl,jaL (Jg hb1) (Nat.le_succ _) _ _⟩
set_option maxRecDepth 100000 in
theorem jil (h : RM s w r κ X) {q x y p : Nat} {u : V} {l : List FX} {f : FX} (hf : X.fs = l ++ [f]) (hn : f.sl[x]? = some u) (hl : l.length <= 1000) :
 Calls Tryz.prog 77 #[.pointer (some ⟨r,0,none⟩),.agg #[.int .i64 4,.int .i64 q,.int .i64 x,.int .i64 y,.int .i64 p]] w fun e w' => e = .returned (.agg #[.bool (vb u),.int .i64 (vi u)]) /\ Below w.heap.size w w' := by
 have H := jH h
 have C1 : Hid (jC w 101 #[.pointer (some ⟨r,0,none⟩),.int .i64 x] (.agg #[.bool (vb u),.int .i64 (vi u)])) := fun W' hW => by exact jd2 (h.on hW) hf hn hl
 clear h hf hn
 go_enter Tryz.func77,Tryz.ntmps77
 go_wp2_with (first
  | (go_at_call 101;refine (C1.out _ (jab _ _)).mono ?_;rintro _ w1 ⟨rfl,hb1⟩;obtain ⟨r0,r1,r3,r4,r5,r6⟩ := Jk (J0 hb1);have hs1 := jb (J0 hb1)))
 exact jbF rfl (JF (J0 hb1) _ _) ⟨rfl,jaL (Jg hb1) (Nat.le_succ _) _ _⟩
theorem jip (h : RM s w r κ X) {q x y p : Nat} :
 Calls Tryz.prog 77 #[.pointer (some ⟨r,0,none⟩),.agg #[.int .i64 6,.int .i64 q,.int .i64 x,.int .i64 y,.int .i64 p]] w fun e w' => e = .returned (.agg #[.bool false,.int .i64 0]) /\ Below w.heap.size w w' := by
 clear h
 go_enter Tryz.func77,Tryz.ntmps77
 go_wp2
 go_returns
 exact ⟨rfl,jab _ _⟩
set_option maxRecDepth 100000 in
theorem jio (h : RM s w r κ X) {q x y p : Nat} (hx : x < hN s) :
 Calls Tryz.prog 77 #[.pointer (some ⟨r,0,none⟩),.agg #[.int .i64 1,.int .i64 q,.int .i64 x,.int .i64 y,.int .i64 p]] w fun e w' => e = .returned (.agg #[.bool false,.int .i64 (kn s x)]) /\ Below w.heap.size w w' := by
 have H := jH h
 have hlt := h.lt
 obtain ⟨k0,k1,k2,c0,c1,c2,_,hK,_⟩ := jcB h
 obtain ⟨Z,hZ⟩ : ∃ Z,kn s x = Z := ⟨_,rfl⟩
 have C1 : Hid (jC w 100 #[.agg #[k0,k1,k2],.int .i64 x] (.int .i64 Z)) := fun W' hW => by rw [<- hZ];exact hK x hx W' hW
 have C2 : Hid (jD 82 #[.int .i64 Z] (.agg #[.bool false,.int .i64 Z])) := fun W' => jbD _ _
 rw [hZ]
 clear h hK hZ hx
 go_enter Tryz.func77,Tryz.ntmps77
 go_wp2_with fail
 have hW := jab (w := w) (.cells #[.int .i64 1,.int .i64 q,.int .i64 x,.int .i64 y,.int .i64 p] 116 (0,0)) (.cells #[.bool false,.int .i64 0] 78 (0,0))
 have hln : ((w.alloc (.cells #[.int .i64 1,.int .i64 q,.int .i64 x,.int .i64 y,.int .i64 p] 116 (0,0))).alloc (.cells #[.bool false,.int .i64 0] 78 (0,0))).heap[w.heap.size]? = some (.cells #[.int .i64 1,.int .i64 q,.int .i64 x,.int .i64 y,.int .i64 p] 116 (0,0)) := jc (jg w _) ((Below.refl (w.alloc _).heap.size (w.alloc _)).alloc jN _) (by simp)
 have hrs : ((w.alloc (.cells #[.int .i64 1,.int .i64 q,.int .i64 x,.int .i64 y,.int .i64 p] 116 (0,0))).alloc (.cells #[.bool false,.int .i64 0] 78 (0,0))).heap[w.heap.size + 1]? = some (.cells #[.bool false,.int .i64 0] 78 (0,0)) := j9 (w := w.alloc _) (by simp)
 generalize (w.alloc (.cells #[.int .i64 1,.int .i64 q,.int .i64 x,.int .i64 y,.int .i64 p] 116 (0,0))).alloc (.cells #[.bool false,.int .i64 0] 78 (0,0)) = W at hW hln hrs ⊢
 have HY : Hid (∀ yy : Wd W.heap.size W,Below w.heap.size w yy.v) := fun yy => hW.trans (yy.h.mono hW.size)
 have f2 : ∀ yy : Wd W.heap.size W,yy.v.cell? ⟨w.heap.size,2,none⟩ = some (.int .i64 x) := fun yy => Wd.at hln (jb hln) 2 rfl yy
 have d0 : ∀ yy : Wd W.heap.size W,yy.v.cell? ⟨r,0,none⟩ = some k0 := fun yy => ((HY.out yy).cell (p := ⟨r,0,none⟩) hlt).trans c0
 have d1 : ∀ yy : Wd W.heap.size W,yy.v.cell? ⟨r,1,none⟩ = some k1 := fun yy => ((HY.out yy).cell (p := ⟨r,1,none⟩) hlt).trans c1
 have d2 : ∀ yy : Wd W.heap.size W,yy.v.cell? ⟨r,2,none⟩ = some k2 := fun yy => ((HY.out yy).cell (p := ⟨r,2,none⟩) hlt).trans c2
 have HRS : Hid (∀ yy : Wd W.heap.size W,yy.v.heap[w.heap.size + 1]? = some (.cells #[.bool false,.int .i64 0] 78 (0,0))) := fun yy => jc hrs yy.h (jb hrs)
 haveI := Wd.ne
 clear hW hln hrs c0 c1 c2
 refine jP 8 9 (by kernel_rfl) (by kernel_rfl) (by decide) ?_
 simp only [TkD]
 iterate 6
  apply jd (by decide) (by rfl)
  ·intro yy;go_simp;all_goals with_reducible rfl
  simp only [Act.put,SsT]
 refine jd (by decide) (by rfl) (v := ?v6) ?hv6 ?_
 case hv6 => (intro yy;go_simp;exact C1.out _ (HY.out _))
 simp only [Act.put,SsT]
 refine jd (by decide) (by rfl) (v := ?v7) ?hv7 ?_
 case hv7 => (intro yy;go_simp;exact C2.out _)
 simp only [Act.put,SsT]
 refine js ?_
 intro yy
 obtain ⟨r0,r1,r3,r4,r5,r6⟩ := Jk (HRS.out yy)
 have hs1 := jb (HRS.out yy)
 go_wp2_with fail
 exact jbF rfl (JF (HRS.out yy) _ _) ⟨rfl,jaL (HY.out yy) (Nat.le_succ _) _ _⟩
set_option maxRecDepth 100000 in
theorem jiu (h : RM s w r κ X) {q x y p : Nat} {u : V} (hq : q < 8) (hC : ∀ W,RM s W r κ X -> Calls Tryz.prog 77 #[.pointer (some ⟨r,0,none⟩),.agg #[.int .i64 1,.int .i64 q,.int .i64 x,.int .i64 y,.int .i64 p]] W fun e w' => e = .returned (.agg #[.bool (vb u),.int .i64 (vi u)]) /\ Below W.heap.size W w') :
 Calls Tryz.prog 51 #[.pointer (some ⟨r,0,none⟩),.agg #[.int .i64 1,.int .i64 q,.int .i64 x,.int .i64 y,.int .i64 p]] w (OkP s κ w r (JU X q u)) := by
 have H := jH h
 have HC := jH hC
 clear h hC
 go_enter Tryz.func51,Tryz.ntmps51
 go_wp2_with (first
  | (go_at_call 77;refine (HC.out _ (H.out.on (jB.alloc jN _))).mono ?_;rintro _ w1 ⟨rfl,hb1⟩;have l0w1 : w1.cell? ⟨w.heap.size,0,none⟩ = some (.int .i64 (1)) := ja (boxed hb1) 0 rfl;have l1w1 : w1.cell? ⟨w.heap.size,1,none⟩ = some (.int .i64 ((q : Nat))) := ja (boxed hb1) 1 rfl;have l2w1 : w1.cell? ⟨w.heap.size,2,none⟩ = some (.int .i64 ((x : Nat))) := ja (boxed hb1) 2 rfl;have l3w1 : w1.cell? ⟨w.heap.size,3,none⟩ = some (.int .i64 ((y : Nat))) := ja (boxed hb1) 3 rfl;have l4w1 : w1.cell? ⟨w.heap.size,4,none⟩ = some (.int .i64 ((p : Nat))) := ja (boxed hb1) 4 rfl;have hw1 := jb (boxed hb1))
  | (go_at_call 79;refine (J5 (H.out.on (bb1 hb1 _)) hq u).mono ?_;rintro _ w2 ⟨rfl,hm2,hf2⟩))
 go_returns
 exact ⟨rfl,κ,hm2,Fr0.trans (Fr.of (bb1 hb1 _)) hf2⟩
set_option maxRecDepth 100000 in
theorem jit (h : RM s w r κ X) {q x y p : Nat} {u : V} (hq : q < 8) (hC : ∀ W,RM s W r κ X -> Calls Tryz.prog 77 #[.pointer (some ⟨r,0,none⟩),.agg #[.int .i64 2,.int .i64 q,.int .i64 x,.int .i64 y,.int .i64 p]] W fun e w' => e = .returned (.agg #[.bool (vb u),.int .i64 (vi u)]) /\ Below W.heap.size W w') :
 Calls Tryz.prog 51 #[.pointer (some ⟨r,0,none⟩),.agg #[.int .i64 2,.int .i64 q,.int .i64 x,.int .i64 y,.int .i64 p]] w (OkP s κ w r (JU X q u)) := by
 have H := jH h
 have HC := jH hC
 clear h hC
 go_enter Tryz.func51,Tryz.ntmps51
 go_wp2_with (first
  | (go_at_call 77;refine (HC.out _ (H.out.on (jB.alloc jN _))).mono ?_;rintro _ w1 ⟨rfl,hb1⟩;have l0w1 : w1.cell? ⟨w.heap.size,0,none⟩ = some (.int .i64 (2)) := ja (boxed hb1) 0 rfl;have l1w1 : w1.cell? ⟨w.heap.size,1,none⟩ = some (.int .i64 ((q : Nat))) := ja (boxed hb1) 1 rfl;have l2w1 : w1.cell? ⟨w.heap.size,2,none⟩ = some (.int .i64 ((x : Nat))) := ja (boxed hb1) 2 rfl;have l3w1 : w1.cell? ⟨w.heap.size,3,none⟩ = some (.int .i64 ((y : Nat))) := ja (boxed hb1) 3 rfl;have l4w1 : w1.cell? ⟨w.heap.size,4,none⟩ = some (.int .i64 ((p : Nat))) := ja (boxed hb1) 4 rfl;have hw1 := jb (boxed hb1))
  | (go_at_call 79;refine (J5 (H.out.on (bb1 hb1 _)) hq u).mono ?_;rintro _ w2 ⟨rfl,hm2,hf2⟩))
 go_returns
 exact ⟨rfl,κ,hm2,Fr0.trans (Fr.of (bb1 hb1 _)) hf2⟩
set_option maxRecDepth 100000 in
theorem jis (h : RM s w r κ X) {q x y p : Nat} {u : V} (hq : q < 8) (hC : ∀ W,RM s W r κ X -> Calls Tryz.prog 77 #[.pointer (some ⟨r,0,none⟩),.agg #[.int .i64 3,.int .i64 q,.int .i64 x,.int .i64 y,.int .i64 p]] W fun e w' => e = .returned (.agg #[.bool (vb u),.int .i64 (vi u)]) /\ Below W.heap.size W w') :
 Calls Tryz.prog 51 #[.pointer (some ⟨r,0,none⟩),.agg #[.int .i64 3,.int .i64 q,.int .i64 x,.int .i64 y,.int .i64 p]] w (OkP s κ w r (JU X q u)) := by
 have H := jH h
 have HC := jH hC
 clear h hC
 go_enter Tryz.func51,Tryz.ntmps51
 go_wp2_with (first
  | (go_at_call 77;refine (HC.out _ (H.out.on (jB.alloc jN _))).mono ?_;rintro _ w1 ⟨rfl,hb1⟩;have l0w1 : w1.cell? ⟨w.heap.size,0,none⟩ = some (.int .i64 (3)) := ja (boxed hb1) 0 rfl;have l1w1 : w1.cell? ⟨w.heap.size,1,none⟩ = some (.int .i64 ((q : Nat))) := ja (boxed hb1) 1 rfl;have l2w1 : w1.cell? ⟨w.heap.size,2,none⟩ = some (.int .i64 ((x : Nat))) := ja (boxed hb1) 2 rfl;have l3w1 : w1.cell? ⟨w.heap.size,3,none⟩ = some (.int .i64 ((y : Nat))) := ja (boxed hb1) 3 rfl;have l4w1 : w1.cell? ⟨w.heap.size,4,none⟩ = some (.int .i64 ((p : Nat))) := ja (boxed hb1) 4 rfl;have hw1 := jb (boxed hb1))
  | (go_at_call 79;refine (J5 (H.out.on (bb1 hb1 _)) hq u).mono ?_;rintro _ w2 ⟨rfl,hm2,hf2⟩))
 go_returns
 exact ⟨rfl,κ,hm2,Fr0.trans (Fr.of (bb1 hb1 _)) hf2⟩
def jak (X : St) (l : List FX) (f : FX) (x : Nat) (u0 u : V) : St := { X with fs := l ++ [{ f with sl := f.sl.set x u }],bs := jO (jO X.bs u0 (-1)) u 1 }
set_option maxRecDepth 100000 in
theorem jir (h : RM s w r κ X) {q x y p : Nat} {u : V} {l : List FX} {f : FX} {u0 : V} (hf : X.fs = l ++ [f]) (hn : f.sl[x]? = some u0) (hl : l.length <= 1000) (hu0 : ∀ i,u0 = .b i -> i < X.bs.length) (hu : ∀ i,u = .b i -> i < X.bs.length) (hb : ∀ (i : Nat) (b : HB),X.bs[i]? = some b -> -100000 <= b.held /\ b.held <= 100000) (hC : ∀ W,RM s W r κ X -> Calls Tryz.prog 77 #[.pointer (some ⟨r,0,none⟩),.agg #[.int .i64 5,.int .i64 q,.int .i64 x,.int .i64 y,.int .i64 p]] W fun e w' => e = .returned (.agg #[.bool (vb u),.int .i64 (vi u)]) /\ Below W.heap.size W w') :
 Calls Tryz.prog 51 #[.pointer (some ⟨r,0,none⟩),.agg #[.int .i64 5,.int .i64 q,.int .i64 x,.int .i64 y,.int .i64 p]] w (OkP s κ w r (jak X l f x u0 u)) := by
 have H := jH h
 have HC := jH hC
 have C2 : Hid (∀ W,RM s W r κ X -> Calls Tryz.prog 78 #[.pointer (some ⟨r,0,none⟩),.int .i64 x,.agg #[.bool (vb u),.int .i64 (vi u)]] W fun e w' => e = .returned (.tuple #[]) /\ RM s w' r κ (jak X l f x u0 u) /\ Fr0 κ κ W w') := fun W hW => jcY hW hf hn hl hu0 hu hb
 clear h hC hf hn hu0 hu hb
 go_enter Tryz.func51,Tryz.ntmps51
 go_wp2_with (first
  | (go_at_call 77;refine (HC.out _ (H.out.on (jB.alloc jN _))).mono ?_;rintro _ w1 ⟨rfl,hb1⟩;have l0w1 : w1.cell? ⟨w.heap.size,0,none⟩ = some (.int .i64 (5)) := ja (boxed hb1) 0 rfl;have l1w1 : w1.cell? ⟨w.heap.size,1,none⟩ = some (.int .i64 ((q : Nat))) := ja (boxed hb1) 1 rfl;have l2w1 : w1.cell? ⟨w.heap.size,2,none⟩ = some (.int .i64 ((x : Nat))) := ja (boxed hb1) 2 rfl;have l3w1 : w1.cell? ⟨w.heap.size,3,none⟩ = some (.int .i64 ((y : Nat))) := ja (boxed hb1) 3 rfl;have l4w1 : w1.cell? ⟨w.heap.size,4,none⟩ = some (.int .i64 ((p : Nat))) := ja (boxed hb1) 4 rfl;have hw1 := jb (boxed hb1))
  | (go_at_call 78;refine (C2.out _ (H.out.on (bb1 hb1 _))).mono ?_;rintro _ w2 ⟨rfl,hm2,hf2⟩))
 go_returns
 exact ⟨rfl,κ,hm2,Fr0.trans (Fr.of (bb1 hb1 _)) hf2⟩
set_option maxRecDepth 100000 in
theorem jiq (h : RM s w r κ X) {q x y p : Nat} {u : V} {l : List FX} {f : FX} {u0 : V} (hf : X.fs = l ++ [f]) (hn : f.sl[x]? = some u0) (hl : l.length <= 1000) (hu0 : ∀ i,u0 = .b i -> i < X.bs.length) (hu : ∀ i,u = .b i -> i < X.bs.length) (hb : ∀ (i : Nat) (b : HB),X.bs[i]? = some b -> -100000 <= b.held /\ b.held <= 100000) (hC : ∀ W,RM s W r κ X -> Calls Tryz.prog 77 #[.pointer (some ⟨r,0,none⟩),.agg #[.int .i64 6,.int .i64 q,.int .i64 x,.int .i64 y,.int .i64 p]] W fun e w' => e = .returned (.agg #[.bool (vb u),.int .i64 (vi u)]) /\ Below W.heap.size W w') :
 Calls Tryz.prog 51 #[.pointer (some ⟨r,0,none⟩),.agg #[.int .i64 6,.int .i64 q,.int .i64 x,.int .i64 y,.int .i64 p]] w (OkP s κ w r (jak X l f x u0 u)) := by
 have H := jH h
 have HC := jH hC
 have C2 : Hid (∀ W,RM s W r κ X -> Calls Tryz.prog 78 #[.pointer (some ⟨r,0,none⟩),.int .i64 x,.agg #[.bool (vb u),.int .i64 (vi u)]] W fun e w' => e = .returned (.tuple #[]) /\ RM s w' r κ (jak X l f x u0 u) /\ Fr0 κ κ W w') := fun W hW => jcY hW hf hn hl hu0 hu hb
 clear h hC hf hn hu0 hu hb
 go_enter Tryz.func51,Tryz.ntmps51
 go_wp2_with (first
  | (go_at_call 77;refine (HC.out _ (H.out.on (jB.alloc jN _))).mono ?_;rintro _ w1 ⟨rfl,hb1⟩;have l0w1 : w1.cell? ⟨w.heap.size,0,none⟩ = some (.int .i64 (6)) := ja (boxed hb1) 0 rfl;have l1w1 : w1.cell? ⟨w.heap.size,1,none⟩ = some (.int .i64 ((q : Nat))) := ja (boxed hb1) 1 rfl;have l2w1 : w1.cell? ⟨w.heap.size,2,none⟩ = some (.int .i64 ((x : Nat))) := ja (boxed hb1) 2 rfl;have l3w1 : w1.cell? ⟨w.heap.size,3,none⟩ = some (.int .i64 ((y : Nat))) := ja (boxed hb1) 3 rfl;have l4w1 : w1.cell? ⟨w.heap.size,4,none⟩ = some (.int .i64 ((p : Nat))) := ja (boxed hb1) 4 rfl;have hw1 := jb (boxed hb1))
  | (go_at_call 78;refine (C2.out _ (H.out.on (bb1 hb1 _))).mono ?_;rintro _ w2 ⟨rfl,hm2,hf2⟩))
 go_returns
 exact ⟨rfl,κ,hm2,Fr0.trans (Fr.of (bb1 hb1 _)) hf2⟩
set_option maxRecDepth 100000 in
theorem jiv (h : RM s w r κ X) {q x y p : Nat} {l : List FX} {f : FX} {u : V} (hq : q < 8) (hf : X.fs = l ++ [f]) (hn : f.sl[x]? = some u) (hl : l.length <= 1000) (hu : ∀ i,u = .b i -> i < X.bs.length) (hb : ∀ (i : Nat) (b : HB),X.bs[i]? = some b -> -100000 <= b.held /\ b.held <= 100000) :
 Calls Tryz.prog 51 #[.pointer (some ⟨r,0,none⟩),.agg #[.int .i64 4,.int .i64 q,.int .i64 x,.int .i64 y,.int .i64 p]] w (OkP s κ w r (JU (jak X l f x u z0) q u)) := by
 have H := jH h
 have HC : Hid (∀ W,RM s W r κ X -> Calls Tryz.prog 77 #[.pointer (some ⟨r,0,none⟩),.agg #[.int .i64 4,.int .i64 q,.int .i64 x,.int .i64 y,.int .i64 p]] W fun e w' => e = .returned (.agg #[.bool (vb u),.int .i64 (vi u)]) /\ Below W.heap.size W w') := fun W hW => jil hW hf hn hl
 have C2 : Hid (∀ W,RM s W r κ X -> Calls Tryz.prog 78 #[.pointer (some ⟨r,0,none⟩),.int .i64 x,.agg #[.bool false,.int .i64 0]] W fun e w' => e = .returned (.tuple #[]) /\ RM s w' r κ (jak X l f x u z0) /\ Fr0 κ κ W w') := fun W hW => jcY (u := z0) hW hf hn hl hu (fun i e => by cases e) hb
 have HTOP := jH h.top
 clear h hf hn hu hb
 go_enter Tryz.func51,Tryz.ntmps51
 go_wp2_with (first
  | (go_at_call 77;refine (HC.out _ (H.out.on (jB.alloc jN _))).mono ?_;rintro _ w1 ⟨rfl,hb1⟩;have l0w1 : w1.cell? ⟨w.heap.size,0,none⟩ = some (.int .i64 (4)) := ja (boxed hb1) 0 rfl;have l1w1 : w1.cell? ⟨w.heap.size,1,none⟩ = some (.int .i64 ((q : Nat))) := ja (boxed hb1) 1 rfl;have l2w1 : w1.cell? ⟨w.heap.size,2,none⟩ = some (.int .i64 ((x : Nat))) := ja (boxed hb1) 2 rfl;have l3w1 : w1.cell? ⟨w.heap.size,3,none⟩ = some (.int .i64 ((y : Nat))) := ja (boxed hb1) 3 rfl;have l4w1 : w1.cell? ⟨w.heap.size,4,none⟩ = some (.int .i64 ((p : Nat))) := ja (boxed hb1) 4 rfl;have hw1 := jb (boxed hb1))
  | (go_at_call 78;refine (C2.out _ (H.out.on (bb1 hb1 _))).mono ?_;rintro _ w2 ⟨rfl,hm2,hf2⟩;have hA1 := (Below.refl w1.heap.size w1).alloc jN (.cells #[.bool (vb u),.int .i64 (vi u)] 78 (0,0));have hln := hf2.blk (jc (boxed hb1) hA1 (jb (boxed hb1))) (HTOP.out _ jN);have hvl := hf2.blk (jg w1 (.cells #[.bool (vb u),.int .i64 (vi u)] 78 (0,0))) (HTOP.out _ (jp hb1).size);have l0w2 : w2.cell? ⟨w.heap.size,0,none⟩ = some (.int .i64 (4)) := ja hln 0 rfl;have l1w2 : w2.cell? ⟨w.heap.size,1,none⟩ = some (.int .i64 ((q : Nat))) := ja hln 1 rfl;have l2w2 : w2.cell? ⟨w.heap.size,2,none⟩ = some (.int .i64 ((x : Nat))) := ja hln 2 rfl;have l3w2 : w2.cell? ⟨w.heap.size,3,none⟩ = some (.int .i64 ((y : Nat))) := ja hln 3 rfl;have l4w2 : w2.cell? ⟨w.heap.size,4,none⟩ = some (.int .i64 ((p : Nat))) := ja hln 4 rfl;have v0 : w2.cell? ⟨w1.heap.size,0,none⟩ = some (.bool (vb u)) := ja hvl 0 rfl;have v1 : w2.cell? ⟨w1.heap.size,1,none⟩ = some (.int .i64 (vi u)) := ja hvl 1 rfl;have HM2 := jH hm2;have HF2 := jH hf2;clear hm2 hf2 hln hvl)
  | (go_at_call 79;refine (J5 HM2.out hq u).mono ?_;rintro _ w3 ⟨rfl,hm3,hf3⟩))
 go_returns
 exact ⟨rfl,κ,hm3,Fr0.trans (Fr0.trans (Fr.of (bb1 hb1 _)) HF2.out) hf3⟩
def jaI (X : St) (l : List FX) (f : FX) (vf : Value) : St := { X with x := { X.x with vfr := vf },fs := l,bs := Jm X.bs f.sl }
def valS (X : St) (z : Int) : St := { X with x := { X.x with val := z } }
structure Lv (X : St) (l : List FX) (f : FX) : Prop where
 fs : X.fs = l ++ [f]
 len : l.length <= 1000
 sl : f.sl.length <= 100000
 ok : ∀ u ∈ f.sl,∀ i,u = .b i -> i < X.bs.length
 held : ∀ (i : Nat) (b : HB),X.bs[i]? = some b -> -100000 <= b.held /\ b.held <= 100000
theorem jdj (h : RM s w r κ X) {l : List FX} {f : FX} (hv : Lv X l f) :
 Calls Tryz.prog 90 #[.pointer (some ⟨r,0,none⟩)] w fun e w' => e = .returned (.int .i64 f.back) /\ Nw s κ w r (fun X' => ∃ vf,X' = jaI X l f vf) w' := leave_any h hv.fs hv.len hv.sl hv.ok hv.held
set_option maxRecDepth 100000 in
theorem jg9 (h : RM s w r κ X) {l : List FX} {f : FX} (hv : Lv X l f) (hl : 0 < l.length) :
 Calls Tryz.prog 59 #[.pointer (some ⟨r,0,none⟩)] w fun e w' => ∃ vf,OkP s κ w r (nxt (jaI X l f vf) f.back) e w' := by
 have H := jH h
 have HV := jH hv
 obtain ⟨u,hg⟩ : ∃ u,X.x.g 0 = u := ⟨_,rfl⟩
 have CR : Hid (Calls Tryz.prog 80 #[.pointer (some ⟨r,0,none⟩),.int .i64 0] w fun e w' => e = .returned (.agg #[.bool (vb u),.int .i64 (vi u)]) /\ Below w.heap.size w w') := by have := jar h (n := 0) (by omega);rw [hg] at this;exact this
 have hlen : X.fs.length = l.length + 1 := by rw [hv.fs];simp
 obtain ⟨a,c,e,_⟩ := h.rows.frs.any
 rw [hlen] at e
 have HE := jH e
 have hbl := hv.len
 have g1 : decide ((1 : Int) < (l.length : Int) + 1) = true := by simp;omega
 clear h hg hv e hlen
 go_enter Tryz.func59,Tryz.ntmps59
 go_wp2_with (first
  | (go_at_call 80;refine CR.out.mono ?_;rintro _ w1 ⟨rfl,hb1⟩;have hm1 := H.out.on hb1;have c22 : w1.cell? ⟨r,22,none⟩ = some (.slice a (l.length + 1) c) := (by rw [<- HE.out];exact ja hm1.run 22 rfl);have hr1 := hm1.lt;clear hm1)
  | (go_at_call 90;refine (jdj (H.out.on (hb1.alloc hb1.size _)) HV.out).mono ?_;rintro _ w2 ⟨rfl,κ2,X2,⟨vf,hX2⟩,hm2,hf2⟩;have c5 : w2.cell? ⟨r,5,none⟩ = some (.int .i64 X2.x.next) := ja hm2.run 5 rfl;have z5 := je hm2.run 5;have HM2 := jH hm2;have HF2 := jH hf2;have HX2 := jH hX2;clear hm2 hf2 hX2))
 go_returns
 obtain ⟨h1,h2⟩ := HM2.out.nxt f.back
 rw [HX2.out] at h1
 exact ⟨vf,rfl,κ2,h1,Fr0.trans (Fr0.trans (Fr.of (hb1.alloc hb1.size _)) HF2.out) h2⟩
theorem jhb (h : RM s w r κ X) {f : FX} {i : Nat} (hf : X.fs = [f]) (hg : X.x.g 0 = .b i) :
 Calls Tryz.prog 59 #[.pointer (some ⟨r,0,none⟩)] w (EnP κ w r X 50 0) := by
 have H := jH h
 have CR : Hid (Calls Tryz.prog 80 #[.pointer (some ⟨r,0,none⟩),.int .i64 0] w fun e w' => e = .returned (.agg #[.bool true,.int .i64 i]) /\ Below w.heap.size w w') := by have := jar h (n := 0) (by omega);rw [hg] at this;exact this
 obtain ⟨a,c,e,_⟩ := h.rows.frs.any
 have hlen : X.fs.length = 1 := by rw [hf];rfl
 rw [hlen] at e
 have HE := jH e
 clear h hg hf e hlen
 go_enter Tryz.func59,Tryz.ntmps59
 go_wp2_with (first
  | (go_at_call 80;refine CR.out.mono ?_;rintro _ w1 ⟨rfl,hb1⟩;have hm1 := H.out.on hb1;have c22 : w1.cell? ⟨r,22,none⟩ = some (.slice a 1 c) := (by rw [<- HE.out];exact ja hm1.run 22 rfl);have hr1 := hm1.lt;clear hm1)
  | (go_at_call 60;refine (JP (H.out.on (hb1.alloc hb1.size _))).mono ?_;rintro _ w2 ⟨rfl,h2,f2⟩))
 go_returns
 exact ⟨rfl,κ,h2,Fr0.trans (Fr.of (hb1.alloc hb1.size _)) f2⟩
theorem jg7 (h : RM s w r κ X) {f : FX} {z : Int} (hf : X.fs = [f]) (hg : X.x.g 0 = .n z) :
 Calls Tryz.prog 59 #[.pointer (some ⟨r,0,none⟩)] w (EnP κ w r (valS X z) 0 0) := by
 have H := jH h
 have CR : Hid (Calls Tryz.prog 80 #[.pointer (some ⟨r,0,none⟩),.int .i64 0] w fun e w' => e = .returned (.agg #[.bool false,.int .i64 z]) /\ Below w.heap.size w w') := by have := jar h (n := 0) (by omega);rw [hg] at this;exact this
 obtain ⟨a,c,e,_⟩ := h.rows.frs.any
 have hlen : X.fs.length = 1 := by rw [hf];rfl
 rw [hlen] at e
 have HE := jH e
 have HVS : Hid (∀ W,RM s W r κ X -> RM s (W.setCell ⟨r,31,none⟩ (.int .i64 z)) r κ (valS X z) /\ Fr0 κ κ W (W.setCell ⟨r,31,none⟩ (.int .i64 z))) := fun W hW => ⟨hW.upd (jf hW.run 31 _) ((Lone.refl _ _).set 31 _) rfl,hW.low ((Lone.refl _ _).set 31 _)⟩
 clear h hg hf e hlen
 go_enter Tryz.func59,Tryz.ntmps59
 go_upto_region 6 with (first
  | (go_at_call 80;refine CR.out.mono ?_;rintro _ w1 ⟨rfl,hb1⟩;have hm1 := H.out.on hb1;have c22 : w1.cell? ⟨r,22,none⟩ = some (.slice a 1 c) := (by rw [<- HE.out];exact ja hm1.run 22 rfl);have c31 : w1.cell? ⟨r,31,none⟩ = some (.int .i64 X.x.val) := ja hm1.run 31 rfl;have z31 := je hm1.run 31;have hr1 := hm1.lt;clear hm1))
 obtain ⟨hm2,hf2⟩ := HVS.out _ (H.out.on hb1)
 have HM2 := jH (hm2.al (.cells #[.bool false,.int .i64 z] 78 (0,0)))
 have HF2 := jH (Fr.al (Fr0.trans (Fr.of hb1) hf2) (.cells #[.bool false,.int .i64 z] 78 (0,0)))
 generalize (w1.setCell ⟨r,31,none⟩ (.int .i64 z)).alloc (.cells #[.bool false,.int .i64 z] 78 (0,0)) = W at HM2 HF2 ⊢
 clear hm2 hf2
 go_wp2_with (first
  | (go_at_call 81;refine (end_any HM2.out 0 0).mono ?_;rintro _ w3 ⟨rfl,h3,f3⟩))
 go_returns
 exact ⟨rfl,κ,h3,Fr0.trans HF2.out f3⟩
def JZ (s : ByteArray) (X : St) (k back : Nat) (vf v : Value) : St := { X with x := { X.x with vfr := vf,next := r0 s k },fs := X.fs ++ [⟨back,List.replicate (r3 s k) z0,v⟩] }
theorem jcv (a b c d : Int) (w : World) : Sem.run Tryz.prog (Instr.field 124 (.agg #[.int .i64 a,.int .i64 b,.int .i64 c,.int .i64 d]) 1) w = .ok (.int .i64 b) w := by kernel_rfl
set_option maxRecDepth 100000 in
theorem jl3 (h : RM s w r κ X) {q x y p : Nat} (hd : X.x.depth <= X.fs.length) :
 Calls Tryz.prog 58 #[.pointer (some ⟨r,0,none⟩),.agg #[.int .i64 29,.int .i64 q,.int .i64 x,.int .i64 y,.int .i64 p]] w (EnP κ w r X 41 0) := by
 have H := jH h
 have hlt := h.lt
 obtain ⟨a,c,e,_⟩ := h.rows.frs.any
 obtain ⟨D,hD⟩ : ∃ D,X.x.depth = D := ⟨_,rfl⟩
 obtain ⟨N,hN⟩ : ∃ N,X.x.next = N := ⟨_,rfl⟩
 have c22 : w.cell? ⟨r,22,none⟩ = some (.slice a X.fs.length c) := by rw [<- e];exact ja h.run 22 rfl
 have c3 : w.cell? ⟨r,3,none⟩ = some (.int .i64 D) := by rw [<- hD];exact ja h.run 3 rfl
 have c5 : w.cell? ⟨r,5,none⟩ = some (.int .i64 N) := by rw [<- hN];exact ja h.run 5 rfl
 rw [hD] at hd
 have g1 : decide ((D : Int) <= (X.fs.length : Int)) = true := by simp;omega
 clear h e hD hN
 go_enter Tryz.func58,Tryz.ntmps58
 go_wp2_with fail
 go_region
 rename_i K hK
 refine hK _ _ ?_
 go_wp2_with (first
  | (go_at_call 81;refine (end_any (H.out.on (jB.alloc jN _).drew) 41 0).mono ?_;rintro _ w3 ⟨rfl,h3,f3⟩))
 go_returns
 exact ⟨rfl,κ,h3,Fr0.trans (Fr.of (jB.alloc jN _).drew) f3⟩
set_option maxRecDepth 100000 in
theorem jl1 (h : RM s w r κ X) {q x y p : Nat} (hd : X.fs.length < X.x.depth) (hk : x < hF s) (hr3 : r3 s x <= 65536) (hfl : X.fs.length <= 1000) :
 Calls Tryz.prog 58 #[.pointer (some ⟨r,0,none⟩),.agg #[.int .i64 29,.int .i64 q,.int .i64 x,.int .i64 y,.int .i64 p]] w (fun e w' => ∃ vf v,OkP s κ w r (JZ s X x X.x.next vf v) e w') := by
 have H := jH h
 have hlt := h.lt
 obtain ⟨a,c,e,_⟩ := h.rows.frs.any
 obtain ⟨D,hD⟩ : ∃ D,X.x.depth = D := ⟨_,rfl⟩
 obtain ⟨N,hN⟩ : ∃ N,X.x.next = N := ⟨_,rfl⟩
 have c22 : w.cell? ⟨r,22,none⟩ = some (.slice a X.fs.length c) := by rw [<- e];exact ja h.run 22 rfl
 have c3 : w.cell? ⟨r,3,none⟩ = some (.int .i64 D) := by rw [<- hD];exact ja h.run 3 rfl
 have c5 : w.cell? ⟨r,5,none⟩ = some (.int .i64 N) := by rw [<- hN];exact ja h.run 5 rfl
 have CE : Hid (∀ W,RM s W r κ X -> Calls Tryz.prog 45 #[.pointer (some ⟨r,0,none⟩),.int .i64 x,.int .i64 N] W fun e w' => e = .returned (.tuple #[]) /\ Nw s κ W r (fun X' => ∃ vf v,X' = JZ s X x X.x.next vf v) w') := fun W hW => by rw [<- hN];exact jbQ hW hk hr3 hfl X.x.next
 rw [hD] at hd
 have g1 : decide ((D : Int) <= (X.fs.length : Int)) = false := by simp;omega
 clear h e hD hN
 go_enter Tryz.func58,Tryz.ntmps58
 go_wp2_with fail
 go_region
 rename_i K hK
 refine hK _ _ ?_
 go_wp2_with (first
  | (go_at_call 45;refine (CE.out _ (H.out.on (jB.alloc jN _).drew)).mono ?_;rintro _ w3 ⟨rfl,κ3,X3,⟨vf,v,hX3⟩,h3,f3⟩))
 go_returns
 exact ⟨vf,v,rfl,κ3,hX3 ▸ h3,Fr0.trans (Fr.of (jB.alloc jN _).drew) f3⟩
def fnv (X : St) (u : V) : Int := match u with
 | .b i => (match X.bs[i]? with
   | some b => b.fn
   | none => -1)
 | .n _ => -1
theorem jk4 (h : RM s w r κ X) (u : V) (hu : Rb X.bs u) :
 Calls Tryz.prog 89 #[.pointer (some ⟨r,23,none⟩),.agg #[.bool (vb u),.int .i64 (vi u)]] w fun e w' => e = .returned (.int .i64 (fnv X u)) /\ Below w.heap.size w w' := by
 cases u with
 | n z => exact fn_n h z
 | b i =>
   obtain ⟨b,hb⟩ : ∃ b,X.bs[i]? = some b := ⟨_,List.getElem?_eq_getElem (hu i rfl)⟩
   have : fnv X (.b i) = b.fn := by unfold fnv;simp only [hb]
   rw [this]
   exact fn_b h hb
theorem jbW {w W : World} {o : Obj} (h : w.alloc o = W) : Below w.heap.size w W /\ W.heap[w.heap.size]? = some o /\ Hid (∀ yy : Wd W.heap.size W,Below w.heap.size w yy.v) := by
 subst h
 have hW : Below w.heap.size w (w.alloc o) := jB.alloc jN _
 exact ⟨hW,jg w o,fun yy => hW.trans (yy.h.mono hW.size)⟩
theorem jbl {w W : World} {t : TypeId} {o : Int} {q x y p : Nat} (hb : Below w.heap.size w W) (hx : W.heap[w.heap.size]? = some (.cells #[.int .i64 o,.int .i64 q,.int .i64 x,.int .i64 y,.int .i64 p] t (0,0))) : Hid (∀ yy : Wd W.heap.size W,Below w.heap.size w yy.v) /\ Hid (W.heap[w.heap.size]? = some (.cells #[.int .i64 o,.int .i64 q,.int .i64 x,.int .i64 y,.int .i64 p] t (0,0))) /\ ∀ yy : Wd W.heap.size W,yy.v.cell? ⟨w.heap.size,2,none⟩ = some (.int .i64 x) :=
 ⟨fun yy => hb.trans (yy.h.mono hb.size),hx,fun yy => Wd.at hx (jb hx) 2 rfl yy⟩
theorem jaa {w W : World} {r i : Nat} {v : Value} (HY : Hid (∀ yy : Wd W.heap.size W,Below w.heap.size w yy.v)) (hlt : r < w.heap.size) (c : w.cell? ⟨r,i,none⟩ = some v) (yy : Wd W.heap.size W) : yy.v.cell? ⟨r,i,none⟩ = some v := ((HY.out yy).cell (p := ⟨r,i,none⟩) hlt).trans c
theorem jbL {W : World} {b : Nat} {t : TypeId} {o : Int} {q x y p : Nat} (h : W.heap[b]? = some (.cells #[.int .i64 o,.int .i64 q,.int .i64 x,.int .i64 y,.int .i64 p] t (0,0))) : W.cell? ⟨b,0,none⟩ = some (.int .i64 o) := ja h 0 rfl
theorem jbS (h : RM s w r κ X) {u : V} (hg : X.x.g 7 = u) : Hid (jC w 80 #[.pointer (some ⟨r,0,none⟩),.int .i64 7] (.agg #[.bool (vb u),.int .i64 (vi u)])) := fun W' hW => by have := jar (h.on hW) (n := 7) (by omega);rw [hg] at this;exact this
theorem jbT (h : RM s w r κ X) {u : V} (hu : Rb X.bs u) {Z : Int} (hZ : fnv X u = Z) : Hid (jC w 89 #[.pointer (some ⟨r,23,none⟩),.agg #[.bool (vb u),.int .i64 (vi u)]] (.int .i64 Z)) := fun W' hW => by rw [<- hZ];exact jk4 (h.on hW) u hu
theorem jcz (h : RM s w r κ X) {k : Nat} (hk : k < hF s) : ∃ (k0 k1 k2 : Value) (q0 q1 q2 q3 : Nat),w.cell? ⟨r,0,none⟩ = some k0 /\ w.cell? ⟨r,1,none⟩ = some k1 /\ w.cell? ⟨r,2,none⟩ = some k2 /\ Hid (jC w 66 #[.agg #[k0,k1,k2],.int .i64 k] (.agg #[.int .i64 q0,.int .i64 q1,.int .i64 q2,.int .i64 q3])) /\ ((k : Int) == -1) = false /\ r1 s k = q1 := by
 obtain ⟨k0,k1,k2,c0,c1,c2,hFn,_,_⟩ := jcB h
 exact ⟨k0,k1,k2,r0 s k,r1 s k,r2 s k,r3 s k,c0,c1,c2,fun W' hW => hFn k hk W' hW,by rw [beq_eq_false_iff_ne];omega,rfl⟩
set_option maxRecDepth 100000 in
theorem jlY (h : RM s w r κ X) {q x y p : Nat} {l : List FX} {f : FX} (hv : Lv X l f) (hd : X.fs.length <= X.x.depth) (hk : x < hF s) (hr3 : r3 s x <= 65536) :
 Calls Tryz.prog 58 #[.pointer (some ⟨r,0,none⟩),.agg #[.int .i64 31,.int .i64 q,.int .i64 x,.int .i64 y,.int .i64 p]] w fun e w' => ∃ vf2 vf v,OkP s κ w r (JZ s (jaI X l f vf2) x f.back vf v) e w' := by
 have H := jH h
 have HV := jH hv
 have HK := jH hk
 have HR3 := jH hr3
 have hlt := h.lt
 obtain ⟨D,hD⟩ : ∃ D,X.x.depth = D := ⟨_,rfl⟩
 obtain ⟨N,hN⟩ : ∃ N,X.x.next = N := ⟨_,rfl⟩
 have HD := jH hD
 have hlen : X.fs.length = l.length + 1 := by rw [hv.fs];simp
 rw [hD,hlen] at hd
 have g1 : decide ((D : Int) <= (l.length : Int)) = false := by simp;omega
 have hbl := hv.len
 have c5 : w.cell? ⟨r,5,none⟩ = some (.int .i64 N) := by rw [<- hN];exact ja h.run 5 rfl
 clear h hv hk hr3 hD hN hlen
 go_enter Tryz.func58,Tryz.ntmps58
 go_upto_region 9 with (first
  | (go_at_call 90;refine (jdj (H.out.on (jB.alloc jN _)) HV.out).mono ?_;rintro _ w2 ⟨rfl,κ2,X2,⟨vf2,hX2⟩,hm2,hf2⟩;have HM2 := jH hm2;have HF2 := jH (Fr0.trans (Fr.of (jB.alloc jN _)) hf2);have HX2 := jH hX2;clear hm2 hf2 hX2))
 have hm2 := HM2.out
 obtain ⟨a2,c2,e2,hcc⟩ := hm2.rows.frs.any
 have hln2 : X2.fs.length = l.length := by rw [HX2.out];rfl
 rw [hln2] at e2
 have d22 : w2.cell? ⟨r,22,none⟩ = some (.slice a2 l.length c2) := by rw [<- e2];exact ja hm2.run 22 rfl
 have d3 : w2.cell? ⟨r,3,none⟩ = some (.int .i64 D) := by rw [<- HD.out];have := ja hm2.run 3 rfl;rw [HX2.out] at this;exact this
 have hr2 := hm2.lt
 have CE : Hid (∀ W,RM s W r κ2 X2 -> Calls Tryz.prog 45 #[.pointer (some ⟨r,0,none⟩),.int .i64 x,.int .i64 f.back] W fun e w' => e = .returned (.tuple #[]) /\ Nw s κ2 W r (fun X' => ∃ vf v,X' = JZ s X2 x f.back vf v) w') := fun W hW => jbQ hW HK.out HR3.out (by rw [hln2];exact Nat.le_trans (Nat.le_of_eq rfl) HV.out.len) f.back
 clear hm2 e2 hln2 hcc
 go_wp2_with fail
 go_region
 rename_i K9 hK9
 refine hK9 _ _ ?_
 go_wp2_with (first
  | (go_at_call 45;refine (CE.out _ HM2.out.drew).mono ?_;rintro _ w3 ⟨rfl,κ3,X3,⟨vf,v,hX3⟩,h3,f3⟩))
 go_returns
 rw [HX2.out] at hX3
 exact ⟨vf2,vf,v,rfl,κ3,hX3 ▸ h3,Fr0.trans HF2.out (Fr0.trans (Fr.drew (Fr.refl _ _ _)) f3)⟩
set_option maxRecDepth 100000 in
theorem jfy (h : RM s w r κ X) {q x y p : Nat} {o : Int} (ho : o = 30 \/ o = 32) {u : V} (hg : X.x.g 7 = u) (hu : Rb X.bs u) (hfn : fnv X u = -1) :
 Calls Tryz.prog 58 #[.pointer (some ⟨r,0,none⟩),.agg #[.int .i64 o,.int .i64 q,.int .i64 x,.int .i64 y,.int .i64 p]] w (EnP κ w r X 50 0) := by
 rcases ho with rfl | rfl
 all_goals
  have H := jH h
  have hlt := h.lt
  have CR := jbS h hg
  have CF := jbT h hu hfn
  clear h hg hu hfn
  haveI := Wd.ne
  go_enter Tryz.func58,Tryz.ntmps58
  go_wp2_with fail
  generalize hW : World.alloc _ _ = W
  obtain ⟨hbW,hbx,HY⟩ := jbW hW
  clear hW
  refine jY (by kernel_rfl) (by kernel_rfl) ?_
  repeat (go_big_quiet_step ((first | (go_at_call 80;exact jI jN (CR.out _ (HY.out _))) | (go_at_call 89;exact jI jN (CF.out _ (HY.out _))))))
  refine wpQuiet_nil ?_
  intro y1
  have hb1 := HY.out y1
  have hx1 := jc hbx y1.h (jb hbx)
  clear HY
  generalize y1.v = W1 at hb1 hx1 ⊢
  clear hbx hbW
  obtain ⟨HY,HX1,f2⟩ := jbl hb1 hx1
  clear hx1
  go_wp2_with fail
  refine jY (by kernel_rfl) (by kernel_rfl) ?_
  repeat (go_big_quiet_step ((fail)))
  refine wpQuiet_nil ?_
  intro y2
  have hb2 := HY.out y2
  have hx2 := jc HX1.out y2.h (jb HX1.out)
  have l0 := jbL hx2
  go_wp2_with (first
   | (go_at_call 60;refine (JP (H.out.on hb2)).mono ?_;rintro _ w3 ⟨rfl,h3,f3⟩))
  go_returns
  exact ⟨rfl,κ,h3,Fr0.trans (Fr.of hb2) f3⟩
set_option maxRecDepth 100000 in
theorem jfx (h : RM s w r κ X) {q x y p : Nat} {o : Int} (ho : o = 30 \/ o = 32) {u : V} (hg : X.x.g 7 = u) (hu : Rb X.bs u) {k : Nat} (hfn : fnv X u = k) (hk : k < hF s) (hp : r1 s k ≠ x) :
 Calls Tryz.prog 58 #[.pointer (some ⟨r,0,none⟩),.agg #[.int .i64 o,.int .i64 q,.int .i64 x,.int .i64 y,.int .i64 p]] w (EnP κ w r X 50 0) := by
 rcases ho with rfl | rfl
 all_goals
  have H := jH h
  have hlt := h.lt
  have CR := jbS h hg
  have CF := jbT h hu hfn
  obtain ⟨k0,k1,k2,q0,q1,q2,q3,c0,c1,c2,CU,gz,hq1⟩ := jcz h hk
  have hfl1 := jcv (q0 : Nat) (q1 : Nat) (q2 : Nat) (q3 : Nat)
  rw [hq1] at hp
  have gp : ((q1 : Int) == (x : Int)) = false := by simp;omega
  have gp' : ((q1 : Int) != (x : Int)) = true := by simp;omega
  clear h hg hu hfn hk hq1 hp
  haveI := Wd.ne
  go_enter Tryz.func58,Tryz.ntmps58
  go_wp2_with fail
  generalize hW : World.alloc _ _ = W
  obtain ⟨hbW,hbx,HY⟩ := jbW hW
  clear hW
  refine jY (by kernel_rfl) (by kernel_rfl) ?_
  repeat (go_big_quiet_step ((first | (go_at_call 80;exact jI jN (CR.out _ (HY.out _))) | (go_at_call 89;exact jI jN (CF.out _ (HY.out _))))))
  refine wpQuiet_nil ?_
  intro y1
  have hb1 := HY.out y1
  have hx1 := jc hbx y1.h (jb hbx)
  clear HY
  generalize y1.v = W1 at hb1 hx1 ⊢
  clear hbx hbW
  obtain ⟨HY,HX1,f2⟩ := jbl hb1 hx1
  have d0 := jaa HY hlt c0
  have d1 := jaa HY hlt c1
  have d2 := jaa HY hlt c2
  clear c0 c1 c2
  clear hx1
  go_wp2_with fail
  refine jY (by kernel_rfl) (by kernel_rfl) ?_
  repeat (go_big_quiet_step ((go_at_call 66;exact jI jN (CU.out _ (HY.out _)))))
  refine wpQuiet_nil ?_
  intro y2
  have hb2 := HY.out y2
  have hx2 := jc HX1.out y2.h (jb HX1.out)
  have l0 := jbL hx2
  go_wp2_with (first
   | (go_at_call 60;refine (JP (H.out.on hb2)).mono ?_;rintro _ w3 ⟨rfl,h3,f3⟩))
  go_returns
  exact ⟨rfl,κ,h3,Fr0.trans (Fr.of hb2) f3⟩
set_option maxRecDepth 100000 in
theorem jlL (h : RM s w r κ X) {q x y p : Nat} {u : V} (hg : X.x.g 7 = u) (hu : Rb X.bs u) {k : Nat} (hfn : fnv X u = k) (hk : k < hF s) (hp : r1 s k = x) (hd : X.x.depth <= X.fs.length) :
 Calls Tryz.prog 58 #[.pointer (some ⟨r,0,none⟩),.agg #[.int .i64 30,.int .i64 q,.int .i64 x,.int .i64 y,.int .i64 p]] w (EnP κ w r X 41 0) := by
 have H := jH h
 have hlt := h.lt
 have CR := jbS h hg
 have CF := jbT h hu hfn
 obtain ⟨k0,k1,k2,q0,q1,q2,q3,c0,c1,c2,CU,gz,hq1⟩ := jcz h hk
 have hfl1 := jcv (q0 : Nat) (q1 : Nat) (q2 : Nat) (q3 : Nat)
 rw [hq1] at hp
 have gp : ((q1 : Int) == (x : Int)) = true := by simp;omega
 have gp' : ((q1 : Int) != (x : Int)) = false := by simp;omega
 obtain ⟨a,c,e,_⟩ := h.rows.frs.any
 obtain ⟨D,hD⟩ : ∃ D,X.x.depth = D := ⟨_,rfl⟩
 obtain ⟨N,hN⟩ : ∃ N,X.x.next = N := ⟨_,rfl⟩
 have c22 : w.cell? ⟨r,22,none⟩ = some (.slice a X.fs.length c) := by rw [<- e];exact ja h.run 22 rfl
 have c3 : w.cell? ⟨r,3,none⟩ = some (.int .i64 D) := by rw [<- hD];exact ja h.run 3 rfl
 have c5 : w.cell? ⟨r,5,none⟩ = some (.int .i64 N) := by rw [<- hN];exact ja h.run 5 rfl
 rw [hD] at hd
 have g1 : decide ((D : Int) <= (X.fs.length : Int)) = true := by simp;omega
 clear h hg hu hfn hk hq1 hp e hD hN
 haveI := Wd.ne
 go_enter Tryz.func58,Tryz.ntmps58
 go_wp2_with fail
 generalize hW : World.alloc _ _ = W
 obtain ⟨hbW,hbx,HY⟩ := jbW hW
 clear hW
 refine jY (by kernel_rfl) (by kernel_rfl) ?_
 repeat (go_big_quiet_step ((first | (go_at_call 80;exact jI jN (CR.out _ (HY.out _))) | (go_at_call 89;exact jI jN (CF.out _ (HY.out _))))))
 refine wpQuiet_nil ?_
 intro y1
 have hb1 := HY.out y1
 have hx1 := jc hbx y1.h (jb hbx)
 clear HY
 generalize y1.v = W1 at hb1 hx1 ⊢
 clear hbx hbW
 obtain ⟨HY,HX1,f2⟩ := jbl hb1 hx1
 have d0 := jaa HY hlt c0
 have d1 := jaa HY hlt c1
 have d2 := jaa HY hlt c2
 clear c0 c1 c2
 clear hx1
 go_wp2_with fail
 refine jY (by kernel_rfl) (by kernel_rfl) ?_
 repeat (go_big_quiet_step ((go_at_call 66;exact jI jN (CU.out _ (HY.out _)))))
 refine wpQuiet_nil ?_
 intro y2
 have hb2 := HY.out y2
 have hx2 := jc HX1.out y2.h (jb HX1.out)
 have l0 := jbL hx2
 have d22 : y2.v.cell? ⟨r,22,none⟩ = some (.slice a X.fs.length c) := (hb2.cell (p := ⟨r,22,none⟩) hlt).trans c22
 have d3 : y2.v.cell? ⟨r,3,none⟩ = some (.int .i64 D) := (hb2.cell (p := ⟨r,3,none⟩) hlt).trans c3
 have d5 : y2.v.cell? ⟨r,5,none⟩ = some (.int .i64 N) := (hb2.cell (p := ⟨r,5,none⟩) hlt).trans c5
 go_wp2_with fail
 go_region
 rename_i K9 hK9
 refine hK9 _ _ ?_
 go_wp2_with (first
  | (go_at_call 81;refine (end_any (H.out.on hb2.drew) 41 0).mono ?_;rintro _ w3 ⟨rfl,h3,f3⟩))
 go_returns
 exact ⟨rfl,κ,h3,Fr0.trans (Fr.of hb2.drew) f3⟩
set_option maxRecDepth 100000 in
theorem jlK (h : RM s w r κ X) {q x y p : Nat} {u : V} (hg : X.x.g 7 = u) (hu : Rb X.bs u) {k : Nat} (hfn : fnv X u = k) (hk : k < hF s) (hp : r1 s k = x) (hd : X.fs.length < X.x.depth) (hr3 : r3 s k <= 65536) (hfl : X.fs.length <= 1000) :
 Calls Tryz.prog 58 #[.pointer (some ⟨r,0,none⟩),.agg #[.int .i64 30,.int .i64 q,.int .i64 x,.int .i64 y,.int .i64 p]] w (fun e w' => ∃ vf v,OkP s κ w r (JZ s X k X.x.next vf v) e w') := by
 have H := jH h
 have hlt := h.lt
 have CR := jbS h hg
 have CF := jbT h hu hfn
 obtain ⟨k0,k1,k2,q0,q1,q2,q3,c0,c1,c2,CU,gz,hq1⟩ := jcz h hk
 have hfl1 := jcv (q0 : Nat) (q1 : Nat) (q2 : Nat) (q3 : Nat)
 rw [hq1] at hp
 have gp : ((q1 : Int) == (x : Int)) = true := by simp;omega
 have gp' : ((q1 : Int) != (x : Int)) = false := by simp;omega
 obtain ⟨a,c,e,_⟩ := h.rows.frs.any
 obtain ⟨D,hD⟩ : ∃ D,X.x.depth = D := ⟨_,rfl⟩
 obtain ⟨N,hN⟩ : ∃ N,X.x.next = N := ⟨_,rfl⟩
 have c22 : w.cell? ⟨r,22,none⟩ = some (.slice a X.fs.length c) := by rw [<- e];exact ja h.run 22 rfl
 have c3 : w.cell? ⟨r,3,none⟩ = some (.int .i64 D) := by rw [<- hD];exact ja h.run 3 rfl
 have c5 : w.cell? ⟨r,5,none⟩ = some (.int .i64 N) := by rw [<- hN];exact ja h.run 5 rfl
 rw [hD] at hd
 have g1 : decide ((D : Int) <= (X.fs.length : Int)) = false := by simp;omega
 have CE : Hid (∀ W,RM s W r κ X -> Calls Tryz.prog 45 #[.pointer (some ⟨r,0,none⟩),.int .i64 k,.int .i64 N] W fun e w' => e = .returned (.tuple #[]) /\ Nw s κ W r (fun X' => ∃ vf v,X' = JZ s X k X.x.next vf v) w') := fun W hW => by rw [<- hN];exact jbQ hW hk hr3 hfl X.x.next
 clear h hg hu hfn hk hq1 hp e hD hN
 haveI := Wd.ne
 go_enter Tryz.func58,Tryz.ntmps58
 go_wp2_with fail
 generalize hW : World.alloc _ _ = W
 obtain ⟨hbW,hbx,HY⟩ := jbW hW
 clear hW
 refine jY (by kernel_rfl) (by kernel_rfl) ?_
 repeat (go_big_quiet_step ((first | (go_at_call 80;exact jI jN (CR.out _ (HY.out _))) | (go_at_call 89;exact jI jN (CF.out _ (HY.out _))))))
 refine wpQuiet_nil ?_
 intro y1
 have hb1 := HY.out y1
 have hx1 := jc hbx y1.h (jb hbx)
 clear HY
 generalize y1.v = W1 at hb1 hx1 ⊢
 clear hbx hbW
 obtain ⟨HY,HX1,f2⟩ := jbl hb1 hx1
 have d0 := jaa HY hlt c0
 have d1 := jaa HY hlt c1
 have d2 := jaa HY hlt c2
 clear c0 c1 c2
 clear hx1
 go_wp2_with fail
 refine jY (by kernel_rfl) (by kernel_rfl) ?_
 repeat (go_big_quiet_step ((go_at_call 66;exact jI jN (CU.out _ (HY.out _)))))
 refine wpQuiet_nil ?_
 intro y2
 have hb2 := HY.out y2
 have hx2 := jc HX1.out y2.h (jb HX1.out)
 have l0 := jbL hx2
 have d22 : y2.v.cell? ⟨r,22,none⟩ = some (.slice a X.fs.length c) := (hb2.cell (p := ⟨r,22,none⟩) hlt).trans c22
 have d3 : y2.v.cell? ⟨r,3,none⟩ = some (.int .i64 D) := (hb2.cell (p := ⟨r,3,none⟩) hlt).trans c3
 have d5 : y2.v.cell? ⟨r,5,none⟩ = some (.int .i64 N) := (hb2.cell (p := ⟨r,5,none⟩) hlt).trans c5
 go_wp2_with fail
 go_region
 rename_i K9 hK9
 refine hK9 _ _ ?_
 go_wp2_with (first
  | (go_at_call 45;refine (CE.out _ (H.out.on hb2.drew)).mono ?_;rintro _ w3 ⟨rfl,κ3,X3,⟨vf,v,hX3⟩,h3,f3⟩))
 go_returns
 exact ⟨vf,v,rfl,κ3,hX3 ▸ h3,Fr0.trans (Fr.of hb2.drew) f3⟩
set_option maxRecDepth 100000 in
theorem jlJ (h : RM s w r κ X) {q x y p : Nat} {u : V} (hg : X.x.g 7 = u) (hu : Rb X.bs u) {k : Nat} (hfn : fnv X u = k) (hk : k < hF s) (hp : r1 s k = x) {l : List FX} {f : FX} (hv : Lv X l f) (hd : X.fs.length <= X.x.depth) (hr3 : r3 s k <= 65536) :
 Calls Tryz.prog 58 #[.pointer (some ⟨r,0,none⟩),.agg #[.int .i64 32,.int .i64 q,.int .i64 x,.int .i64 y,.int .i64 p]] w (fun e w' => ∃ vf2 vf v,OkP s κ w r (JZ s (jaI X l f vf2) k f.back vf v) e w') := by
 have H := jH h
 have HV := jH hv
 have HK := jH hk
 have HR3 := jH hr3
 have hlt := h.lt
 obtain ⟨D,hD⟩ : ∃ D,X.x.depth = D := ⟨_,rfl⟩
 obtain ⟨N,hN⟩ : ∃ N,X.x.next = N := ⟨_,rfl⟩
 have HD := jH hD
 have hlen : X.fs.length = l.length + 1 := by rw [hv.fs];simp
 rw [hD,hlen] at hd
 have g1 : decide ((D : Int) <= (l.length : Int)) = false := by simp;omega
 have hbl := hv.len
 have c5 : w.cell? ⟨r,5,none⟩ = some (.int .i64 N) := by rw [<- hN];exact ja h.run 5 rfl
 have CR := jbS h hg
 have CF := jbT h hu hfn
 obtain ⟨k0,k1,k2,q0,q1,q2,q3,c0,c1,c2,CU,gz,hq1⟩ := jcz h hk
 have hfl1 := jcv (q0 : Nat) (q1 : Nat) (q2 : Nat) (q3 : Nat)
 rw [hq1] at hp
 have gp : ((q1 : Int) == (x : Int)) = true := by simp;omega
 have gp' : ((q1 : Int) != (x : Int)) = false := by simp;omega
 clear h hg hu hfn hk hq1 hp hv hr3 hD hN hlen
 haveI := Wd.ne
 go_enter Tryz.func58,Tryz.ntmps58
 go_wp2_with fail
 generalize hW : World.alloc _ _ = W
 obtain ⟨hbW,hbx,HY⟩ := jbW hW
 clear hW
 refine jY (by kernel_rfl) (by kernel_rfl) ?_
 repeat (go_big_quiet_step ((first | (go_at_call 80;exact jI jN (CR.out _ (HY.out _))) | (go_at_call 89;exact jI jN (CF.out _ (HY.out _))))))
 refine wpQuiet_nil ?_
 intro y1
 have hb1 := HY.out y1
 have hx1 := jc hbx y1.h (jb hbx)
 clear HY
 generalize y1.v = W1 at hb1 hx1 ⊢
 clear hbx hbW
 obtain ⟨HY,HX1,f2⟩ := jbl hb1 hx1
 have d0 := jaa HY hlt c0
 have d1 := jaa HY hlt c1
 have d2 := jaa HY hlt c2
 clear c0 c1 c2
 clear hx1
 go_wp2_with fail
 refine jY (by kernel_rfl) (by kernel_rfl) ?_
 repeat (go_big_quiet_step ((go_at_call 66;exact jI jN (CU.out _ (HY.out _)))))
 refine wpQuiet_nil ?_
 intro y2
 have hb2 := HY.out y2
 have hx2 := jc HX1.out y2.h (jb HX1.out)
 have l0 := jbL hx2
 have d5 : y2.v.cell? ⟨r,5,none⟩ = some (.int .i64 N) := (hb2.cell (p := ⟨r,5,none⟩) hlt).trans c5
 go_upto_region 9 with (first
  | (go_at_call 90;refine (jdj (H.out.on (hb2)) HV.out).mono ?_;rintro _ w2 ⟨rfl,κ2,X2,⟨vf2,hX2⟩,hm2,hf2⟩;have HM2 := jH hm2;have HF2 := jH (Fr0.trans (Fr.of (hb2)) hf2);have HX2 := jH hX2;clear hm2 hf2 hX2))
 have hm2 := HM2.out
 obtain ⟨a2,c2,e2,hcc⟩ := hm2.rows.frs.any
 have hln2 : X2.fs.length = l.length := by rw [HX2.out];rfl
 rw [hln2] at e2
 have d22 : w2.cell? ⟨r,22,none⟩ = some (.slice a2 l.length c2) := by rw [<- e2];exact ja hm2.run 22 rfl
 have d3 : w2.cell? ⟨r,3,none⟩ = some (.int .i64 D) := by rw [<- HD.out];have := ja hm2.run 3 rfl;rw [HX2.out] at this;exact this
 have hr2 := hm2.lt
 have CE : Hid (∀ W,RM s W r κ2 X2 -> Calls Tryz.prog 45 #[.pointer (some ⟨r,0,none⟩),.int .i64 k,.int .i64 f.back] W fun e w' => e = .returned (.tuple #[]) /\ Nw s κ2 W r (fun X' => ∃ vf v,X' = JZ s X2 k f.back vf v) w') := fun W hW => jbQ hW HK.out HR3.out (by rw [hln2];exact Nat.le_trans (Nat.le_of_eq rfl) HV.out.len) f.back
 clear hm2 e2 hln2 hcc
 go_wp2_with fail
 go_region
 rename_i K9 hK9
 refine hK9 _ _ ?_
 go_wp2_with (first
  | (go_at_call 45;refine (CE.out _ HM2.out.drew).mono ?_;rintro _ w3 ⟨rfl,κ3,X3,⟨vf,v,hX3⟩,h3,f3⟩))
 go_returns
 rw [HX2.out] at hX3
 exact ⟨vf2,vf,v,rfl,κ3,hX3 ▸ h3,Fr0.trans HF2.out (Fr0.trans (Fr.drew (Fr.refl _ _ _)) f3)⟩
end Ko
end Go.Proofs.YtjmgolahkgalbaaGreatDoor
