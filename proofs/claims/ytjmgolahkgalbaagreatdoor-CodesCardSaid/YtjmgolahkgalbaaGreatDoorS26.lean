import Derived.Test.YtjmgolahkgalbaaGreatDoorS25
set_option linter.unusedVariables false
set_option linter.unusedSimpArgs false
set_option maxHeartbeats 20000000
namespace Go.Proofs.YtjmgolahkgalbaaGreatDoor
namespace Ko
open Go.RowKit Li
variable {s : ByteArray} {w : World} {r : Nat}
def OkP (s : ByteArray) (κ : Kp) (w : World) (r : Nat) (X' : St) (e : Ending) (w' : World) : Prop := e = .returned (.tuple #[]) /\ ∃ κ',RM s w' r κ' X' /\ Fr0 κ κ' w w'
def EnP (κ : Kp) (w : World) (r : Nat) (X : St) (er p : Nat) (e : Ending) (w' : World) : Prop := e = .returned (.tuple #[]) /\ ∃ κ',RE w' r κ' X er p /\ Fr0 κ κ' w w'
variable {κ : Kp} {X : St}
theorem RE.low {e p : Nat} (h : RE w r κ X e p) : r < w.heap.size := by obtain ⟨x,hx,_⟩ := h.run;exact jb hx
def nxt (X : St) (n : Nat) : St := { X with x := { X.x with next := n } }
theorem RM.nxt (h : RM s w r κ X) (n : Nat) : RM s (w.setCell ⟨r,5,none⟩ (.int .i64 n)) r κ (nxt X n) /\ Fr0 κ κ w (w.setCell ⟨r,5,none⟩ (.int .i64 n)) :=
 ⟨h.upd (jf h.run 5 _) ((Lone.refl _ _).set 5 _) rfl,h.low ((Lone.refl _ _).set 5 _)⟩
theorem b2 {w w1 : World} {o1 o2 : Obj} (hb : Below (w.alloc o1).heap.size (w.alloc o1) w1) : Below w.heap.size w (w1.alloc o2) := (jp hb).alloc (jp hb).size o2
theorem jjx (h : RM s w r κ X) {q x y p : Nat} :
 Calls Tryz.prog 53 #[.pointer (some ⟨r,0,none⟩),.agg #[.int .i64 17,.int .i64 q,.int .i64 x,.int .i64 y,.int .i64 p]] w (OkP s κ w r (nxt X x)) := by
 have H := jH h
 have hlt := h.lt
 have c5 : w.cell? ⟨r,5,none⟩ = some (.int .i64 X.x.next) := ja h.run 5 rfl
 have z5 := je h.run 5
 clear h
 go_enter Tryz.func53,Tryz.ntmps53
 go_wp2
 go_returns
 obtain ⟨h1,h2⟩ := H.out.nxt x
 exact ⟨rfl,κ,h1.on (jB.alloc jN _),Fr.al h2 _⟩
theorem jjD (h : RM s w r κ X) {q x y p i : Nat} (hq : q < 8) (hg : X.x.g q = .b i) :
 Calls Tryz.prog 53 #[.pointer (some ⟨r,0,none⟩),.agg #[.int .i64 18,.int .i64 q,.int .i64 x,.int .i64 y,.int .i64 p]] w (EnP κ w r X 50 0) := by
 have H := jH h
 have CR := jc4 h hq hg
 clear h hg
 go_enter Tryz.func53,Tryz.ntmps53
 go_wp2_with (first
  | (go_at_call 80;refine (CR.out _ (jB.alloc jN _)).mono ?_;rintro _ w1 ⟨rfl,hb1⟩)
  | (go_at_call 60;refine (JP (H.out.on (b2 hb1))).mono ?_;rintro _ w2 ⟨rfl,h2,f2⟩))
 go_returns
 exact ⟨rfl,κ,h2,Fr0.trans (Fr.of (b2 hb1)) f2⟩
theorem jjw (h : RM s w r κ X) {q x y p : Nat} {z : Int} (hq : q < 8) (hg : X.x.g q = .n z) :
 Calls Tryz.prog 53 #[.pointer (some ⟨r,0,none⟩),.agg #[.int .i64 18,.int .i64 q,.int .i64 x,.int .i64 y,.int .i64 p]] w (OkP s κ w r (if z = 0 then nxt X x else X)) := by
 have H := jH h
 have CR := jbz h hq hg
 have hlt := h.lt
 clear h hg
 by_cases hz : z = 0
 ·rw [if_pos hz]
  subst hz
  go_enter Tryz.func53,Tryz.ntmps53
  go_wp2_with (first
   | (go_at_call 80;refine (CR.out _ (jB.alloc jN _)).mono ?_;rintro _ w1 ⟨rfl,hb1⟩;have HB1 := jH hb1;have hm1 := H.out.on (jp hb1);have c5 : w1.cell? ⟨r,5,none⟩ = some (.int .i64 X.x.next) := ja hm1.run 5 rfl;have z5 := je hm1.run 5;have e2 : w1.cell? ⟨w.heap.size,2,none⟩ = some (.int .i64 x) := ja (boxed hb1) 2 rfl;have hr1 := hm1.lt;have hw1 := jb (boxed hb1);clear hm1 hb1))
  go_returns
  obtain ⟨h1,h2⟩ := (H.out.on (jp HB1.out)).nxt x
  exact ⟨rfl,κ,h1.on (jB.alloc jN _),Fr.al (Fr0.trans (Fr.of (jp HB1.out)) h2) _⟩
 ·rw [if_neg hz]
  have hz' : (z == 0) = false := by simpa using hz
  go_enter Tryz.func53,Tryz.ntmps53
  go_wp2_with (first
   | (go_at_call 80;refine (CR.out _ (jB.alloc jN _)).mono ?_;rintro _ w1 ⟨rfl,hb1⟩))
  go_returns
  exact ⟨rfl,κ,H.out.on (b2 hb1),Fr.of (b2 hb1)⟩
theorem jhZ (h : RM s w r κ X) {q x y p i : Nat} (hq : q < 8) (hg : X.x.g q = .b i) :
 Calls Tryz.prog 56 #[.pointer (some ⟨r,0,none⟩),.agg #[.int .i64 27,.int .i64 q,.int .i64 x,.int .i64 y,.int .i64 p]] w (EnP κ w r X 50 0) := by
 have H := jH h
 have CR := jc4 h hq hg
 clear h hg
 go_enter Tryz.func56,Tryz.ntmps56
 go_wp2_with (first
  | (go_at_call 80;refine (CR.out _ (jB.alloc jN _)).mono ?_;rintro _ w1 ⟨rfl,hb1⟩)
  | (go_at_call 60;refine (JP (H.out.on (b2 hb1))).mono ?_;rintro _ w2 ⟨rfl,h2,f2⟩))
 go_returns
 exact ⟨rfl,κ,h2,Fr0.trans (Fr.of (b2 hb1)) f2⟩
theorem jhY (h : RM s w r κ X) {q x y p : Nat} {z : Int} (hq : q < 8) (hg : X.x.g q = .n z) (hl : 16 <= X.out.length) :
 Calls Tryz.prog 56 #[.pointer (some ⟨r,0,none⟩),.agg #[.int .i64 27,.int .i64 q,.int .i64 x,.int .i64 y,.int .i64 p]] w (EnP κ w r X 34 p) := by
 have H := jH h
 have CR := jbz h hq hg
 obtain ⟨a,c,e,_⟩ := h.rows.out.any
 have HE := jH e
 have g1 : decide ((16 : Int) <= (X.out.length : Int)) = true := by simp;omega
 clear h hg e
 go_enter Tryz.func56,Tryz.ntmps56
 go_wp2_with (first
  | (go_at_call 80;refine (CR.out _ (jB.alloc jN _)).mono ?_;rintro _ w1 ⟨rfl,hb1⟩;have hm1 := H.out.on (jp hb1);have c32 : w1.cell? ⟨r,32,none⟩ = some (.slice a X.out.length c) := (by rw [<- HE.out];exact ja hm1.run 32 rfl);have hr1 := hm1.lt;have e4 : w1.cell? ⟨w.heap.size,4,none⟩ = some (.int .i64 p) := ja (boxed hb1) 4 rfl;have hw1 := jb (boxed hb1);clear hm1)
  | (go_at_call 81;refine (end_any (H.out.on (b2 hb1)) 34 p).mono ?_;rintro _ w2 ⟨rfl,h2,f2⟩))
 go_returns
 exact ⟨rfl,κ,h2,Fr0.trans (Fr.of (b2 hb1)) f2⟩
def outS (X : St) (z : Int) (v : Value) : St := { X with x := { X.x with vout := v },out := X.out ++ [z] }
set_option maxRecDepth 100000 in
theorem jhX (h : RM s w r κ X) {q x y p : Nat} {z : Int} (hq : q < 8) (hg : X.x.g q = .n z) (hl : X.out.length < 16) :
 Calls Tryz.prog 56 #[.pointer (some ⟨r,0,none⟩),.agg #[.int .i64 27,.int .i64 q,.int .i64 x,.int .i64 y,.int .i64 p]] w fun e w' => ∃ v,OkP s κ w r (outS X z v) e w' := by
 have H := jH h
 have CR := jbz h hq hg
 obtain ⟨a,c,e,_⟩ := h.rows.out.any
 have HE := jH e
 obtain ⟨i0,hi0,hz0,hz1,hz2⟩ := info_parts Tryz.kiI
 have g1 : decide ((16 : Int) <= (X.out.length : Int)) = false := by simp;omega
 clear h hg e
 go_enter Tryz.func56,Tryz.ntmps56
 go_wp2_with (first
  | (go_at_call 80;refine (CR.out _ (jB.alloc jN _)).mono ?_;rintro _ w1 ⟨rfl,hb1⟩;have hm1 := H.out.on (jp hb1);have c32 : w1.cell? ⟨r,32,none⟩ = some (.slice a X.out.length c) := (by rw [<- HE.out];exact ja hm1.run 32 rfl);have hr1 := hm1.lt;clear hm1))
 have hbW := b2 (o2 := .cells #[.bool false,.int .i64 z] 78 (0,0)) hb1
 have hbx := jg w1 (.cells #[.bool false,.int .i64 z] 78 (0,0))
 generalize w1.alloc (.cells #[.bool false,.int .i64 z] 78 (0,0)) = W at hbW hbx ⊢
 have hmW := H.out.on hbW
 have c32' : W.cell? ⟨r,32,none⟩ = some X.x.vout := ja hmW.run 32 rfl
 have x1 : W.cell? ⟨w1.heap.size,1,none⟩ = some (.int .i64 z) := ja hbx 1 rfl
 have HRM := jH hmW
 have hrW := hmW.lt
 have hxW := jb hbx
 have HBW := jH hbW
 clear hmW hbW hbx c32
 go_region_law ((refine step_append_lies _ (by rfl) (.tmp 27) (.tmp 30) 22 (by rfl) 0 3 i0 _ 1 8 Tryz.kuI hi0 hz0 hz1 hz2 rfl (by decide) X.x.vout X.out.length (iV X.out) (by rfl) (HRM.out.rows.out.own.alloc _) ⟨W.heap.size,0,none⟩ 1 1 [.int .i64 z] (by rfl) (by rfl) (Ja _ _ _ _ (by simp)) (by intro u hu;simp at hu;subst hu;rfl) (by decide) (by unfold maxLen;omega) (by omega) (by simp) _ rfl ?_;intro g c w4 hown4 hgrow hat hlt4;have hb4 : Below W.heap.size W (W.alloc (.cells #[.int .i64 z] 3)).drew := (jB.alloc jN _).drew;have hr4 := HRM.out.run_grown hb4 hgrow HRM.out.rows.out.tag (by decide);have q22 : w4.cell? ⟨r,32,none⟩ = some X.x.vout := ja hr4 32 rfl;have y22 := je hr4 32;obtain ⟨κ4,hm4,hf4⟩ := HRM.out.growO hb4 hown4 hgrow (hat.imp (fun h => h.symm) (fun h => by rw [h];rfl));have HM4 := jH hm4;have HF4 := jH hf4;clear hm4 hf4 hr4 hown4 hgrow hat))
 all_goals
  first | go_returns | (rename_i Q' K hK;refine hK _ _ ?_;go_wp2;go_returns)
  exact ⟨.slice (some ⟨g,0,none⟩) (X.out.length + 1) c,rfl,κ4,HM4.out,Fr0.trans (Fr.of HBW.out) HF4.out.all⟩
theorem jjU (h : RM s w r κ X) {q x y p : Nat} (hl : X.ins.length <= X.x.read) :
 Calls Tryz.prog 57 #[.pointer (some ⟨r,0,none⟩),.agg #[.int .i64 28,.int .i64 q,.int .i64 x,.int .i64 y,.int .i64 p]] w (EnP κ w r X 33 p) := by
 have H := jH h
 obtain ⟨a,c,e,_⟩ := h.rows.ins.any
 obtain ⟨rd,hrd⟩ : ∃ rd,X.x.read = rd := ⟨_,rfl⟩
 have c4 : w.cell? ⟨r,4,none⟩ = some (.slice a X.ins.length c) := by rw [<- e];exact ja h.run 4 rfl
 have c34 : w.cell? ⟨r,34,none⟩ = some (.int .i64 rd) := by rw [<- hrd];exact ja h.run 34 rfl
 rw [hrd] at hl
 have g1 : decide ((X.ins.length : Int) <= (rd : Int)) = true := by simp;omega
 have hlt := h.lt
 clear h e hrd
 go_enter Tryz.func57,Tryz.ntmps57
 go_wp2_with fail
 go_region
 rename_i Q' K1 hK1 K hK
 refine hK _ _ ?_
 go_wp2_with (first
  | (go_at_call 81;refine (end_any (H.out.on (jB.alloc jN _).drew) 33 p).mono ?_;rintro _ w2 ⟨rfl,h2,f2⟩))
 go_returns
 exact ⟨rfl,κ,h2,Fr0.trans (Fr.of (jB.alloc jN _).drew) f2⟩
def inS (X : St) (q : Nat) (z : Int) : St := { X with x := { X.x with g := upd X.x.g q (.n (w63 z)),read := X.x.read + 1 } }
theorem jfQ {z : Int} (h : -9223372036854775808 <= z /\ z <= 9223372036854775807) : wrap64 (z * 2) / 2 = w63 z := by unfold wrap64 w63;omega
set_option maxRecDepth 100000 in
theorem jjE (h : RM s w r κ X) {q x y p : Nat} {z : Int} (hq : q < 8) (hl : X.ins[X.x.read]? = some z) (hz : -9223372036854775808 <= z /\ z <= 9223372036854775807) (hrb : X.x.read <= 1000000) :
 Calls Tryz.prog 57 #[.pointer (some ⟨r,0,none⟩),.agg #[.int .i64 28,.int .i64 q,.int .i64 x,.int .i64 y,.int .i64 p]] w (OkP s κ w r (inS X q z)) := by
 have H := jH h
 have hrl : X.x.read < X.ins.length := (jG hl).1
 obtain ⟨g,c,e,hc,_,hgl⟩ := h.rows.ins.at (by omega)
 obtain ⟨rd,hrd⟩ : ∃ rd,X.x.read = rd := ⟨_,rfl⟩
 have HRD := jH hrd
 have c4 : w.cell? ⟨r,4,none⟩ = some (.slice (some ⟨g,0,none⟩) X.ins.length c) := by rw [<- e];exact ja h.run 4 rfl
 have c34 : w.cell? ⟨r,34,none⟩ = some (.int .i64 rd) := by rw [<- hrd];exact ja h.run 34 rfl
 have hT := h.rows.ins
 rw [e] at hT
 have dz : w.cell? ⟨g,rd,none⟩ = some (.int .i64 z) := by rw [<- hrd];exact hT.cell (by unfold iV;rw [List.getElem?_map,hl];rfl)
 rw [hrd] at hrl hrb
 have g1 : decide ((X.ins.length : Int) <= (rd : Int)) = false := by simp;omega
 have g2 : (rd : Int) < (X.ins.length : Int) := by omega
 have hlt := h.lt
 have HZ := jH (jfQ hz)
 have hz1 := hz.1
 have hz2 := hz.2
 have CW : Hid (jE 65 #[.int .i64 z] (.int .i64 (w63 z))) := fun W => by have := jbm (w := W) hz.1 hz.2;rw [HZ.out] at this;exact this
 clear h e hrd hT hl hz
 go_enter Tryz.func57,Tryz.ntmps57
 go_wp2_with fail
 go_region
 rename_i Q' K1 hK1 K hK
 refine hK _ _ ?_
 go_wp2_with fail
 have hbW : Below w.heap.size w (w.alloc (.cells #[.int .i64 28,.int .i64 q,.int .i64 x,.int .i64 y,.int .i64 p] 116 (0,0))).drew := (jB.alloc jN _).drew
 have hbx : (w.alloc (.cells #[.int .i64 28,.int .i64 q,.int .i64 x,.int .i64 y,.int .i64 p] 116 (0,0))).drew.heap[w.heap.size]? = some (.cells #[.int .i64 28,.int .i64 q,.int .i64 x,.int .i64 y,.int .i64 p] 116 (0,0)) := jg w _
 generalize (w.alloc (.cells #[.int .i64 28,.int .i64 q,.int .i64 x,.int .i64 y,.int .i64 p] 116 (0,0))).drew = W at hbW hbx ⊢
 have HY : Hid (∀ y : Wd W.heap.size W,Below w.heap.size w y.v) := fun y => hbW.trans (y.h.mono hbW.size)
 have v1 : ∀ y : Wd W.heap.size W,y.v.cell? ⟨w.heap.size,1,none⟩ = some (.int .i64 q) := fun y => Wd.at hbx (jb hbx) 1 rfl y
 have v2 : ∀ y : Wd W.heap.size W,y.v.cell? ⟨r,4,none⟩ = some (.slice (some ⟨g,0,none⟩) X.ins.length c) := fun y => ((HY.out y).cell (p := ⟨r,4,none⟩) hlt).trans c4
 have v3 : ∀ y : Wd W.heap.size W,y.v.cell? ⟨r,34,none⟩ = some (.int .i64 rd) := fun y => ((HY.out y).cell (p := ⟨r,34,none⟩) hlt).trans c34
 have v4 : ∀ y : Wd W.heap.size W,y.v.cell? ⟨g,rd,none⟩ = some (.int .i64 z) := fun y => ((HY.out y).cell (p := ⟨g,rd,none⟩) hgl).trans dz
 have CN : Hid (jD 82 #[.int .i64 (w63 z)] (.agg #[.bool false,.int .i64 (w63 z)])) := fun W' => jbD _ _
 have CW2 : Hid (jD 65 #[.int .i64 z] (.int .i64 (w63 z))) := fun W' => (CW.out W').mono fun e w' ⟨h1,h2⟩ => ⟨h1,h2 ▸ jB⟩
 haveI := Wd.ne
 clear hbW hbx dz c4 c34
 refine jP 15 16 (by kernel_rfl) (by kernel_rfl) (by decide) ?_
 simp only [TkD]
 iterate 13
  apply jd (by decide) (by rfl)
  ·intro yy;go_simp;all_goals with_reducible rfl
  simp only [Act.put,SsT]
 refine jd (by decide) (by rfl) (v := ?v13) ?hv13 ?_
 case hv13 => (intro yy;go_simp;exact CW2.out _)
 simp only [Act.put,SsT]
 refine jd (by decide) (by rfl) (v := ?v14) ?hv14 ?_
 case hv14 => (intro yy;go_simp;exact CN.out _)
 simp only [Act.put,SsT]
 refine js ?_
 intro yy
 have hcast : (((rd + 1 : Nat)) : Int) = (rd : Int) + 1 := by omega
 have HC := jH hcast
 clear hcast
 go_wp2_with (first
  | (go_at_call 79;refine (J5 (H.out.on (HY.out yy)) hq (.n (w63 z))).mono ?_;rintro _ w2 ⟨rfl,hm2,hf2⟩;have c34' : w2.cell? ⟨r,34,none⟩ = some (.int .i64 rd) := (by rw [<- HRD.out];exact ja hm2.run 34 rfl);have z34 := je hm2.run 34;have hr2 := hm2.lt;have HM2 := jH hm2;have HF2 := jH (Fr0.trans (Fr.of (HY.out yy)) hf2);clear hm2 hf2))
 go_returns
 have hL : Lone r w2 (w2.setCell ⟨r,34,none⟩ (.int .i64 ((rd : Int) + 1))) := (Lone.refl _ _).set 34 _
 refine ⟨rfl,κ,HM2.out.upd (x' := { (JU X q (.n (w63 z))).x with read := X.x.read + 1 }) ?_ hL rfl,HF2.out.trans (HM2.out.low hL)⟩
 rw [<- HC.out,<- HRD.out]
 exact jf HM2.out.run 34 _
structure Two (w : World) (r : Nat) (op q x y p : Nat) (u v : V) (a b : Nat) (W : World) : Prop where
 low : Below w.heap.size w W
 ln : W.heap[w.heap.size]? = some (.cells #[.int .i64 op,.int .i64 q,.int .i64 x,.int .i64 y,.int .i64 p] 116 (0,0))
 bu : W.heap[a]? = some (.cells #[.bool (vb u),.int .i64 (vi u)] 78 (0,0))
 bv : W.heap[b]? = some (.cells #[.bool (vb v),.int .i64 (vi v)] 78 (0,0))
 ab : a ≠ b
 la : w.heap.size < a
 lb : w.heap.size < b
theorem jbq {w w1 w2 : World} {r op q x y p : Nat} {u v : V} (hb1 : Below (w.alloc (.cells #[.int .i64 op,.int .i64 q,.int .i64 x,.int .i64 y,.int .i64 p] 116 (0,0))).heap.size (w.alloc (.cells #[.int .i64 op,.int .i64 q,.int .i64 x,.int .i64 y,.int .i64 p] 116 (0,0))) w1)
 (hb2 : Below (w1.alloc (.cells #[.bool (vb u),.int .i64 (vi u)] 78 (0,0))).heap.size (w1.alloc (.cells #[.bool (vb u),.int .i64 (vi u)] 78 (0,0))) w2) :
 Two w r op q x y p u v w1.heap.size w2.heap.size (w2.alloc (.cells #[.bool (vb v),.int .i64 (vi v)] 78 (0,0))) := by
 have h1 := jp hb1
 have h2 := jp hb2
 have s1 := jb (boxed hb1)
 have s2 := jb (boxed hb2)
 have hA := (Below.refl w2.heap.size w2).alloc jN (.cells #[.bool (vb v),.int .i64 (vi v)] 78 (0,0))
 have h2s := h2.size
 exact ⟨(h1.trans (h2.mono h1.size)).trans (hA.mono (Nat.le_trans h1.size h2.size)),jc (jc (boxed hb1) h2 s1) hA (by omega),jc (boxed hb2) hA s2,jg _ _,by omega,by omega,by omega⟩
theorem jbr {w W : World} {r op q x y p a b : Nat} {u v : V} (hT : Two w r op q x y p u v a b W) : W.cell? ⟨w.heap.size,0,none⟩ = some (.int .i64 op) /\ W.cell? ⟨w.heap.size,1,none⟩ = some (.int .i64 q) /\ W.cell? ⟨w.heap.size,4,none⟩ = some (.int .i64 p) /\ W.cell? ⟨a,0,none⟩ = some (.bool (vb u)) /\ W.cell? ⟨a,1,none⟩ = some (.int .i64 (vi u)) /\ W.cell? ⟨b,0,none⟩ = some (.bool (vb v)) /\ W.cell? ⟨b,1,none⟩ = some (.int .i64 (vi v)) /\ W.frozen? ⟨b,0,none⟩ = false /\ W.frozen? ⟨b,1,none⟩ = false /\ w.heap.size < W.heap.size /\ a ≠ b /\ w.heap.size < a /\ w.heap.size < b /\ Hid (Two w r op q x y p u v a b W) :=
 ⟨ja hT.ln 0 rfl,ja hT.ln 1 rfl,ja hT.ln 4 rfl,ja hT.bu 0 rfl,ja hT.bu 1 rfl,ja hT.bv 0 rfl,ja hT.bv 1 rfl,je hT.bv 0,je hT.bv 1,jb hT.ln,hT.ab,hT.la,hT.lb,hT⟩
set_option maxRecDepth 100000 in
theorem jel (h : RM s w r κ X) {op q x y p : Nat} {u v : V} (hx : x < 8) (hy : y < 8) (hu : X.x.g x = u) (hv : X.x.g y = v) (ho : 7 <= op /\ op <= 14) (hb : vb u = true \/ vb v = true) :
 Calls Tryz.prog 52 #[.pointer (some ⟨r,0,none⟩),.agg #[.int .i64 op,.int .i64 q,.int .i64 x,.int .i64 y,.int .i64 p]] w (EnP κ w r X 50 0) := by
 have H := jH h
 have CX := jZ h hx hu
 have CY := jZ h hy hv
 have hlt := h.lt
 clear h hu hv
 have o15 : ((op : Int) == 15) = false := by simp;omega
 have o16 : ((op : Int) == 16) = false := by simp;omega
 have HB := jH hb
 clear hb
 go_enter Tryz.func52,Tryz.ntmps52
 go_upto_region 3 with (first
  | (go_at_call_of 80 x;refine (CX.out _ (jB.alloc jN _)).mono ?_;rintro _ w1 ⟨rfl,hb1⟩;have e3 : w1.cell? ⟨w.heap.size,3,none⟩ = some (.int .i64 y) := ja (boxed hb1) 3 rfl;have hl1 := jb (boxed hb1))
  | (go_at_call 80;refine (CY.out _ (b2 hb1)).mono ?_;rintro _ w2 ⟨rfl,hb2⟩))
 have hT := jbq (r := r) (u := u) (v := v) hb1 hb2
 generalize w2.alloc (.cells #[.bool (vb v),.int .i64 (vi v)] 78 (0,0)) = W at hT ⊢
 generalize w1.heap.size = a at hT ⊢
 generalize w2.heap.size = b at hT ⊢
 obtain ⟨l0',l1',l4',u0,u1,v0,v1,y0,y1,hlW,hab,hla,hlb,HT⟩ := jbr hT
 clear hT hb1 hb2 e3 hl1
 have hbb : (vb u || vb v) = true := by rcases HB.out with h | h <;> simp [h]
 cases hu : vb u with
 | true =>
   rw [hu] at u0
   go_wp2_with (first
    | (go_at_call 60;refine (JP (H.out.on HT.out.low)).mono ?_;rintro _ w3 ⟨rfl,h3,f3⟩))
   go_returns
   exact ⟨rfl,κ,h3,Fr0.trans (Fr.of HT.out.low) f3⟩
 | false =>
   have hvv : vb v = true := by rw [hu] at hbb;simpa using hbb
   rw [hu] at u0
   rw [hvv] at v0
   go_wp2_with (first
    | (go_at_call 60;refine (JP (H.out.on HT.out.low)).mono ?_;rintro _ w3 ⟨rfl,h3,f3⟩))
   go_returns
   exact ⟨rfl,κ,h3,Fr0.trans (Fr.of HT.out.low) f3⟩
set_option maxRecDepth 100000 in
theorem jhk (h : RM s w r κ X) {op q x y p : Nat} {u v : V} (hx : x < 8) (hy : y < 8) (hu : X.x.g x = u) (hv : X.x.g y = v) (ho : op = 15 \/ op = 16) (hb : vb u = true) :
 Calls Tryz.prog 52 #[.pointer (some ⟨r,0,none⟩),.agg #[.int .i64 op,.int .i64 q,.int .i64 x,.int .i64 y,.int .i64 p]] w (EnP κ w r X 50 0) := by
 have H := jH h
 have CX := jZ h hx hu
 have CY := jZ h hy hv
 have hlt := h.lt
 clear h hu hv
 have HB := jH hb
 have o15 : ((op : Int) == 15 || (op : Int) == 16) = true := by rcases ho with rfl | rfl <;> rfl
 clear hb
 go_enter Tryz.func52,Tryz.ntmps52
 go_upto_region 3 with (first
  | (go_at_call_of 80 x;refine (CX.out _ (jB.alloc jN _)).mono ?_;rintro _ w1 ⟨rfl,hb1⟩;have e3 : w1.cell? ⟨w.heap.size,3,none⟩ = some (.int .i64 y) := ja (boxed hb1) 3 rfl;have hl1 := jb (boxed hb1))
  | (go_at_call 80;refine (CY.out _ (b2 hb1)).mono ?_;rintro _ w2 ⟨rfl,hb2⟩))
 have hT := jbq (r := r) (u := u) (v := v) hb1 hb2
 generalize w2.alloc (.cells #[.bool (vb v),.int .i64 (vi v)] 78 (0,0)) = W at hT ⊢
 generalize w1.heap.size = a at hT ⊢
 generalize w2.heap.size = b at hT ⊢
 obtain ⟨l0',l1',l4',u0,u1,v0,v1,y0,y1,hlW,hab,hla,hlb,HT⟩ := jbr hT
 clear hT hb1 hb2 e3 hl1
 rw [HB.out] at u0
 obtain ⟨r0,r1,_⟩ := Jk HT.out.bv
 rcases ho with rfl | rfl
 all_goals
  go_wp2_with (first
   | (go_at_call 60;refine (JP (H.out.other (b := b) (fun k i _ e => by rw [H.out.top b (Nat.le_of_lt hlb)] at e;cases e) (Lone.refl _ _) |>.on HT.out.low |>.other (b := b) (fun k i _ e => by rw [H.out.top b (Nat.le_of_lt hlb)] at e;cases e) (((Lone.refl b W).set 0 _).set 1 _))).mono ?_;rintro _ w3 ⟨rfl,h3,f3⟩))
  go_returns
  exact ⟨rfl,κ,h3,Fr0.trans (Fr.new (Fr.of HT.out.low) (Nat.le_of_lt hlb) (((Lone.refl b W).set 0 _).set 1 _)) f3⟩
set_option maxRecDepth 100000 in
theorem jhj (h : RM s w r κ X) {op q x y p : Nat} {u v : V} (hx : x < 8) (hy : y < 8) (hu : X.x.g x = u) (hv : X.x.g y = v) (ho : op = 10 \/ op = 11) (hu2 : vb u = false) (hv2 : v = .n 0) :
 Calls Tryz.prog 52 #[.pointer (some ⟨r,0,none⟩),.agg #[.int .i64 op,.int .i64 q,.int .i64 x,.int .i64 y,.int .i64 p]] w (EnP κ w r X 32 p) := by
 have H := jH h
 have CX := jZ h hx hu
 have CY := jZ h hy hv
 have hlt := h.lt
 clear h hu hv
 have HB := jH hu2
 have HV := jH hv2
 clear hu2 hv2
 go_enter Tryz.func52,Tryz.ntmps52
 go_upto_region 3 with (first
  | (go_at_call_of 80 x;refine (CX.out _ (jB.alloc jN _)).mono ?_;rintro _ w1 ⟨rfl,hb1⟩;have e3 : w1.cell? ⟨w.heap.size,3,none⟩ = some (.int .i64 y) := ja (boxed hb1) 3 rfl;have hl1 := jb (boxed hb1))
  | (go_at_call 80;refine (CY.out _ (b2 hb1)).mono ?_;rintro _ w2 ⟨rfl,hb2⟩))
 have hT := jbq (r := r) (u := u) (v := v) hb1 hb2
 generalize w2.alloc (.cells #[.bool (vb v),.int .i64 (vi v)] 78 (0,0)) = W at hT ⊢
 generalize w1.heap.size = a at hT ⊢
 generalize w2.heap.size = b at hT ⊢
 obtain ⟨l0',l1',l4',u0,u1,v0,v1,y0,y1,hlW,hab,hla,hlb,HT⟩ := jbr hT
 clear hT hb1 hb2 e3 hl1
 rw [HB.out] at u0
 have hv := HV.out
 subst hv
 rcases ho with rfl | rfl
 all_goals
  go_wp2_with (first
   | (go_at_call 81;refine (end_any (H.out.on HT.out.low) 32 p).mono ?_;rintro _ w3 ⟨rfl,h3,f3⟩))
  go_returns
  exact ⟨rfl,κ,h3,Fr0.trans (Fr.of HT.out.low) f3⟩
set_option maxRecDepth 100000 in
theorem jhh (h : RM s w r κ X) {op q x y p : Nat} {u v : V} (hx : x < 8) (hy : y < 8) (hu : X.x.g x = u) (hv : X.x.g y = v) (hq : q < 8) (ho : 7 <= op /\ op <= 14) (hun : vb u = false) (hvn : vb v = false) (ha : inR (vi u)) (hb : inR (vi v)) (hz : op = 10 \/ op = 11 -> vi v ≠ 0) :
 Calls Tryz.prog 52 #[.pointer (some ⟨r,0,none⟩),.agg #[.int .i64 op,.int .i64 q,.int .i64 x,.int .i64 y,.int .i64 p]] w (OkP s κ w r (JU X q (.n (w63 (ar op (vi u) (vi v)))))) := by
 have H := jH h
 have CX := jZ h hx hu
 have CY := jZ h hy hv
 have hlt := h.lt
 clear h hu hv
 have HO : Hid ((7 <= op /\ op <= 16) /\ inR (vi u) /\ inR (vi v) /\ (op = 10 \/ op = 11 -> vi v ≠ 0)) := ⟨⟨ho.1,by omega⟩,ha,hb,hz⟩
 have o15 : ((op : Int) == 15) = false := by simp;omega
 have o16 : ((op : Int) == 16) = false := by simp;omega
 have HUN := jH hun
 have HVN := jH hvn
 have HGD : Hid ((vi v == 0) = false \/ ((vi v == 0) = true /\ ((op : Int) == 10) = false /\ ((op : Int) == 11) = false)) := by
  show _ \/ _
  by_cases h0 : vi v = 0
  ·refine .inr ⟨by simpa using h0,?_,?_⟩
   ·have : op ≠ 10 := fun e => hz (.inl e) h0
    simp;omega
   ·have : op ≠ 11 := fun e => hz (.inr e) h0
    simp;omega
  ·exact .inl (by simpa using h0)
 clear hun hvn ha hb hz ho
 obtain ⟨Z,hZ⟩ : ∃ Z,ar (op) (vi u) (vi v) = Z := ⟨_,rfl⟩
 have C1 : Hid (jD 83 #[.int .i64 ((op : Nat) : Int),.int .i64 (vi u),.int .i64 (vi v)] (.int .i64 (wrap64 Z))) := fun W' => by rw [<- hZ];exact (jek HO.out.1 HO.out.2.1 HO.out.2.2.1 HO.out.2.2.2 W').mono fun e w' ⟨h1,h2⟩ => ⟨h1,h2 ▸ jB⟩
 have C2 : Hid (jD 65 #[.int .i64 (wrap64 Z)] (.int .i64 (w63 Z))) := fun W' => (jbm (by unfold wrap64;omega) (by unfold wrap64;omega)).mono fun e w' ⟨h1,h2⟩ => ⟨by rw [h1,jb0],h2 ▸ jB⟩
 have C3 : Hid (jD 82 #[.int .i64 (w63 Z)] (.agg #[.bool false,.int .i64 (w63 Z)])) := fun W' => jbD _ _
 rw [hZ]
 clear hZ
 go_enter Tryz.func52,Tryz.ntmps52
 go_upto_region 3 with (first
  | (go_at_call_of 80 x;refine (CX.out _ (jB.alloc jN _)).mono ?_;rintro _ w1 ⟨rfl,hb1⟩;have e3 : w1.cell? ⟨w.heap.size,3,none⟩ = some (.int .i64 y) := ja (boxed hb1) 3 rfl;have hl1 := jb (boxed hb1))
  | (go_at_call 80;refine (CY.out _ (b2 hb1)).mono ?_;rintro _ w2 ⟨rfl,hb2⟩))
 have hT := jbq (r := r) (u := u) (v := v) hb1 hb2
 generalize w2.alloc (.cells #[.bool (vb v),.int .i64 (vi v)] 78 (0,0)) = W at hT ⊢
 generalize w1.heap.size = a at hT ⊢
 generalize w2.heap.size = b at hT ⊢
 obtain ⟨l0',l1',l4',u0,u1,v0,v1,y0,y1,hlW,hab,hla,hlb,HT⟩ := jbr hT
 clear hT hb1 hb2 e3 hl1
 rw [HUN.out] at u0
 rw [HVN.out] at v0
 have hgo : ∀ hh : True,True := fun h => h
 have hln := HT.out.ln
 have hbu := HT.out.bu
 have hbv := HT.out.bv
 have hbW := HT.out.low
 have HY : Hid (∀ yy : Wd W.heap.size W,Below w.heap.size w yy.v) := fun yy => hbW.trans (yy.h.mono hbW.size)
 have w0' : ∀ yy : Wd W.heap.size W,yy.v.cell? ⟨w.heap.size,0,none⟩ = some (.int .i64 ((op : Nat))) := fun yy => Wd.at hln (jb hln) 0 rfl yy
 have w1' : ∀ yy : Wd W.heap.size W,yy.v.cell? ⟨w.heap.size,1,none⟩ = some (.int .i64 q) := fun yy => Wd.at hln (jb hln) 1 rfl yy
 have wu' : ∀ yy : Wd W.heap.size W,yy.v.cell? ⟨a,1,none⟩ = some (.int .i64 (vi u)) := fun yy => Wd.at hbu (jb hbu) 1 rfl yy
 have wv' : ∀ yy : Wd W.heap.size W,yy.v.cell? ⟨b,1,none⟩ = some (.int .i64 (vi v)) := fun yy => Wd.at hbv (jb hbv) 1 rfl yy
 haveI := Wd.ne
 have HLN := jH hln
 clear hln hbu hbv hbW hgo
 rcases HGD.out with hg | ⟨hg,hg1,hg2⟩
 all_goals
  go_wp2_with fail
  refine jP 12 13 (by kernel_rfl) (by kernel_rfl) (by decide) ?_
  simp only [TkD]
  iterate 9
   apply jd (by decide) (by rfl)
   ·intro yy;go_simp;all_goals with_reducible rfl
   simp only [Act.put,SsT]
  refine jd (by decide) (by rfl) (v := ?v9) ?hv9 ?_
  case hv9 => (intro yy;go_simp;exact C1.out _)
  simp only [Act.put,SsT]
  refine jd (by decide) (by rfl) (v := ?v10) ?hv10 ?_
  case hv10 => (intro yy;go_simp;exact C2.out _)
  simp only [Act.put,SsT]
  refine jd (by decide) (by rfl) (v := ?v11) ?hv11 ?_
  case hv11 => (intro yy;go_simp;exact C3.out _)
  simp only [Act.put,SsT]
  refine js ?_
  intro yy
  go_wp2_with (first
   | (go_at_call 79;refine (J5 (H.out.on (HY.out yy)) hq (.n (w63 Z))).mono ?_;rintro _ w3 ⟨rfl,hm3,hf3⟩))
  go_returns
  exact ⟨rfl,κ,hm3,Fr0.trans (Fr.of (HY.out yy)) hf3⟩
set_option maxRecDepth 100000 in
theorem jhi (h : RM s w r κ X) {op q x y p : Nat} {u v : V} (hx : x < 8) (hy : y < 8) (hu : X.x.g x = u) (hv : X.x.g y = v) (hq : q < 8) (ho : op = 15 \/ op = 16) (hun : vb u = false) (ha : inR (vi u)) :
 Calls Tryz.prog 52 #[.pointer (some ⟨r,0,none⟩),.agg #[.int .i64 op,.int .i64 q,.int .i64 x,.int .i64 y,.int .i64 p]] w (OkP s κ w r (JU X q (.n (w63 (ar op (vi u) 0))))) := by
 have H := jH h
 have CX := jZ h hx hu
 have CY := jZ h hy hv
 have hlt := h.lt
 clear h hu hv
 have HO : Hid ((7 <= op /\ op <= 16) /\ inR (vi u) /\ inR 0 /\ (op = 10 \/ op = 11 -> (0 : Int) ≠ 0)) := ⟨⟨by omega,by omega⟩,ha,by unfold inR;omega,by omega⟩
 have HUN := jH hun
 have o10 : ((op : Int) == 10) = false := by simp;omega
 have o11 : ((op : Int) == 11) = false := by simp;omega
 have HOP := jH ho
 have ho2 : (((op : Int) == 15) = true) \/ (((op : Int) == 15) = false /\ ((op : Int) == 16) = true) := by rcases ho with rfl | rfl <;> simp
 clear hun ha ho
 obtain ⟨Z,hZ⟩ : ∃ Z,ar (op) (vi u) 0 = Z := ⟨_,rfl⟩
 have C1 : Hid (jD 83 #[.int .i64 ((op : Nat) : Int),.int .i64 (vi u),.int .i64 0] (.int .i64 (wrap64 Z))) := fun W' => by rw [<- hZ];exact (jek HO.out.1 HO.out.2.1 HO.out.2.2.1 HO.out.2.2.2 W').mono fun e w' ⟨h1,h2⟩ => ⟨h1,h2 ▸ jB⟩
 have C2 : Hid (jD 65 #[.int .i64 (wrap64 Z)] (.int .i64 (w63 Z))) := fun W' => (jbm (by unfold wrap64;omega) (by unfold wrap64;omega)).mono fun e w' ⟨h1,h2⟩ => ⟨by rw [h1,jb0],h2 ▸ jB⟩
 have C3 : Hid (jD 82 #[.int .i64 (w63 Z)] (.agg #[.bool false,.int .i64 (w63 Z)])) := fun W' => jbD _ _
 rw [hZ]
 clear hZ
 go_enter Tryz.func52,Tryz.ntmps52
 go_upto_region 3 with (first
  | (go_at_call_of 80 x;refine (CX.out _ (jB.alloc jN _)).mono ?_;rintro _ w1 ⟨rfl,hb1⟩;have e3 : w1.cell? ⟨w.heap.size,3,none⟩ = some (.int .i64 y) := ja (boxed hb1) 3 rfl;have hl1 := jb (boxed hb1))
  | (go_at_call 80;refine (CY.out _ (b2 hb1)).mono ?_;rintro _ w2 ⟨rfl,hb2⟩))
 have hT := jbq (r := r) (u := u) (v := v) hb1 hb2
 generalize w2.alloc (.cells #[.bool (vb v),.int .i64 (vi v)] 78 (0,0)) = W at hT ⊢
 generalize w1.heap.size = a at hT ⊢
 generalize w2.heap.size = b at hT ⊢
 obtain ⟨l0',l1',l4',u0,u1,v0,v1,y0,y1,hlW,hab,hla,hlb,HT⟩ := jbr hT
 clear hT hb1 hb2 e3 hl1
 rw [HUN.out] at u0
 obtain ⟨r0,r1,_⟩ := Jk HT.out.bv
 have hbW : Below w.heap.size w ((W.setCell ⟨b,0,none⟩ (.bool false)).setCell ⟨b,1,none⟩ (.int .i64 0)) := jaL HT.out.low (Nat.le_of_lt hlb) _ _
 have hbv := JF HT.out.bv (.bool false) (.int .i64 0)
 have hL : Lone b W ((W.setCell ⟨b,0,none⟩ (.bool false)).setCell ⟨b,1,none⟩ (.int .i64 0)) := ((Lone.refl b W).set 0 _).set 1 _
 have hln := (hL.rest _ hlW (by omega)).trans HT.out.ln
 have hbu := (hL.rest _ (jb HT.out.bu) hab).trans HT.out.bu
 have HL := jH hL
 clear hL
 rcases ho2 with hh | ⟨hh,hh2⟩
 all_goals
  go_upto_region 9 with fail
  generalize (W.setCell ⟨b,0,none⟩ (.bool false)).setCell ⟨b,1,none⟩ (.int .i64 0) = W2 at hbW hbv hln hbu ⊢
  have HY : Hid (∀ yy : Wd W2.heap.size W2,Below w.heap.size w yy.v) := fun yy => hbW.trans (yy.h.mono hbW.size)
  have w0' : ∀ yy : Wd W2.heap.size W2,yy.v.cell? ⟨w.heap.size,0,none⟩ = some (.int .i64 ((op : Nat))) := fun yy => Wd.at hln (jb hln) 0 rfl yy
  have w1' : ∀ yy : Wd W2.heap.size W2,yy.v.cell? ⟨w.heap.size,1,none⟩ = some (.int .i64 q) := fun yy => Wd.at hln (jb hln) 1 rfl yy
  have wu' : ∀ yy : Wd W2.heap.size W2,yy.v.cell? ⟨a,1,none⟩ = some (.int .i64 (vi u)) := fun yy => Wd.at hbu (jb hbu) 1 rfl yy
  have wv' : ∀ yy : Wd W2.heap.size W2,yy.v.cell? ⟨b,1,none⟩ = some (.int .i64 0) := fun yy => Wd.at hbv (jb hbv) 1 rfl yy
  haveI := Wd.ne
  clear hln hbu hbv hbW
  refine jP 12 13 (by kernel_rfl) (by kernel_rfl) (by decide) ?_
  simp only [TkD]
  iterate 9
   apply jd (by decide) (by rfl)
   ·intro yy;go_simp;all_goals with_reducible rfl
   simp only [Act.put,SsT]
  refine jd (by decide) (by rfl) (v := ?v9) ?hv9 ?_
  case hv9 => (intro yy;go_simp;exact C1.out _)
  simp only [Act.put,SsT]
  refine jd (by decide) (by rfl) (v := ?v10) ?hv10 ?_
  case hv10 => (intro yy;go_simp;exact C2.out _)
  simp only [Act.put,SsT]
  refine jd (by decide) (by rfl) (v := ?v11) ?hv11 ?_
  case hv11 => (intro yy;go_simp;exact C3.out _)
  simp only [Act.put,SsT]
  refine js ?_
  intro yy
  go_wp2_with (first
   | (go_at_call 79;refine (J5 (H.out.on (HY.out yy)) hq (.n (w63 Z))).mono ?_;rintro _ w3 ⟨rfl,hm3,hf3⟩))
  go_returns
  exact ⟨rfl,κ,hm3,Fr0.trans (Fr.of (HY.out yy)) hf3⟩
end Ko
end Go.Proofs.YtjmgolahkgalbaaGreatDoor
