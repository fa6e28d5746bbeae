import Derived.Test.YtjmgolahkgalbaaGreatDoorS37
set_option linter.unusedVariables false
set_option linter.unusedSimpArgs false
set_option maxHeartbeats 20000000
namespace Go.Proofs.YtjmgolahkgalbaaGreatDoor
namespace Ko
open Go.RowKit Li
variable {s : ByteArray} {w : World} {r : Nat}
def jdf (X : St) (q a : Nat) : St := { X with x := { X.x with g := upd (fun _ => z0) q (.b a) } }
def MkP (s : ByteArray) (κ : Kp) (w : World) (r : Nat) (X : St) (fr : List Fm) (v : V) (n : Nat) (f : Int) (q : Nat) (e : Ending) (w' : World) : Prop :=
 ∃ X1,Pre X fr v n X1 /\ ((X1.x.half < X1.x.used + n + 1 /\ EnP κ w r X1 40 0 e w') \/ (X1.x.used + n + 1 <= X1.x.half /\ ∃ a X2,Pt X1 n f v a X2 /\ OkP s κ w r (jdf X2 q a) e w'))
theorem jmM (s : ByteArray) (κ : Kp) (r : Nat) (X : St) (fr : List Fm) (v : V) (n : Nat) (f : Int) (q : Nat) : Good κ (fun w => MkP s κ w r X fr v n f q) :=
 ⟨fun W e w' ⟨X1,h1,h2⟩ => h2.elim (fun h => h.2.1) (fun ⟨_,a,X2,_,h⟩ => h.1),fun w W e w' hf ⟨X1,h1,h2⟩ => ⟨X1,h1,h2.imp (fun h => ⟨h.1,(jj0 κ r X1 40 0).pre w W e w' hf h.2⟩) (fun ⟨h3,a,X2,h4,h5⟩ => ⟨h3,a,X2,h4,(jjV s κ r (jdf X2 q a)).pre w W e w' hf h5⟩)⟩⟩
def After (s : ByteArray) (κ : Kp) (w : World) (r : Nat) (X : St) (fr : List Fm) (v : V) (n : Nat) (f : Int) (ln : Array Value) (s8 s9 : Value) (wx : World) : Prop :=
 ∃ (ok : Bool) (a bb : Nat) (κ3 : Kp),s8 = .pointer (some ⟨bb,0,none⟩) /\ s9 = .bool ok /\ wx.heap[bb]? = some (.cells #[.bool ok,.int .i64 a] 78 (0,0)) /\ wx.heap[w.heap.size]? = some (.cells ln 116 (0,0)) /\ Fr0 κ κ3 w wx /\ κ3 bb = none /\ κ3 w.heap.size = none /\
   ∃ X1,Pre X fr v n X1 /\ ((ok = false /\ X1.x.half < X1.x.used + n + 1 /\ RM s wx r κ3 X1) \/ (ok = true /\ X1.x.used + n + 1 <= X1.x.half /\ ∃ X2,Pt X1 n f v a X2 /\ RM s wx r κ3 X2))
def Had (s : ByteArray) (r : Nat) (X : St) (fr : List Fm) (v : V) (n : Nat) (f : Int) (ok : Bool) (a : Nat) (κ3 : Kp) (w3 : World) : Prop :=
 ∃ X1,Pre X fr v n X1 /\ ((ok = false /\ X1.x.half < X1.x.used + n + 1 /\ RM s w3 r κ3 X1) \/ (ok = true /\ X1.x.used + n + 1 <= X1.x.half /\ ∃ X2,Pt X1 n f v a X2 /\ RM s w3 r κ3 X2))
variable {X : St}
theorem Had.top {fr : List Fm} {v : V} {n : Nat} {f : Int} {ok : Bool} {a : Nat} {κ3 : Kp} {w3 : World} (h : Had s r X fr v n f ok a κ3 w3) : ∀ b,w3.heap.size <= b -> κ3 b = none := by
 obtain ⟨X1,_,⟨_,_,h⟩ | ⟨_,_,X2,_,h⟩⟩ := h
 ·exact h.top
 ·exact h.top
theorem Had.map {fr : List Fm} {v : V} {n : Nat} {f : Int} {ok : Bool} {a : Nat} {κ3 : Kp} {w3 w4 : World} (h : Had s r X fr v n f ok a κ3 w3) (hm : ∀ X,RM s w3 r κ3 X -> RM s w4 r κ3 X) : Had s r X fr v n f ok a κ3 w4 := by
 obtain ⟨X1,h1,⟨h2,h3,h⟩ | ⟨h2,h3,X2,h4,h⟩⟩ := h
 ·exact ⟨X1,h1,.inl ⟨h2,h3,hm _ h⟩⟩
 ·exact ⟨X1,h1,.inr ⟨h2,h3,X2,h4,hm _ h⟩⟩
def NbQ (s : ByteArray) (κ : Kp) (w : World) (r : Nat) (X : St) (fr : List Fm) (v : V) (n : Nat) (f : Int) (e : Ending) (w' : World) : Prop :=
 ∃ (ok : Bool) (a : Nat) (κ' : Kp),e = .returned (.tuple #[.agg #[.bool ok,.int .i64 a],.bool ok]) /\ Fr0 κ κ' w w' /\ ∃ X1,Pre X fr v n X1 /\ ((ok = false /\ X1.x.half < X1.x.used + n + 1 /\ RM s w' r κ' X1) \/ (ok = true /\ X1.x.used + n + 1 <= X1.x.half /\ ∃ X2,Pt X1 n f v a X2 /\ RM s w' r κ' X2))
variable {κ : Kp}
theorem nbq {fr : List Fm} {v : V} {n : Nat} {f : Int} {e : Ending} {w' : World} (h : NbP s κ w r X fr v n f e w') : NbQ s κ w r X fr v n f e w' := by
 obtain ⟨X1,h1,⟨h2,h3,κ',h4,h5⟩ | ⟨h2,a,h3,κ',X2,h4,h5,h6⟩⟩ := h
 ·exact ⟨false,0,κ',h3,h5,X1,h1,.inl ⟨rfl,h2,h4⟩⟩
 ·exact ⟨true,a,κ',h3,h6,X1,h1,.inr ⟨rfl,h2,X2,h4,h5⟩⟩
structure Mkb (X : St) (fr : List Fm) (v : V) (n : Nat) : Prop where
 gc : Gc X fr v
 n : n <= 65536
 half : X.x.half <= 4096
 free : ∀ a ∈ X.free,a < X.bs.length
set_option maxRecDepth 100000 in
theorem jmK (h : RM s w r κ X) {q x y p : Nat} {fr : List Fm} (hq : q < 8) (hb : Mkb X fr z0 x) :
 Calls Tryz.prog 54 #[.pointer (some ⟨r,0,none⟩),.agg #[.int .i64 19,.int .i64 q,.int .i64 x,.int .i64 y,.int .i64 p]] w (MkP s κ w r X fr z0 x (-1) q) := by
 have H := jH h
 have hlt := h.lt
 have HTOP := jH h.top
 have CB : Hid (∀ W,RM s W r κ X -> Calls Tryz.prog 84 #[.pointer (some ⟨r,23,none⟩),.int .i64 x,.int .i64 (-1),.agg #[.bool false,.int .i64 0]] W fun e w' => NbQ s κ W r X fr z0 x (-1) e w') := fun W hW => (jda hW hb.gc hb.n hb.half hb.free).mono fun e w' => nbq
 clear h hb
 go_enter Tryz.func54,Tryz.ntmps54
 go_wp2_with fail
 have hW := jab (w := w) (.cells #[.int .i64 19,.int .i64 q,.int .i64 x,.int .i64 y,.int .i64 p] 116 (0,0)) (.cells #[.bool false,.int .i64 0] 78 (0,0))
 have hln : ((w.alloc (.cells #[.int .i64 19,.int .i64 q,.int .i64 x,.int .i64 y,.int .i64 p] 116 (0,0))).alloc (.cells #[.bool false,.int .i64 0] 78 (0,0))).heap[w.heap.size]? = some (.cells #[.int .i64 19,.int .i64 q,.int .i64 x,.int .i64 y,.int .i64 p] 116 (0,0)) := jc (jg w _) ((Below.refl (w.alloc _).heap.size (w.alloc _)).alloc jN _) (by simp)
 have hrs : ((w.alloc (.cells #[.int .i64 19,.int .i64 q,.int .i64 x,.int .i64 y,.int .i64 p] 116 (0,0))).alloc (.cells #[.bool false,.int .i64 0] 78 (0,0))).heap[w.heap.size + 1]? = some (.cells #[.bool false,.int .i64 0] 78 (0,0)) := j9 (w := w.alloc _) (by simp)
 generalize (w.alloc (.cells #[.int .i64 19,.int .i64 q,.int .i64 x,.int .i64 y,.int .i64 p] 116 (0,0))).alloc (.cells #[.bool false,.int .i64 0] 78 (0,0)) = W at hW hln hrs ⊢
 have r0 : W.cell? ⟨w.heap.size + 1,0,none⟩ = some (.bool false) := ja hrs 0 rfl
 have r1 : W.cell? ⟨w.heap.size + 1,1,none⟩ = some (.int .i64 0) := ja hrs 1 rfl
 have hlW := jb hln
 have hrW := jb hrs
 have HW := jH hW
 have HLN := jH hln
 have HB0 : Hid ((W.alloc (.cells #[.bool false,.int .i64 0] 78 (0,0))).drew.heap[W.heap.size]? = some (.cells #[.bool false,.int .i64 0] 78 (0,0))) := jg W _
 have HLNB : Hid ((W.alloc (.cells #[.bool false,.int .i64 0] 78 (0,0))).drew.heap[w.heap.size]? = some (.cells #[.int .i64 19,.int .i64 q,.int .i64 x,.int .i64 y,.int .i64 p] 116 (0,0))) := jc hln ((Below.refl W.heap.size W).alloc jN _).drew (jb hln)
 have HLND : Hid (W.drew.heap[w.heap.size]? = some (.cells #[.int .i64 19,.int .i64 q,.int .i64 x,.int .i64 y,.int .i64 p] 116 (0,0))) := hln
 have HWB : Hid (Below w.heap.size w (W.alloc (.cells #[.bool false,.int .i64 0] 78 (0,0))).drew) := (hW.alloc hW.size _).drew
 clear hW hln hrs
 go_cut [8,9] (fun s8 s9 wx => After s κ w r X fr z0 x (-1) #[.int .i64 19,.int .i64 q,.int .i64 x,.int .i64 y,.int .i64 p] s8 s9 wx)
 case first =>
  go_region_with (first
   | (go_at_call 84;refine (CB.out _ (H.out.on HW.out.drew)).mono ?_;rintro _ w3 ⟨ok,a,κ3,rfl,hf3,h3⟩;have H3 := jH h3;have HF3 := jH (Fr0.trans (Fr.of HW.out.drew) hf3);have HLN3 := jH (hf3.blk HLND.out (HTOP.out _ jN));have HK3 := jH (hf3.none HLND.out (HTOP.out _ jN));clear h3 hf3)
   | (go_at_call 84;go_loud (refine (CB.out _ (H.out.on HWB.out)).mono ?_;rintro _ w3 ⟨ok,a,κ3,rfl,hf3,h3⟩;have H3 := jH h3;have HF3 := jH (Fr0.trans (Fr.of HWB.out) hf3);have hbx3 := hf3.blk HB0.out (HTOP.out _ HW.out.size);have HBX3 := jH hbx3;obtain ⟨t0,t1,t3,t4,t5,t6⟩ := Jk hbx3;have ht7 := jb hbx3;have HLN3 := jH (hf3.blk HLNB.out (HTOP.out _ jN));have HK3 := jH (hf3.none HLNB.out (HTOP.out _ jN));have HKB := jH (hf3.none HB0.out (HTOP.out _ HW.out.size));clear h3 hf3 hbx3)))
  all_goals (try go_wp2_with fail)
  all_goals go_meet
  ·have hd : Had s r X fr z0 x (-1) ok a κ3 w3 := H3.out
   have hA := (Below.refl w3.heap.size w3).alloc jN (.cells #[.bool ok,.int .i64 a] 78 (0,0))
   exact ⟨ok,a,w3.heap.size,κ3,rfl,rfl,jg _ _,jc HLN3.out hA (jb HLN3.out),Fr.al HF3.out _,hd.top _ jN,HK3.out,hd.map fun X h => h.on hA⟩
  all_goals
   have hd : Had s r X fr z0 x (-1) ok a κ3 w3 := H3.out
   have hL : Lone W.heap.size w3 ((w3.setCell ⟨W.heap.size,0,none⟩ (.bool ok)).setCell ⟨W.heap.size,1,none⟩ (.int .i64 a)) := ((Lone.refl _ _).set 0 _).set 1 _
   exact ⟨ok,a,W.heap.size,κ3,rfl,rfl,JF HBX3.out _ _,(hL.rest _ (jb HLN3.out) (by omega)).trans HLN3.out,Fr.new HF3.out HW.out.size hL,HKB.out,HK3.out,hd.map fun X h => h.other (fun k i _ e => by rw [HKB.out] at e;cases e) hL⟩
 case rest =>
  obtain ⟨ok,a,bb,κ3,rfl,rfl,hbb,hl3,hf3,hk1,hk2,hd⟩ := hcut
  rename_i K hK
  refine hK _ _ ?_
  clear hK K
  have HF3 := jH hf3
  have HBB := jH hbb
  have HL3 := jH hl3
  obtain ⟨X1,hpre,⟨rfl,hlt1,hm⟩ | ⟨rfl,hle1,X2,hpt,hm⟩⟩ := hd
  ·have HM := jH hm
   have HL := jH hlt1
   have HP := jH hpre
   clear hm hlt1 hpre hf3 hbb hl3
   go_wp2_with (first
    | (go_at_call 81;refine (end_any HM.out 40 0).mono ?_;rintro _ w4 ⟨rfl,h4,f4⟩))
   go_returns
   exact ⟨X1,HP.out,.inl ⟨HL.out,rfl,κ3,h4,Fr0.trans HF3.out f4⟩⟩
  ·have HM := jH hm
   have HL := jH hle1
   have HP := jH hpre
   have HPT := jH hpt
   have v0 : wc.cell? ⟨bb,0,none⟩ = some (.bool true) := ja hbb 0 rfl
   have v1 : wc.cell? ⟨bb,1,none⟩ = some (.int .i64 a) := ja hbb 1 rfl
   have l1 : wc.cell? ⟨w.heap.size,1,none⟩ = some (.int .i64 q) := ja hl3 1 rfl
   have HK1 := jH hk1
   have HK2 := jH hk2
   clear hm hle1 hpre hpt hf3 hbb hl3 hk1 hk2
   go_wp2_with (first
    | (show wpList _ _ _ (Oper.mk none (Op.store 79 (.tmp 64) (.tmp 62)) _ _ _ _ :: _) _ _;refine jbp (op := ⟨none,Op.store 79 (.tmp 64) (.tmp 62),_,_,_,_⟩) HM.out.run { X2.x with g := fun _ => z0 } rfl _ (.tmp 64) (.tmp 62) rfl 6 #[.bool false,.int .i64 0,.bool false,.int .i64 0,.bool false,.int .i64 0,.bool false,.int .i64 0,.bool false,.int .i64 0,.bool false,.int .i64 0,.bool false,.int .i64 0,.bool false,.int .i64 0] rfl rfl (by decide) Tryz.kiRegs jcb (jca _) ?_;intro w6 hr6 hl6;have HM6 := jH (HM.out.upd hr6 hl6 rfl);have HF6 := jH (HM.out.low hl6);have hb6 := (HM.out.low hl6).blk HBB.out HK1.out;have hl66 := (HM.out.low hl6).blk HL3.out HK2.out;have v06 : w6.cell? ⟨bb,0,none⟩ = some (.bool true) := ja hb6 0 rfl;have v16 : w6.cell? ⟨bb,1,none⟩ = some (.int .i64 a) := ja hb6 1 rfl;have l16 : w6.cell? ⟨w.heap.size,1,none⟩ = some (.int .i64 q) := ja hl66 1 rfl;clear hr6 hl6 hb6 hl66)
    | (go_at_call 79;refine (J5 HM6.out hq (.b a)).mono ?_;rintro _ w4 ⟨rfl,h4,f4⟩))
   go_returns
   exact ⟨X1,HP.out,.inr ⟨HL.out,a,X2,HPT.out,rfl,κ3,h4,Fr0.trans (Fr0.trans HF3.out HF6.out) f4⟩⟩
set_option maxRecDepth 100000 in
theorem jl7 (h : RM s w r κ X) {q x y p : Nat} {fr : List Fm} (hq : q < 8) (hb : Mkb X fr z0 x) :
 Calls Tryz.prog 54 #[.pointer (some ⟨r,0,none⟩),.agg #[.int .i64 20,.int .i64 q,.int .i64 x,.int .i64 y,.int .i64 p]] w (MkP s κ w r X fr z0 x ((y : Nat)) q) := by
 have H := jH h
 have hlt := h.lt
 have HTOP := jH h.top
 have CB : Hid (∀ W,RM s W r κ X -> Calls Tryz.prog 84 #[.pointer (some ⟨r,23,none⟩),.int .i64 x,.int .i64 ((y : Nat)),.agg #[.bool false,.int .i64 0]] W fun e w' => NbQ s κ W r X fr z0 x ((y : Nat)) e w') := fun W hW => (jda hW hb.gc hb.n hb.half hb.free).mono fun e w' => nbq
 clear h hb
 go_enter Tryz.func54,Tryz.ntmps54
 go_wp2_with fail
 have hW := jab (w := w) (.cells #[.int .i64 20,.int .i64 q,.int .i64 x,.int .i64 y,.int .i64 p] 116 (0,0)) (.cells #[.bool false,.int .i64 0] 78 (0,0))
 have hln : ((w.alloc (.cells #[.int .i64 20,.int .i64 q,.int .i64 x,.int .i64 y,.int .i64 p] 116 (0,0))).alloc (.cells #[.bool false,.int .i64 0] 78 (0,0))).heap[w.heap.size]? = some (.cells #[.int .i64 20,.int .i64 q,.int .i64 x,.int .i64 y,.int .i64 p] 116 (0,0)) := jc (jg w _) ((Below.refl (w.alloc _).heap.size (w.alloc _)).alloc jN _) (by simp)
 have hrs : ((w.alloc (.cells #[.int .i64 20,.int .i64 q,.int .i64 x,.int .i64 y,.int .i64 p] 116 (0,0))).alloc (.cells #[.bool false,.int .i64 0] 78 (0,0))).heap[w.heap.size + 1]? = some (.cells #[.bool false,.int .i64 0] 78 (0,0)) := j9 (w := w.alloc _) (by simp)
 generalize (w.alloc (.cells #[.int .i64 20,.int .i64 q,.int .i64 x,.int .i64 y,.int .i64 p] 116 (0,0))).alloc (.cells #[.bool false,.int .i64 0] 78 (0,0)) = W at hW hln hrs ⊢
 have r0 : W.cell? ⟨w.heap.size + 1,0,none⟩ = some (.bool false) := ja hrs 0 rfl
 have r1 : W.cell? ⟨w.heap.size + 1,1,none⟩ = some (.int .i64 0) := ja hrs 1 rfl
 have hlW := jb hln
 have hrW := jb hrs
 have HW := jH hW
 have HLN := jH hln
 have HB0 : Hid ((W.alloc (.cells #[.bool false,.int .i64 0] 78 (0,0))).drew.heap[W.heap.size]? = some (.cells #[.bool false,.int .i64 0] 78 (0,0))) := jg W _
 have HLNB : Hid ((W.alloc (.cells #[.bool false,.int .i64 0] 78 (0,0))).drew.heap[w.heap.size]? = some (.cells #[.int .i64 20,.int .i64 q,.int .i64 x,.int .i64 y,.int .i64 p] 116 (0,0))) := jc hln ((Below.refl W.heap.size W).alloc jN _).drew (jb hln)
 have HLND : Hid (W.drew.heap[w.heap.size]? = some (.cells #[.int .i64 20,.int .i64 q,.int .i64 x,.int .i64 y,.int .i64 p] 116 (0,0))) := hln
 have HWB : Hid (Below w.heap.size w (W.alloc (.cells #[.bool false,.int .i64 0] 78 (0,0))).drew) := (hW.alloc hW.size _).drew
 clear hW hln hrs
 go_cut [8,9] (fun s8 s9 wx => After s κ w r X fr z0 x ((y : Nat)) #[.int .i64 20,.int .i64 q,.int .i64 x,.int .i64 y,.int .i64 p] s8 s9 wx)
 case first =>
  go_region_with (first
   | (go_at_call 84;refine (CB.out _ (H.out.on HW.out.drew)).mono ?_;rintro _ w3 ⟨ok,a,κ3,rfl,hf3,h3⟩;have H3 := jH h3;have HF3 := jH (Fr0.trans (Fr.of HW.out.drew) hf3);have HLN3 := jH (hf3.blk HLND.out (HTOP.out _ jN));have HK3 := jH (hf3.none HLND.out (HTOP.out _ jN));clear h3 hf3)
   | (go_at_call 84;go_loud (refine (CB.out _ (H.out.on HWB.out)).mono ?_;rintro _ w3 ⟨ok,a,κ3,rfl,hf3,h3⟩;have H3 := jH h3;have HF3 := jH (Fr0.trans (Fr.of HWB.out) hf3);have hbx3 := hf3.blk HB0.out (HTOP.out _ HW.out.size);have HBX3 := jH hbx3;obtain ⟨t0,t1,t3,t4,t5,t6⟩ := Jk hbx3;have ht7 := jb hbx3;have HLN3 := jH (hf3.blk HLNB.out (HTOP.out _ jN));have HK3 := jH (hf3.none HLNB.out (HTOP.out _ jN));have HKB := jH (hf3.none HB0.out (HTOP.out _ HW.out.size));clear h3 hf3 hbx3)))
  all_goals (try go_wp2_with fail)
  all_goals go_meet
  ·have hd : Had s r X fr z0 x ((y : Nat)) ok a κ3 w3 := H3.out
   have hA := (Below.refl w3.heap.size w3).alloc jN (.cells #[.bool ok,.int .i64 a] 78 (0,0))
   exact ⟨ok,a,w3.heap.size,κ3,rfl,rfl,jg _ _,jc HLN3.out hA (jb HLN3.out),Fr.al HF3.out _,hd.top _ jN,HK3.out,hd.map fun X h => h.on hA⟩
  all_goals
   have hd : Had s r X fr z0 x ((y : Nat)) ok a κ3 w3 := H3.out
   have hL : Lone W.heap.size w3 ((w3.setCell ⟨W.heap.size,0,none⟩ (.bool ok)).setCell ⟨W.heap.size,1,none⟩ (.int .i64 a)) := ((Lone.refl _ _).set 0 _).set 1 _
   exact ⟨ok,a,W.heap.size,κ3,rfl,rfl,JF HBX3.out _ _,(hL.rest _ (jb HLN3.out) (by omega)).trans HLN3.out,Fr.new HF3.out HW.out.size hL,HKB.out,HK3.out,hd.map fun X h => h.other (fun k i _ e => by rw [HKB.out] at e;cases e) hL⟩
 case rest =>
  obtain ⟨ok,a,bb,κ3,rfl,rfl,hbb,hl3,hf3,hk1,hk2,hd⟩ := hcut
  rename_i K hK
  refine hK _ _ ?_
  clear hK K
  have HF3 := jH hf3
  have HBB := jH hbb
  have HL3 := jH hl3
  obtain ⟨X1,hpre,⟨rfl,hlt1,hm⟩ | ⟨rfl,hle1,X2,hpt,hm⟩⟩ := hd
  ·have HM := jH hm
   have HL := jH hlt1
   have HP := jH hpre
   clear hm hlt1 hpre hf3 hbb hl3
   go_wp2_with (first
    | (go_at_call 81;refine (end_any HM.out 40 0).mono ?_;rintro _ w4 ⟨rfl,h4,f4⟩))
   go_returns
   exact ⟨X1,HP.out,.inl ⟨HL.out,rfl,κ3,h4,Fr0.trans HF3.out f4⟩⟩
  ·have HM := jH hm
   have HL := jH hle1
   have HP := jH hpre
   have HPT := jH hpt
   have v0 : wc.cell? ⟨bb,0,none⟩ = some (.bool true) := ja hbb 0 rfl
   have v1 : wc.cell? ⟨bb,1,none⟩ = some (.int .i64 a) := ja hbb 1 rfl
   have l1 : wc.cell? ⟨w.heap.size,1,none⟩ = some (.int .i64 q) := ja hl3 1 rfl
   have HK1 := jH hk1
   have HK2 := jH hk2
   clear hm hle1 hpre hpt hf3 hbb hl3 hk1 hk2
   go_wp2_with (first
    | (show wpList _ _ _ (Oper.mk none (Op.store 79 (.tmp 64) (.tmp 62)) _ _ _ _ :: _) _ _;refine jbp (op := ⟨none,Op.store 79 (.tmp 64) (.tmp 62),_,_,_,_⟩) HM.out.run { X2.x with g := fun _ => z0 } rfl _ (.tmp 64) (.tmp 62) rfl 6 #[.bool false,.int .i64 0,.bool false,.int .i64 0,.bool false,.int .i64 0,.bool false,.int .i64 0,.bool false,.int .i64 0,.bool false,.int .i64 0,.bool false,.int .i64 0,.bool false,.int .i64 0] rfl rfl (by decide) Tryz.kiRegs jcb (jca _) ?_;intro w6 hr6 hl6;have HM6 := jH (HM.out.upd hr6 hl6 rfl);have HF6 := jH (HM.out.low hl6);have hb6 := (HM.out.low hl6).blk HBB.out HK1.out;have hl66 := (HM.out.low hl6).blk HL3.out HK2.out;have v06 : w6.cell? ⟨bb,0,none⟩ = some (.bool true) := ja hb6 0 rfl;have v16 : w6.cell? ⟨bb,1,none⟩ = some (.int .i64 a) := ja hb6 1 rfl;have l16 : w6.cell? ⟨w.heap.size,1,none⟩ = some (.int .i64 q) := ja hl66 1 rfl;clear hr6 hl6 hb6 hl66)
    | (go_at_call 79;refine (J5 HM6.out hq (.b a)).mono ?_;rintro _ w4 ⟨rfl,h4,f4⟩))
   go_returns
   exact ⟨X1,HP.out,.inr ⟨HL.out,a,X2,HPT.out,rfl,κ3,h4,Fr0.trans (Fr0.trans HF3.out HF6.out) f4⟩⟩
set_option maxRecDepth 100000 in
theorem jl6 (h : RM s w r κ X) {q x y p n : Nat} {fr : List Fm} {v : V} (hq : q < 8) (hx : x < 8) (hy : y < 8) (hgx : X.x.g x = .n (n : Nat)) (hgy : X.x.g y = v) (hn : n <= 32) (hb : Mkb X fr v n) :
 Calls Tryz.prog 54 #[.pointer (some ⟨r,0,none⟩),.agg #[.int .i64 23,.int .i64 q,.int .i64 x,.int .i64 y,.int .i64 p]] w (MkP s κ w r X fr v n (-1) q) := by
 have H := jH h
 have hlt := h.lt
 have HTOP := jH h.top
 have CB : Hid (∀ W,RM s W r κ X -> Calls Tryz.prog 84 #[.pointer (some ⟨r,23,none⟩),.int .i64 n,.int .i64 (-1),.agg #[.bool (vb v),.int .i64 (vi v)]] W fun e w' => NbQ s κ W r X fr v n (-1) e w') := fun W hW => (jda hW hb.gc hb.n hb.half hb.free).mono fun e w' => nbq
 have CX := jbz h hx hgx
 have CY := jZ h hy hgy
 have g9 : decide ((n : Int) < 0) = false := by simp
 have g8 : decide ((32 : Int) < (n : Int)) = false := by simp;omega
 clear h hb hgx hgy
 go_enter Tryz.func54,Tryz.ntmps54
 go_upto_region 14 with (first
  | (go_at_call_of 80 x;refine (CX.out _ (jab _ _)).mono ?_;rintro _ w1 ⟨rfl,hb1⟩;have hln1 := jc (jc (jg w (.cells #[.int .i64 23,.int .i64 q,.int .i64 x,.int .i64 y,.int .i64 p] 116 (0,0))) ((Below.refl (w.alloc _).heap.size (w.alloc _)).alloc jN (.cells #[.bool false,.int .i64 0] 78 (0,0))) (by simp)) hb1 (by simp;omega);have l3w1 : w1.cell? ⟨w.heap.size,3,none⟩ = some (.int .i64 y) := ja hln1 3 rfl;have hs1 := jb hln1;have hrs1 := J0 hb1;have hs2 := jb hrs1)
  | (go_at_call 80;refine (CY.out _ ((Jg hb1).alloc (Jg hb1).size _)).mono ?_;rintro _ w2 ⟨rfl,hb2⟩;have hrs2 := jc hrs1 (jp hb2) hs2;obtain ⟨t0,t1,t3,t4,t5,t6⟩ := Jk hrs2;have HRS2 := jH hrs2;have HLN2 := jH (jc hln1 (jp hb2) hs1);have hs3 := jb hrs2;clear hrs2))
 have hB2 : Below w.heap.size w w2 := (Jg hb1).trans ((jp hb2).mono (Jg hb1).size)
 have hW := jaL (b := w.heap.size + 1) hB2 (Nat.le_succ _) (.bool (vb v)) (.int .i64 (vi v))
 have hL : Lone (w.heap.size + 1) w2 ((w2.setCell ⟨w.heap.size + 1,0,none⟩ (.bool (vb v))).setCell ⟨w.heap.size + 1,1,none⟩ (.int .i64 (vi v))) := ((Lone.refl _ _).set 0 _).set 1 _
 have hln := (hL.rest _ (jb HLN2.out) (by omega)).trans HLN2.out
 have hrs := JF HRS2.out (.bool (vb v)) (.int .i64 (vi v))
 generalize (w2.setCell ⟨w.heap.size + 1,0,none⟩ (.bool (vb v))).setCell ⟨w.heap.size + 1,1,none⟩ (.int .i64 (vi v)) = W at hW hln hrs ⊢
 clear hL hB2 t0 t1 t3 t4 t5 t6 hln1 hrs1
 have r0 : W.cell? ⟨w.heap.size + 1,0,none⟩ = some (.bool (vb v)) := ja hrs 0 rfl
 have r1 : W.cell? ⟨w.heap.size + 1,1,none⟩ = some (.int .i64 (vi v)) := ja hrs 1 rfl
 have hlW := jb hln
 have hrW := jb hrs
 have HW := jH hW
 have HLN := jH hln
 have HB0 : Hid ((W.alloc (.cells #[.bool false,.int .i64 0] 78 (0,0))).drew.heap[W.heap.size]? = some (.cells #[.bool false,.int .i64 0] 78 (0,0))) := jg W _
 have HLNB : Hid ((W.alloc (.cells #[.bool false,.int .i64 0] 78 (0,0))).drew.heap[w.heap.size]? = some (.cells #[.int .i64 23,.int .i64 q,.int .i64 x,.int .i64 y,.int .i64 p] 116 (0,0))) := jc hln ((Below.refl W.heap.size W).alloc jN _).drew (jb hln)
 have HLND : Hid (W.drew.heap[w.heap.size]? = some (.cells #[.int .i64 23,.int .i64 q,.int .i64 x,.int .i64 y,.int .i64 p] 116 (0,0))) := hln
 have HWB : Hid (Below w.heap.size w (W.alloc (.cells #[.bool false,.int .i64 0] 78 (0,0))).drew) := (hW.alloc hW.size _).drew
 clear hW hln hrs
 go_cut [8,9] (fun s8 s9 wx => After s κ w r X fr v n (-1) #[.int .i64 23,.int .i64 q,.int .i64 x,.int .i64 y,.int .i64 p] s8 s9 wx)
 case first =>
  go_region_with (first
   | (go_at_call 84;refine (CB.out _ (H.out.on HW.out.drew)).mono ?_;rintro _ w3 ⟨ok,a,κ3,rfl,hf3,h3⟩;have H3 := jH h3;have HF3 := jH (Fr0.trans (Fr.of HW.out.drew) hf3);have HLN3 := jH (hf3.blk HLND.out (HTOP.out _ jN));have HK3 := jH (hf3.none HLND.out (HTOP.out _ jN));clear h3 hf3)
   | (go_at_call 84;go_loud (refine (CB.out _ (H.out.on HWB.out)).mono ?_;rintro _ w3 ⟨ok,a,κ3,rfl,hf3,h3⟩;have H3 := jH h3;have HF3 := jH (Fr0.trans (Fr.of HWB.out) hf3);have hbx3 := hf3.blk HB0.out (HTOP.out _ HW.out.size);have HBX3 := jH hbx3;obtain ⟨t0,t1,t3,t4,t5,t6⟩ := Jk hbx3;have ht7 := jb hbx3;have HLN3 := jH (hf3.blk HLNB.out (HTOP.out _ jN));have HK3 := jH (hf3.none HLNB.out (HTOP.out _ jN));have HKB := jH (hf3.none HB0.out (HTOP.out _ HW.out.size));clear h3 hf3 hbx3)))
  all_goals (try go_wp2_with fail)
  all_goals go_meet
  ·have hd : Had s r X fr v n (-1) ok a κ3 w3 := H3.out
   have hA := (Below.refl w3.heap.size w3).alloc jN (.cells #[.bool ok,.int .i64 a] 78 (0,0))
   exact ⟨ok,a,w3.heap.size,κ3,rfl,rfl,jg _ _,jc HLN3.out hA (jb HLN3.out),Fr.al HF3.out _,hd.top _ jN,HK3.out,hd.map fun X h => h.on hA⟩
  all_goals
   have hd : Had s r X fr v n (-1) ok a κ3 w3 := H3.out
   have hL : Lone W.heap.size w3 ((w3.setCell ⟨W.heap.size,0,none⟩ (.bool ok)).setCell ⟨W.heap.size,1,none⟩ (.int .i64 a)) := ((Lone.refl _ _).set 0 _).set 1 _
   exact ⟨ok,a,W.heap.size,κ3,rfl,rfl,JF HBX3.out _ _,(hL.rest _ (jb HLN3.out) (by omega)).trans HLN3.out,Fr.new HF3.out HW.out.size hL,HKB.out,HK3.out,hd.map fun X h => h.other (fun k i _ e => by rw [HKB.out] at e;cases e) hL⟩
 case rest =>
  obtain ⟨ok,a,bb,κ3,rfl,rfl,hbb,hl3,hf3,hk1,hk2,hd⟩ := hcut
  rename_i K hK
  refine hK _ _ ?_
  clear hK K
  have HF3 := jH hf3
  have HBB := jH hbb
  have HL3 := jH hl3
  obtain ⟨X1,hpre,⟨rfl,hlt1,hm⟩ | ⟨rfl,hle1,X2,hpt,hm⟩⟩ := hd
  ·have HM := jH hm
   have HL := jH hlt1
   have HP := jH hpre
   clear hm hlt1 hpre hf3 hbb hl3
   go_wp2_with (first
    | (go_at_call 81;refine (end_any HM.out 40 0).mono ?_;rintro _ w4 ⟨rfl,h4,f4⟩))
   go_returns
   exact ⟨X1,HP.out,.inl ⟨HL.out,rfl,κ3,h4,Fr0.trans HF3.out f4⟩⟩
  ·have HM := jH hm
   have HL := jH hle1
   have HP := jH hpre
   have HPT := jH hpt
   have v0 : wc.cell? ⟨bb,0,none⟩ = some (.bool true) := ja hbb 0 rfl
   have v1 : wc.cell? ⟨bb,1,none⟩ = some (.int .i64 a) := ja hbb 1 rfl
   have l1 : wc.cell? ⟨w.heap.size,1,none⟩ = some (.int .i64 q) := ja hl3 1 rfl
   have HK1 := jH hk1
   have HK2 := jH hk2
   clear hm hle1 hpre hpt hf3 hbb hl3 hk1 hk2
   go_wp2_with (first
    | (show wpList _ _ _ (Oper.mk none (Op.store 79 (.tmp 64) (.tmp 62)) _ _ _ _ :: _) _ _;refine jbp (op := ⟨none,Op.store 79 (.tmp 64) (.tmp 62),_,_,_,_⟩) HM.out.run { X2.x with g := fun _ => z0 } rfl _ (.tmp 64) (.tmp 62) rfl 6 #[.bool false,.int .i64 0,.bool false,.int .i64 0,.bool false,.int .i64 0,.bool false,.int .i64 0,.bool false,.int .i64 0,.bool false,.int .i64 0,.bool false,.int .i64 0,.bool false,.int .i64 0] rfl rfl (by decide) Tryz.kiRegs jcb (jca _) ?_;intro w6 hr6 hl6;have HM6 := jH (HM.out.upd hr6 hl6 rfl);have HF6 := jH (HM.out.low hl6);have hb6 := (HM.out.low hl6).blk HBB.out HK1.out;have hl66 := (HM.out.low hl6).blk HL3.out HK2.out;have v06 : w6.cell? ⟨bb,0,none⟩ = some (.bool true) := ja hb6 0 rfl;have v16 : w6.cell? ⟨bb,1,none⟩ = some (.int .i64 a) := ja hb6 1 rfl;have l16 : w6.cell? ⟨w.heap.size,1,none⟩ = some (.int .i64 q) := ja hl66 1 rfl;clear hr6 hl6 hb6 hl66)
    | (go_at_call 79;refine (J5 HM6.out hq (.b a)).mono ?_;rintro _ w4 ⟨rfl,h4,f4⟩))
   go_returns
   exact ⟨X1,HP.out,.inr ⟨HL.out,a,X2,HPT.out,rfl,κ3,h4,Fr0.trans (Fr0.trans HF3.out HF6.out) f4⟩⟩
set_option maxRecDepth 100000 in
theorem jl5 (h : RM s w r κ X) {q x y p : Nat} {i : Nat} (hx : x < 8) (hgx : X.x.g x = .b i) :
 Calls Tryz.prog 54 #[.pointer (some ⟨r,0,none⟩),.agg #[.int .i64 23,.int .i64 q,.int .i64 x,.int .i64 y,.int .i64 p]] w (EnP κ w r X 50 0) := by
 have H := jH h
 have CX := jc4 h hx hgx
 clear h hgx
 go_enter Tryz.func54,Tryz.ntmps54
 go_wp2_with (first
  | (go_at_call 80;refine (CX.out _ (jab _ _)).mono ?_;rintro _ w1 ⟨rfl,hb1⟩;have hln1 := jc (jc (jg w (.cells #[.int .i64 23,.int .i64 q,.int .i64 x,.int .i64 y,.int .i64 p] 116 (0,0))) ((Below.refl (w.alloc _).heap.size (w.alloc _)).alloc jN (.cells #[.bool false,.int .i64 0] 78 (0,0))) (by simp)) hb1 (by simp;omega);have l4w1 : w1.cell? ⟨w.heap.size,4,none⟩ = some (.int .i64 p) := ja hln1 4 rfl;have hs1 := jb hln1)
  | (go_at_call 60;refine (JP (H.out.on ((Jg hb1).alloc (Jg hb1).size _))).mono ?_;rintro _ w3 ⟨rfl,h3,f3⟩))
 go_returns
 exact ⟨rfl,κ,h3,Fr0.trans (Fr.of ((Jg hb1).alloc (Jg hb1).size _)) f3⟩
set_option maxRecDepth 100000 in
theorem jl4 (h : RM s w r κ X) {q x y p : Nat} {z : Int} (hx : x < 8) (hgx : X.x.g x = .n z) (hz : z < 0 \/ 32 < z) :
 Calls Tryz.prog 54 #[.pointer (some ⟨r,0,none⟩),.agg #[.int .i64 23,.int .i64 q,.int .i64 x,.int .i64 y,.int .i64 p]] w (EnP κ w r X 31 p) := by
 have H := jH h
 have CX := jbz h hx hgx
 clear h hgx
 by_cases hz0 : z < 0
 ·have g9 : decide (z < 0) = true := by simpa using hz0
  go_enter Tryz.func54,Tryz.ntmps54
  go_wp2_with (first
   | (go_at_call 80;refine (CX.out _ (jab _ _)).mono ?_;rintro _ w1 ⟨rfl,hb1⟩;have hln1 := jc (jc (jg w (.cells #[.int .i64 23,.int .i64 q,.int .i64 x,.int .i64 y,.int .i64 p] 116 (0,0))) ((Below.refl (w.alloc _).heap.size (w.alloc _)).alloc jN (.cells #[.bool false,.int .i64 0] 78 (0,0))) (by simp)) hb1 (by simp;omega);have l4w1 : w1.cell? ⟨w.heap.size,4,none⟩ = some (.int .i64 p) := ja hln1 4 rfl;have hs1 := jb hln1)
   | (go_at_call 81;refine (end_any (H.out.on ((Jg hb1).alloc (Jg hb1).size _)) 31 p).mono ?_;rintro _ w3 ⟨rfl,h3,f3⟩))
  go_returns
  exact ⟨rfl,κ,h3,Fr0.trans (Fr.of ((Jg hb1).alloc (Jg hb1).size _)) f3⟩
 ·have g9 : decide (z < 0) = false := by simpa using hz0
  have g8 : decide ((32 : Int) < z) = true := by simp;omega
  go_enter Tryz.func54,Tryz.ntmps54
  go_wp2_with (first
   | (go_at_call 80;refine (CX.out _ (jab _ _)).mono ?_;rintro _ w1 ⟨rfl,hb1⟩;have hln1 := jc (jc (jg w (.cells #[.int .i64 23,.int .i64 q,.int .i64 x,.int .i64 y,.int .i64 p] 116 (0,0))) ((Below.refl (w.alloc _).heap.size (w.alloc _)).alloc jN (.cells #[.bool false,.int .i64 0] 78 (0,0))) (by simp)) hb1 (by simp;omega);have l4w1 : w1.cell? ⟨w.heap.size,4,none⟩ = some (.int .i64 p) := ja hln1 4 rfl;have hs1 := jb hln1)
   | (go_at_call 81;refine (end_any (H.out.on ((Jg hb1).alloc (Jg hb1).size _)) 31 p).mono ?_;rintro _ w3 ⟨rfl,h3,f3⟩))
  go_returns
  exact ⟨rfl,κ,h3,Fr0.trans (Fr.of ((Jg hb1).alloc (Jg hb1).size _)) f3⟩
def onS (X : St) : St := { X with x := { X.x with steps := X.x.steps + 1,next := X.x.next + 1 } }
theorem Tryz.kiLn : (Tryz.prog.info? 116).map (·.size) = some 5 := by kernel_rfl
structure Ln (s : ByteArray) (pc op q x y p : Nat) : Prop where
 lt : pc < hL s
 e0 : l0 s pc = op
 e1 : l1 s pc = q
 e2 : l2 s pc = x
 e3 : l3 s pc = y
 e4 : l4 s pc = p
set_option maxRecDepth 100000 in
theorem jao (h : RM s w r κ X) {op q x y p : Nat} (hn : Ln s X.x.next op q x y p) (hst : X.x.steps <= 1000000) {Q : World -> Ending -> World -> Prop} (hQ : Good κ Q) {fn : Nat} {args : Array Value} (hC : ∀ W,RM s W r κ (onS X) -> Calls Tryz.prog fn args W (Q W)) (hk : ((1 <= op /\ op <= 6) /\ fn = 51 /\ args = #[.pointer (some ⟨r,0,none⟩),.agg #[.int .i64 op,.int .i64 q,.int .i64 x,.int .i64 y,.int .i64 p]]) \/ ((7 <= op /\ op <= 16) /\ fn = 52 /\ args = #[.pointer (some ⟨r,0,none⟩),.agg #[.int .i64 op,.int .i64 q,.int .i64 x,.int .i64 y,.int .i64 p]]) \/ ((op = 17 \/ op = 18) /\ fn = 53 /\ args = #[.pointer (some ⟨r,0,none⟩),.agg #[.int .i64 op,.int .i64 q,.int .i64 x,.int .i64 y,.int .i64 p]]) \/ ((op = 19 \/ op = 20 \/ op = 23) /\ fn = 54 /\ args = #[.pointer (some ⟨r,0,none⟩),.agg #[.int .i64 op,.int .i64 q,.int .i64 x,.int .i64 y,.int .i64 p]]) \/ ((21 <= op /\ op <= 26 /\ op ≠ 23) /\ fn = 55 /\ args = #[.pointer (some ⟨r,0,none⟩),.agg #[.int .i64 op,.int .i64 q,.int .i64 x,.int .i64 y,.int .i64 p]]) \/ ((op = 27) /\ fn = 56 /\ args = #[.pointer (some ⟨r,0,none⟩),.agg #[.int .i64 op,.int .i64 q,.int .i64 x,.int .i64 y,.int .i64 p]]) \/ ((op = 28) /\ fn = 57 /\ args = #[.pointer (some ⟨r,0,none⟩),.agg #[.int .i64 op,.int .i64 q,.int .i64 x,.int .i64 y,.int .i64 p]]) \/ ((29 <= op /\ op <= 32) /\ fn = 58 /\ args = #[.pointer (some ⟨r,0,none⟩),.agg #[.int .i64 op,.int .i64 q,.int .i64 x,.int .i64 y,.int .i64 p]]) \/ ((op = 33) /\ fn = 59 /\ args = #[.pointer (some ⟨r,0,none⟩)])) :
 Calls Tryz.prog 26 #[.pointer (some ⟨r,0,none⟩)] w (Q w) := by
 have HK := jH hk
 clear hk
 have H := jH h
 have HQ := jH hQ
 have HC := jH hC
 have hLl : hL s < 65536 := ju _ _
 have hpl := hn.lt
 have hlt := h.lt
 obtain ⟨N,hN⟩ : ∃ N,X.x.next = N := ⟨_,rfl⟩
 obtain ⟨S,hS⟩ : ∃ S,X.x.steps = S := ⟨_,rfl⟩
 have c33 : w.cell? ⟨r,33,none⟩ = some (.int .i64 S) := by rw [<- hS];exact ja h.run 33 rfl
 have z33 := je h.run 33
 obtain ⟨k0,k1,k2,c0,c1,c2,_,_,hK⟩ := jcB h
 have hcS : (((S + 1 : Nat)) : Int) = (S : Int) + 1 := by omega
 have hcN : (((N + 1 : Nat)) : Int) = (N : Int) + 1 := by omega
 have hm1 : RM s (w.setCell ⟨r,33,none⟩ (.int .i64 ((S : Int) + 1))) r κ { X with x := { X.x with steps := X.x.steps + 1 } } := h.upd (x' := { X.x with steps := X.x.steps + 1 }) (by rw [<- hcS,<- hS];exact jf h.run 33 _) ((Lone.refl _ _).set 33 _) rfl
 have hf1 := h.low ((Lone.refl r w).set 33 (.int .i64 ((S : Int) + 1)))
 obtain ⟨X1,hX1⟩ : ∃ X1 : St,X1 = { X with x := { X.x with steps := X.x.steps + 1 } } := ⟨_,rfl⟩
 rw [<- hX1] at hm1
 have hn1 : X1.x.next = N := by rw [hX1];exact hN
 obtain ⟨k0,k1,k2,c0,c1,c2,_,_,hK⟩ := jcB hm1
 rw [hN] at hn hpl
 have CL : Hid (∀ W',Below (w.setCell ⟨r,33,none⟩ (.int .i64 ((S : Int) + 1))).heap.size (w.setCell ⟨r,33,none⟩ (.int .i64 ((S : Int) + 1))) W' -> Calls Tryz.prog 50 #[.agg #[k0,k1,k2],.int .i64 N] W' fun e w' => e = .returned (.agg #[.int .i64 op,.int .i64 q,.int .i64 x,.int .i64 y,.int .i64 p]) /\ Below W'.heap.size W' w') := fun W' hW => by have := hK N hpl W' hW;rw [hn.e0,hn.e1,hn.e2,hn.e3,hn.e4] at this;exact this
 have c5 : (w.setCell ⟨r,33,none⟩ (.int .i64 ((S : Int) + 1))).cell? ⟨r,5,none⟩ = some (.int .i64 N) := by rw [<- hn1];exact ja hm1.run 5 rfl
 have HM1 := jH hm1
 have HF1 := jH hf1
 have HX1 := jH hX1
 have HN1 := jH hn1
 have HCN := jH hcN
 have hrl := hm1.lt
 rw [hS] at hst
 have hNb : N <= 70000 := by omega
 clear h hQ hC hN hS hcS hcN hm1 hf1 hX1 hn1 hn hK hpl hLl
 go_enter Tryz.func26,Tryz.ntmps26
 go_upto_region 1 with fail
 generalize w.setCell ⟨r,33,none⟩ (.int .i64 ((S : Int) + 1)) = W at HM1 HF1 CL c0 c1 c2 c5 hrl ⊢
 have d0 : ∀ yy : Wd W.heap.size W,yy.v.cell? ⟨r,0,none⟩ = some k0 := fun yy => (yy.h.cell (p := ⟨r,0,none⟩) hrl).trans c0
 have d1 : ∀ yy : Wd W.heap.size W,yy.v.cell? ⟨r,1,none⟩ = some k1 := fun yy => (yy.h.cell (p := ⟨r,1,none⟩) hrl).trans c1
 have d2 : ∀ yy : Wd W.heap.size W,yy.v.cell? ⟨r,2,none⟩ = some k2 := fun yy => (yy.h.cell (p := ⟨r,2,none⟩) hrl).trans c2
 have d5 : ∀ yy : Wd W.heap.size W,yy.v.cell? ⟨r,5,none⟩ = some (.int .i64 N) := fun yy => (yy.h.cell (p := ⟨r,5,none⟩) hrl).trans c5
 haveI := Wd.ne
 clear c0 c1 c2 c5 c33 z33
 refine jbo 10 9 2 (.cells #[.int .i64 0,.int .i64 0,.int .i64 0,.int .i64 0,.int .i64 0] 116 (0,0)) _ (by kernel_rfl) (by kernel_rfl) (by kernel_rfl) (by decide) rfl rfl rfl ?_
 simp only [TkD]
 iterate 8
  apply jd (by decide) (by rfl)
  ·intro yy;go_simp;all_goals with_reducible rfl
  simp only [Act.put,SsT]
 refine jd (by decide) (by rfl) (v := ?v8) ?hv8 ?_
 case hv8 => (intro yy;go_simp;exact CL.out _ yy.h)
 simp only [Act.put,SsT]
 refine Jh (by decide) (fun w => by kernel_rfl) ?_
 refine js ?_
 intro b yy hb hbk
 refine Jv hbk rfl 116 (.tmp 2) (.tmp 18) rfl #[.int .i64 op,.int .i64 q,.int .i64 x,.int .i64 y,.int .i64 p] rfl rfl rfl Tryz.kiLn (all_oneCell_toArray (by intro u hu;simp at hu;rcases hu with rfl | rfl | rfl | rfl | rfl <;> rfl)) ?_
 intro w2 hbk2 hlo
 have hbw2 : Below W.heap.size W w2 := yy.h.trans (hlo.below.mono hb)
 have hm2 := HM1.out.on hbw2
 have e5 : w2.cell? ⟨r,5,none⟩ = some (.int .i64 N) := by rw [<- HN1.out];exact ja hm2.run 5 rfl
 have z5 := je hm2.run 5
 have hkb : κ b = none := HM1.out.top b hb
 have hbr : b ≠ r := by intro e;subst e;have := hm2.self;rw [hkb] at this;cases this
 have hbr' : r ≠ b := Ne.symm hbr
 have hm3 : RM s (w2.setCell ⟨r,5,none⟩ (.int .i64 ((N : Int) + 1))) r κ (onS X) := by
  have h1 := hm2.upd (x' := { X1.x with next := X1.x.next + 1 }) (by rw [HN1.out];have := jf hm2.run 5 (.int .i64 ((N + 1 : Nat) : Int));rw [HCN.out] at this;exact this) ((Lone.refl _ _).set 5 (.int .i64 ((N : Int) + 1))) rfl
  rw [HX1.out] at h1
  exact h1
 have hf3 : Fr0 κ κ w (w2.setCell ⟨r,5,none⟩ (.int .i64 ((N : Int) + 1))) := Fr0.trans (Fr0.trans HF1.out (Fr.of hbw2)) (hm2.low ((Lone.refl _ _).set 5 _))
 have hln : (w2.setCell ⟨r,5,none⟩ (.int .i64 ((N : Int) + 1))).heap[b]? = some (.cells #[.int .i64 op,.int .i64 q,.int .i64 x,.int .i64 y,.int .i64 p] 116 (0,0)) := (hm2.low ((Lone.refl _ _).set 5 (.int .i64 ((N : Int) + 1)))).blk hbk2 hkb
 have hs2 := jb hbk2
 clear hm2 hlo hbk
 go_upto_region 4 with fail
 have HM3 := jH hm3
 have HF3 := jH hf3
 generalize w2.setCell ⟨r,5,none⟩ (.int .i64 ((N : Int) + 1)) = W3 at HM3 HF3 hln ⊢
 have q0 : W3.cell? ⟨b,0,none⟩ = some (.int .i64 op) := ja hln 0 rfl
 have q1 : W3.cell? ⟨b,1,none⟩ = some (.int .i64 q) := ja hln 1 rfl
 have q2 : W3.cell? ⟨b,2,none⟩ = some (.int .i64 x) := ja hln 2 rfl
 have q3 : W3.cell? ⟨b,3,none⟩ = some (.int .i64 y) := ja hln 3 rfl
 have q4 : W3.cell? ⟨b,4,none⟩ = some (.int .i64 p) := ja hln 4 rfl
 clear hm3 hf3 hln hbk2 e5 z5
 rcases HK.out with ⟨hop,rfl,rfl⟩ | ⟨hop,rfl,rfl⟩ | ⟨hop,rfl,rfl⟩ | ⟨hop,rfl,rfl⟩ | ⟨hop,rfl,rfl⟩ | ⟨hop,rfl,rfl⟩ | ⟨hop,rfl,rfl⟩ | ⟨hop,rfl,rfl⟩ | ⟨hop,rfl,rfl⟩
 ·clear HK
  have a1 : decide ((1 : Int) <= (op : Int)) = true := by simp;omega
  have b6 : decide ((op : Int) <= (6 : Int)) = true := by simp;omega
  clear hop
  go_wp2_with (first
   | (go_at_call 51;refine (HC.out _ HM3.out).mono ?_;intro e4 w4 hq4;have he4 := HQ.out.ret _ _ _ hq4;subst he4))
  go_returns
  exact HQ.out.pre _ _ _ _ HF3.out hq4
 ·clear HK
  have a1 : decide ((1 : Int) <= (op : Int)) = true := by simp;omega
  have b6 : decide ((op : Int) <= (6 : Int)) = false := by simp;omega
  have a7 : decide ((7 : Int) <= (op : Int)) = true := by simp;omega
  have b16 : decide ((op : Int) <= (16 : Int)) = true := by simp;omega
  clear hop
  go_wp2_with (first
   | (go_at_call 52;refine (HC.out _ HM3.out).mono ?_;intro e4 w4 hq4;have he4 := HQ.out.ret _ _ _ hq4;subst he4))
  go_returns
  exact HQ.out.pre _ _ _ _ HF3.out hq4
 ·clear HK
  have a1 : decide ((1 : Int) <= (op : Int)) = true := by simp;omega
  have b6 : decide ((op : Int) <= (6 : Int)) = false := by simp;omega
  have a7 : decide ((7 : Int) <= (op : Int)) = true := by simp;omega
  have b16 : decide ((op : Int) <= (16 : Int)) = false := by simp;omega
  rcases hop with rfl | rfl
  all_goals
   go_wp2_with (first
    | (go_at_call 53;refine (HC.out _ HM3.out).mono ?_;intro e4 w4 hq4;have he4 := HQ.out.ret _ _ _ hq4;subst he4))
   go_returns
   exact HQ.out.pre _ _ _ _ HF3.out hq4
 ·clear HK
  have a1 : decide ((1 : Int) <= (op : Int)) = true := by simp;omega
  have b6 : decide ((op : Int) <= (6 : Int)) = false := by simp;omega
  have a7 : decide ((7 : Int) <= (op : Int)) = true := by simp;omega
  have b16 : decide ((op : Int) <= (16 : Int)) = false := by simp;omega
  have c17 : ((op : Int) == 17) = false := by simp;omega
  have c18 : ((op : Int) == 18) = false := by simp;omega
  rcases hop with rfl | rfl | rfl
  all_goals
   go_wp2_with (first
    | (go_at_call 54;refine (HC.out _ HM3.out).mono ?_;intro e4 w4 hq4;have he4 := HQ.out.ret _ _ _ hq4;subst he4))
   go_returns
   exact HQ.out.pre _ _ _ _ HF3.out hq4
 ·clear HK
  have a1 : decide ((1 : Int) <= (op : Int)) = true := by simp;omega
  have b6 : decide ((op : Int) <= (6 : Int)) = false := by simp;omega
  have a7 : decide ((7 : Int) <= (op : Int)) = true := by simp;omega
  have b16 : decide ((op : Int) <= (16 : Int)) = false := by simp;omega
  have c17 : ((op : Int) == 17) = false := by simp;omega
  have c18 : ((op : Int) == 18) = false := by simp;omega
  have c19 : ((op : Int) == 19) = false := by simp;omega
  have c20 : ((op : Int) == 20) = false := by simp;omega
  have c23 : ((op : Int) == 23) = false := by simp;omega
  have a21 : decide ((21 : Int) <= (op : Int)) = true := by simp;omega
  have b26 : decide ((op : Int) <= (26 : Int)) = true := by simp;omega
  clear hop
  go_wp2_with (first
   | (go_at_call 55;refine (HC.out _ HM3.out).mono ?_;intro e4 w4 hq4;have he4 := HQ.out.ret _ _ _ hq4;subst he4))
  go_returns
  exact HQ.out.pre _ _ _ _ HF3.out hq4
 ·clear HK
  have a1 : decide ((1 : Int) <= (op : Int)) = true := by simp;omega
  have b6 : decide ((op : Int) <= (6 : Int)) = false := by simp;omega
  have a7 : decide ((7 : Int) <= (op : Int)) = true := by simp;omega
  have b16 : decide ((op : Int) <= (16 : Int)) = false := by simp;omega
  have c17 : ((op : Int) == 17) = false := by simp;omega
  have c18 : ((op : Int) == 18) = false := by simp;omega
  have c19 : ((op : Int) == 19) = false := by simp;omega
  have c20 : ((op : Int) == 20) = false := by simp;omega
  have c23 : ((op : Int) == 23) = false := by simp;omega
  have a21 : decide ((21 : Int) <= (op : Int)) = true := by simp;omega
  have b26 : decide ((op : Int) <= (26 : Int)) = false := by simp;omega
  have c27 : ((op : Int) == 27) = true := by simp;omega
  clear hop
  go_wp2_with (first
   | (go_at_call 56;refine (HC.out _ HM3.out).mono ?_;intro e4 w4 hq4;have he4 := HQ.out.ret _ _ _ hq4;subst he4))
  go_returns
  exact HQ.out.pre _ _ _ _ HF3.out hq4
 ·clear HK
  have a1 : decide ((1 : Int) <= (op : Int)) = true := by simp;omega
  have b6 : decide ((op : Int) <= (6 : Int)) = false := by simp;omega
  have a7 : decide ((7 : Int) <= (op : Int)) = true := by simp;omega
  have b16 : decide ((op : Int) <= (16 : Int)) = false := by simp;omega
  have c17 : ((op : Int) == 17) = false := by simp;omega
  have c18 : ((op : Int) == 18) = false := by simp;omega
  have c19 : ((op : Int) == 19) = false := by simp;omega
  have c20 : ((op : Int) == 20) = false := by simp;omega
  have c23 : ((op : Int) == 23) = false := by simp;omega
  have a21 : decide ((21 : Int) <= (op : Int)) = true := by simp;omega
  have b26 : decide ((op : Int) <= (26 : Int)) = false := by simp;omega
  have c27 : ((op : Int) == 27) = false := by simp;omega
  have c28 : ((op : Int) == 28) = true := by simp;omega
  clear hop
  go_wp2_with (first
   | (go_at_call 57;refine (HC.out _ HM3.out).mono ?_;intro e4 w4 hq4;have he4 := HQ.out.ret _ _ _ hq4;subst he4))
  go_returns
  exact HQ.out.pre _ _ _ _ HF3.out hq4
 ·clear HK
  have a1 : decide ((1 : Int) <= (op : Int)) = true := by simp;omega
  have b6 : decide ((op : Int) <= (6 : Int)) = false := by simp;omega
  have a7 : decide ((7 : Int) <= (op : Int)) = true := by simp;omega
  have b16 : decide ((op : Int) <= (16 : Int)) = false := by simp;omega
  have c17 : ((op : Int) == 17) = false := by simp;omega
  have c18 : ((op : Int) == 18) = false := by simp;omega
  have c19 : ((op : Int) == 19) = false := by simp;omega
  have c20 : ((op : Int) == 20) = false := by simp;omega
  have c23 : ((op : Int) == 23) = false := by simp;omega
  have a21 : decide ((21 : Int) <= (op : Int)) = true := by simp;omega
  have b26 : decide ((op : Int) <= (26 : Int)) = false := by simp;omega
  have c27 : ((op : Int) == 27) = false := by simp;omega
  have c28 : ((op : Int) == 28) = false := by simp;omega
  have a29 : decide ((29 : Int) <= (op : Int)) = true := by simp;omega
  have b32 : decide ((op : Int) <= (32 : Int)) = true := by simp;omega
  clear hop
  go_wp2_with (first
   | (go_at_call 58;refine (HC.out _ HM3.out).mono ?_;intro e4 w4 hq4;have he4 := HQ.out.ret _ _ _ hq4;subst he4))
  go_returns
  exact HQ.out.pre _ _ _ _ HF3.out hq4
 ·clear HK
  have a1 : decide ((1 : Int) <= (op : Int)) = true := by simp;omega
  have b6 : decide ((op : Int) <= (6 : Int)) = false := by simp;omega
  have a7 : decide ((7 : Int) <= (op : Int)) = true := by simp;omega
  have b16 : decide ((op : Int) <= (16 : Int)) = false := by simp;omega
  have c17 : ((op : Int) == 17) = false := by simp;omega
  have c18 : ((op : Int) == 18) = false := by simp;omega
  have c19 : ((op : Int) == 19) = false := by simp;omega
  have c20 : ((op : Int) == 20) = false := by simp;omega
  have c23 : ((op : Int) == 23) = false := by simp;omega
  have a21 : decide ((21 : Int) <= (op : Int)) = true := by simp;omega
  have b26 : decide ((op : Int) <= (26 : Int)) = false := by simp;omega
  have c27 : ((op : Int) == 27) = false := by simp;omega
  have c28 : ((op : Int) == 28) = false := by simp;omega
  have a29 : decide ((29 : Int) <= (op : Int)) = true := by simp;omega
  have b32 : decide ((op : Int) <= (32 : Int)) = false := by simp;omega
  have c33 : ((op : Int) == 33) = true := by simp;omega
  clear hop
  go_wp2_with (first
   | (go_at_call 59;refine (HC.out _ HM3.out).mono ?_;intro e4 w4 hq4;have he4 := HQ.out.ret _ _ _ hq4;subst he4))
  go_returns
  exact HQ.out.pre _ _ _ _ HF3.out hq4
theorem ja9 (h : RM s w r κ X) {op q x y p : Nat} (hn : Ln s X.x.next op q x y p) (hop : 1 <= op /\ op <= 6) (hst : X.x.steps <= 1000000) {Q : World -> Ending -> World -> Prop} (hQ : Good κ Q) (hC : ∀ W,RM s W r κ (onS X) -> Calls Tryz.prog 51 #[.pointer (some ⟨r,0,none⟩),.agg #[.int .i64 op,.int .i64 q,.int .i64 x,.int .i64 y,.int .i64 p]] W (Q W)) :
 Calls Tryz.prog 26 #[.pointer (some ⟨r,0,none⟩)] w (Q w) := jao h hn hst hQ hC (.inl ⟨hop,rfl,rfl⟩)
theorem jd0 (h : RM s w r κ X) {op q x y p : Nat} (hn : Ln s X.x.next op q x y p) (hop : 7 <= op /\ op <= 16) (hst : X.x.steps <= 1000000) {Q : World -> Ending -> World -> Prop} (hQ : Good κ Q) (hC : ∀ W,RM s W r κ (onS X) -> Calls Tryz.prog 52 #[.pointer (some ⟨r,0,none⟩),.agg #[.int .i64 op,.int .i64 q,.int .i64 x,.int .i64 y,.int .i64 p]] W (Q W)) :
 Calls Tryz.prog 26 #[.pointer (some ⟨r,0,none⟩)] w (Q w) := jao h hn hst hQ hC (.inr (.inl ⟨hop,rfl,rfl⟩))
theorem jd1 (h : RM s w r κ X) {op q x y p : Nat} (hn : Ln s X.x.next op q x y p) (hop : op = 17 \/ op = 18) (hst : X.x.steps <= 1000000) {Q : World -> Ending -> World -> Prop} (hQ : Good κ Q) (hC : ∀ W,RM s W r κ (onS X) -> Calls Tryz.prog 53 #[.pointer (some ⟨r,0,none⟩),.agg #[.int .i64 op,.int .i64 q,.int .i64 x,.int .i64 y,.int .i64 p]] W (Q W)) :
 Calls Tryz.prog 26 #[.pointer (some ⟨r,0,none⟩)] w (Q w) := jao h hn hst hQ hC (.inr (.inr (.inl ⟨hop,rfl,rfl⟩)))
theorem jcW (h : RM s w r κ X) {op q x y p : Nat} (hn : Ln s X.x.next op q x y p) (hop : op = 19 \/ op = 20 \/ op = 23) (hst : X.x.steps <= 1000000) {Q : World -> Ending -> World -> Prop} (hQ : Good κ Q) (hC : ∀ W,RM s W r κ (onS X) -> Calls Tryz.prog 54 #[.pointer (some ⟨r,0,none⟩),.agg #[.int .i64 op,.int .i64 q,.int .i64 x,.int .i64 y,.int .i64 p]] W (Q W)) :
 Calls Tryz.prog 26 #[.pointer (some ⟨r,0,none⟩)] w (Q w) := jao h hn hst hQ hC (.inr (.inr (.inr (.inl ⟨hop,rfl,rfl⟩))))
theorem jbt (h : RM s w r κ X) {op q x y p : Nat} (hn : Ln s X.x.next op q x y p) (hop : 21 <= op /\ op <= 26 /\ op ≠ 23) (hst : X.x.steps <= 1000000) {Q : World -> Ending -> World -> Prop} (hQ : Good κ Q) (hC : ∀ W,RM s W r κ (onS X) -> Calls Tryz.prog 55 #[.pointer (some ⟨r,0,none⟩),.agg #[.int .i64 op,.int .i64 q,.int .i64 x,.int .i64 y,.int .i64 p]] W (Q W)) :
 Calls Tryz.prog 26 #[.pointer (some ⟨r,0,none⟩)] w (Q w) := jao h hn hst hQ hC (.inr (.inr (.inr (.inr (.inl ⟨hop,rfl,rfl⟩)))))
theorem jgl (h : RM s w r κ X) {op q x y p : Nat} (hn : Ln s X.x.next op q x y p) (hop : op = 27) (hst : X.x.steps <= 1000000) {Q : World -> Ending -> World -> Prop} (hQ : Good κ Q) (hC : ∀ W,RM s W r κ (onS X) -> Calls Tryz.prog 56 #[.pointer (some ⟨r,0,none⟩),.agg #[.int .i64 op,.int .i64 q,.int .i64 x,.int .i64 y,.int .i64 p]] W (Q W)) :
 Calls Tryz.prog 26 #[.pointer (some ⟨r,0,none⟩)] w (Q w) := jao h hn hst hQ hC (.inr (.inr (.inr (.inr (.inr (.inl ⟨hop,rfl,rfl⟩))))))
theorem jgm (h : RM s w r κ X) {op q x y p : Nat} (hn : Ln s X.x.next op q x y p) (hop : op = 28) (hst : X.x.steps <= 1000000) {Q : World -> Ending -> World -> Prop} (hQ : Good κ Q) (hC : ∀ W,RM s W r κ (onS X) -> Calls Tryz.prog 57 #[.pointer (some ⟨r,0,none⟩),.agg #[.int .i64 op,.int .i64 q,.int .i64 x,.int .i64 y,.int .i64 p]] W (Q W)) :
 Calls Tryz.prog 26 #[.pointer (some ⟨r,0,none⟩)] w (Q w) := jao h hn hst hQ hC (.inr (.inr (.inr (.inr (.inr (.inr (.inl ⟨hop,rfl,rfl⟩)))))))
theorem jb9 (h : RM s w r κ X) {op q x y p : Nat} (hn : Ln s X.x.next op q x y p) (hop : 29 <= op /\ op <= 32) (hst : X.x.steps <= 1000000) {Q : World -> Ending -> World -> Prop} (hQ : Good κ Q) (hC : ∀ W,RM s W r κ (onS X) -> Calls Tryz.prog 58 #[.pointer (some ⟨r,0,none⟩),.agg #[.int .i64 op,.int .i64 q,.int .i64 x,.int .i64 y,.int .i64 p]] W (Q W)) :
 Calls Tryz.prog 26 #[.pointer (some ⟨r,0,none⟩)] w (Q w) := jao h hn hst hQ hC (.inr (.inr (.inr (.inr (.inr (.inr (.inr (.inl ⟨hop,rfl,rfl⟩))))))))
theorem step_ret (h : RM s w r κ X) {op q x y p : Nat} (hn : Ln s X.x.next op q x y p) (hop : op = 33) (hst : X.x.steps <= 1000000) {Q : World -> Ending -> World -> Prop} (hQ : Good κ Q) (hC : ∀ W,RM s W r κ (onS X) -> Calls Tryz.prog 59 #[.pointer (some ⟨r,0,none⟩)] W (Q W)) :
 Calls Tryz.prog 26 #[.pointer (some ⟨r,0,none⟩)] w (Q w) := jao h hn hst hQ hC (.inr (.inr (.inr (.inr (.inr (.inr (.inr (.inr (⟨hop,rfl,rfl⟩)))))))))
def fmC (f : FX) : Fm := ⟨f.back,f.sl⟩
def frC (fs : List FX) : List Fm := (fs.map fmC).reverse
def rgC (g : Nat -> V) : List V := (List.range 8).map g
def jj (X : St) : Mc := ⟨X.x.next,rgC X.x.g,frC X.fs,X.x.gcs,X.x.err,X.x.pos,X.x.val,X.out,X.x.steps,X.x.read⟩
def jdv (m : Mc) (e p : Nat) : Mc := { m with err := e,pos := p }
theorem jec (g : Nat -> V) {z : Nat} (h : z < 8) : rg (rgC g) z = g z := by
 unfold rgC
 exact jaE (by simp [h])
theorem jc1 (g : Nat -> V) {q : Nat} (v : V) (h : q < 8) : rgC (upd g q v) = (rgC g).set q v := by
 have : ∀ q : Fin 8,rgC (upd g q.val v) = (rgC g).set q.val v := by
  intro q
  match q with
  | ⟨0,_⟩ => rfl
  | ⟨1,_⟩ => rfl
  | ⟨2,_⟩ => rfl
  | ⟨3,_⟩ => rfl
  | ⟨4,_⟩ => rfl
  | ⟨5,_⟩ => rfl
  | ⟨6,_⟩ => rfl
  | ⟨7,_⟩ => rfl
 exact this ⟨q,h⟩
theorem jg5 : rgC (fun _ => z0) = List.replicate 8 z0 := rfl
theorem jfK (X : St) {q : Nat} (v : V) (h : q < 8) : jj (JU X q v) = { jj X with regs := (jj X).regs.set q v } := by
 show (⟨X.x.next,rgC (upd X.x.g q v),frC X.fs,X.x.gcs,X.x.err,X.x.pos,X.x.val,X.out,X.x.steps,X.x.read⟩ : Mc) = _
 rw [jc1 _ _ h];rfl
theorem jaX (l : List FX) (f : FX) : frC (l ++ [f]) = fmC f :: frC l := by unfold frC;simp
theorem jeC {fs : List FX} {f : FX} (h : f ∈ fs) : fmC f ∈ frC fs := by unfold frC;exact List.mem_reverse.2 (List.mem_map.2 ⟨f,h,rfl⟩)
theorem jid {fs : List FX} {g : Fm} (h : g ∈ frC fs) : ∃ f ∈ fs,fmC f = g := by unfold frC at h;exact List.mem_map.1 (List.mem_reverse.1 h)
theorem jds (fs : List FX) : (frC fs).length = fs.length := by unfold frC;simp
def isB (i : Nat) : V -> Bool
 | .b j => j == i
 | .n _ => false
theorem je7 {i : Nat} {u : V} : isB i u = true ↔ u = .b i := by
 cases u with
 | n z => constructor <;> intro h <;> cases h
 | b j => simp [isB]
def cnt (fs : List FX) (i : Nat) : Nat := (fs.flatMap fun f => f.sl).countP (isB i)
theorem jbg (l : List FX) (f : FX) (i : Nat) : cnt (l ++ [f]) i = cnt l i + f.sl.countP (isB i) := by unfold cnt;simp
theorem jdz {fs : List FX} {i : Nat} : 0 < cnt fs i ↔ ∃ f ∈ fs,.b i ∈ f.sl := by
 unfold cnt
 rw [List.countP_pos_iff]
 constructor
 ·rintro ⟨u,h1,h2⟩
  rw [je7] at h2
  subst h2
  obtain ⟨f,h3,h4⟩ := List.mem_flatMap.1 h1
  exact ⟨f,h3,h4⟩
 ·rintro ⟨f,h1,h2⟩
  exact ⟨.b i,List.mem_flatMap.2 ⟨f,h1,h2⟩,je7.2 rfl⟩
def d1 (i : Nat) (u : V) : Nat := if isB i u then 1 else 0
theorem jfu (p : V -> Bool) : ∀ {sl : List V} {x : Nat} {u0 : V} (u : V),sl[x]? = some u0 -> (sl.set x u).countP p + (if p u0 then 1 else 0) = sl.countP p + (if p u then 1 else 0)
 | [],x,u0,u,h => by simp at h
 | a :: l,0,u0,u,h => by
   simp at h
   subst h
   simp only [List.set_cons_zero,List.countP_cons]
   omega
 | a :: l,x + 1,u0,u,h => by
   simp at h
   have := jfu p u h
   simp only [List.set_cons_succ,List.countP_cons]
   omega
theorem jdy (n i : Nat) : (List.replicate n z0).countP (isB i) = 0 := by
 rw [List.countP_eq_zero]
 intro a ha
 rw [List.mem_replicate] at ha
 rw [ha.2]
 show ¬ (isB i (.n 0)) = true
 simp [isB]
theorem jdm {bs : List HB} {u : V} {d : Int} {i : Nat} {b : HB} (h : (jO bs u d)[i]? = some b) : ∃ b0,bs[i]? = some b0 /\ b = { b0 with held := b0.held + d * (d1 i u : Nat) } := by
 obtain ⟨b0,h1,h2⟩ := jdn h
 refine ⟨b0,h1,?_⟩
 rw [h2]
 cases u with
 | n z => simp [d1,isB]
 | b j =>
   by_cases e : j = i
   ·simp [d1,isB,e]
   ·simp [d1,isB,e]
theorem jfb {i : Nat} : ∀ {sl : List V} {bs : List HB} {b : HB},(Jm bs sl)[i]? = some b -> ∃ b0,bs[i]? = some b0 /\ b = { b0 with held := b0.held - (sl.countP (isB i) : Nat) }
 | [],bs,b,h => ⟨b,h,by simp⟩
 | u :: l,bs,b,h => by
   obtain ⟨b1,h1,h2⟩ := jfb (sl := l) (bs := jO bs u (-1)) h
   obtain ⟨b0,h3,h4⟩ := jdm h1
   refine ⟨b0,h3,?_⟩
   rw [h2,h4]
   simp only [List.countP_cons,d1]
   congr 1
   split <;> push_cast <;> omega
theorem jmZ (b : HB) (z : Int) : cb { b with held := z } = cb b := rfl
theorem jmL (b : HB) (z : Int) : hw { b with held := z } = hw b := rfl
theorem jbX (bs : List HB) (u : V) (d : Int) : aB (jO bs u d) = aB bs := by
 cases u with
 | n z => rfl
 | b i =>
   unfold jO
   simp only
   split
   ·rename_i b hb
    unfold aB
    exact jde hb rfl
   ·rfl
theorem jdG (sl : List V) : ∀ bs : List HB,aB (Jm bs sl) = aB bs := by
 induction sl with
 | nil => intro bs;rfl
 | cons u l ih =>
   intro bs
   show aB (Jm (jO bs u (-1)) l) = _
   rw [ih,jbX]
theorem ja8 (bs : List HB) : su bs = jJ (aB bs) := (jfN bs).symm
theorem jdb : ∀ (n : Nat) (l : List Nat),l.Nodup -> (∀ a ∈ l,a < n) -> l.length <= n
 | 0,l,_,h => by
   cases l with
   | nil => exact jN
   | cons a l => exact absurd (h a (by simp)) (Nat.not_lt_zero _)
 | n + 1,l,hn,h => by
   by_cases hm : n ∈ l
   ·have := jdb n (l.erase n) (hn.erase n) (fun a ha => by
     have h1 := (hn.mem_erase_iff).1 ha
     have := h a h1.2
     omega)
    rw [List.length_erase_of_mem hm] at this
    omega
   ·have := jdb n l hn (fun a ha => by
     have := h a ha
     have : a ≠ n := fun e => hm (e ▸ ha)
     omega)
    omega
structure CI (H D G : Nat) (I : List Int) (X : St) : Prop where
 half : X.x.half = H
 hm : H <= 2048
 depth : X.x.depth = D
 dm : D <= 64
 gr : X.x.granted = G
 ins : X.ins = I
 used : X.x.used = su X.bs
 ul : su X.bs <= H
 sm : X.x.steps <= 65536
 blen : X.bs.length <= X.x.steps
 gcs : X.x.gcs <= X.x.steps
 rc : ∀ (i : Nat) (b : HB),X.bs[i]? = some b -> b.rc = false
 clr : ∀ (i : Nat) (b : HB),X.bs[i]? = some b -> b.use = false -> b.fs = []
 held : ∀ (i : Nat) (b : HB),X.bs[i]? = some b -> b.held = (cnt X.fs i : Nat)
 cn : ∀ i,cnt X.fs i <= X.x.steps
 free : ∀ a ∈ X.free,∃ b : HB,X.bs[a]? = some b /\ b.use = false
 fnd : X.free.Nodup
 fs : X.fs.length <= D
 out : X.out.length <= 16
def key (X : St) : Nat × Nat × Nat × List Int × Nat × List HB × Nat × Nat × List FX × List Nat × List Int := (X.x.half,X.x.depth,X.x.granted,X.ins,X.x.used,X.bs,X.x.steps,X.x.gcs,X.fs,X.free,X.out)
theorem CI.re {half depth gr : Nat} {ins : List Int} {X X' : St} (h : CI half depth gr ins X) (e : key X' = key X) : CI half depth gr ins X' := by
 simp only [key,Prod.mk.injEq] at e
 obtain ⟨e1,e2,e3,e4,e5,e6,e7,e8,e9,e10,e11⟩ := e
 exact ⟨e1.trans h.half,h.hm,e2.trans h.depth,h.dm,e3.trans h.gr,e4.trans h.ins,by rw [e5,e6];exact h.used,by rw [e6];exact h.ul,by rw [e7];exact h.sm,by rw [e6,e7];exact h.blen,by rw [e8,e7];exact h.gcs,by rw [e6];exact h.rc,by rw [e6];exact h.clr,by rw [e6,e9];exact h.held,by rw [e9,e7];exact h.cn,by rw [e10,e6];exact h.free,by rw [e10];exact h.fnd,by rw [e9];exact h.fs,by rw [e11];exact h.out⟩
theorem CI.on {half depth gr : Nat} {ins : List Int} (h : CI half depth gr ins X) (hs : X.x.steps < 65536) : CI half depth gr ins (onS X) :=
 ⟨h.half,h.hm,h.depth,h.dm,h.gr,h.ins,h.used,h.ul,hs,Nat.le_succ_of_le h.blen,Nat.le_succ_of_le h.gcs,h.rc,h.clr,h.held,fun i => Nat.le_succ_of_le (h.cn i),h.free,h.fnd,h.fs,h.out⟩
theorem CI.print {half depth gr : Nat} {ins : List Int} (h : CI half depth gr ins X) (z : Int) (v : Value) (hl : X.out.length < 16) : CI half depth gr ins (outS X z v) :=
 ⟨h.half,h.hm,h.depth,h.dm,h.gr,h.ins,h.used,h.ul,h.sm,h.blen,h.gcs,h.rc,h.clr,h.held,h.cn,h.free,h.fnd,h.fs,by show (X.out ++ [z]).length <= 16;simp;omega⟩
theorem CI.bs {half depth gr : Nat} {ins : List Int} {X : St} (h : CI half depth gr ins X) {bs : List HB} {fs : List FX} {vf : Value} (ha : aB bs = aB X.bs)
 (hh : ∀ (i : Nat) (b : HB),bs[i]? = some b -> ∃ b0 : HB,X.bs[i]? = some b0 /\ b.use = b0.use /\ b.fs = b0.fs /\ b.rc = b0.rc /\ b.held = (cnt fs i : Nat)) (hc : ∀ i,cnt fs i <= X.x.steps) (hf : fs.length <= depth) : CI half depth gr ins { X with x := { X.x with vfr := vf },bs := bs,fs := fs } := by
 have hl : bs.length = X.bs.length := by have := congrArg List.length ha;unfold aB at this;simpa using this
 have hsu : su bs = su X.bs := by rw [ja8,ja8,ha]
 refine ⟨h.half,h.hm,h.depth,h.dm,h.gr,h.ins,h.used.trans hsu.symm,by show su bs <= half;rw [hsu];exact h.ul,h.sm,by show bs.length <= _;rw [hl];exact h.blen,h.gcs,fun i b hb => ?_,fun i b hb hu => ?_,fun i b hb => ?_,hc,fun a ha' => ?_,h.fnd,hf,h.out⟩
 ·obtain ⟨b0,h1,h2,h3,h4,h5⟩ := hh i b hb
  rw [h4];exact h.rc i b0 h1
 ·obtain ⟨b0,h1,h2,h3,h4,h5⟩ := hh i b hb
  rw [h3];exact h.clr i b0 h1 (h2 ▸ hu)
 ·obtain ⟨b0,h1,h2,h3,h4,h5⟩ := hh i b hb
  exact h5
 ·obtain ⟨b0,h1,h2⟩ := h.free a ha'
  obtain ⟨b,hb⟩ : ∃ b,bs[a]? = some b := ⟨_,List.getElem?_eq_getElem (by rw [hl];exact (jG h1).1)⟩
  obtain ⟨b0',h3,h4,_⟩ := hh a b hb
  rw [h1] at h3;cases h3
  exact ⟨b,hb,h4.trans h2⟩
theorem CI.slot {half depth gr : Nat} {ins : List Int} (h : CI half depth gr ins X) (hs : X.x.steps < 65536) {l : List FX} {f : FX} {x : Nat} {u0 u : V} (hf : X.fs = l ++ [f]) (hn : f.sl[x]? = some u0) : CI half depth gr ins (jak (onS X) l f x u0 u) := by
 have hI := h.on hs
 have hc : ∀ i,cnt (l ++ [{ f with sl := f.sl.set x u }]) i + d1 i u0 = cnt X.fs i + d1 i u := fun i => by
  rw [hf,jbg,jbg]
  have := jfu (isB i) u hn
  unfold d1
  simp only
  omega
 refine hI.bs (vf := X.x.vfr) (bs := jO (jO X.bs u0 (-1)) u 1) (fs := l ++ [{ f with sl := f.sl.set x u }]) (by rw [jbX,jbX];rfl) (fun i b hb => ?_) (fun i => ?_) ?_
 ·obtain ⟨b1,h1,h2⟩ := jdm hb
  obtain ⟨b0,h3,h4⟩ := jdm h1
  refine ⟨b0,h3,by rw [h2,h4],by rw [h2,h4],by rw [h2,h4],?_⟩
  rw [h2,h4]
  have h5 := h.held i b0 h3
  have h6 := hc i
  simp only
  omega
 ·show _ <= X.x.steps + 1
  have h6 := hc i
  have h7 := h.cn i
  have h8 : d1 i u <= 1 := by unfold d1;split <;> omega
  omega
 ·have := h.fs
  rw [hf] at this
  simpa using this
theorem CI.leave {half depth gr : Nat} {ins : List Int} (h : CI half depth gr ins X) {l : List FX} {f : FX} (vf : Value) (hf : X.fs = l ++ [f]) : CI half depth gr ins (jaI X l f vf) := by
 have hc : ∀ i,cnt X.fs i = cnt l i + f.sl.countP (isB i) := fun i => by rw [hf,jbg]
 refine h.bs (vf := vf) (bs := Jm X.bs f.sl) (fs := l) (jdG _ _) (fun i b hb => ?_) (fun i => ?_) ?_
 ·obtain ⟨b0,h1,h2⟩ := jfb hb
  refine ⟨b0,h1,by rw [h2],by rw [h2],by rw [h2],?_⟩
  rw [h2]
  have h5 := h.held i b0 h1
  have h6 := hc i
  simp only
  omega
 ·have h6 := hc i
  have h7 := h.cn i
  omega
 ·have := h.fs
  rw [hf] at this
  simp at this
  omega
theorem CI.call {half depth gr : Nat} {ins : List Int} (h : CI half depth gr ins X) {k back : Nat} {vf v : Value} (hd : X.fs.length < depth) : CI half depth gr ins (JZ s X k back vf v) := by
 have h1 := h.bs (vf := vf) (bs := X.bs) (fs := X.fs ++ [⟨back,List.replicate (r3 s k) z0,v⟩]) rfl (fun i b hb => ⟨b,hb,rfl,rfl,rfl,by rw [jbg];simp only;rw [jdy];exact h.held i b hb⟩) (fun i => by rw [jbg];simp only;rw [jdy];exact h.cn i) (by simp;omega)
 exact h1.re rfl
theorem CI.fld {half depth gr : Nat} {ins : List Int} (h : CI half depth gr ins X) {i m : Nat} {b : HB} {t : V} (hi : X.bs[i]? = some b) (hm : m < b.fs.length) : CI half depth gr ins (jcw X i m b t) := by
 have hl := (jG hi).1
 have hsu : su (X.bs.set i { b with fs := b.fs.set m t }) = su X.bs := by
  have := jbs (b' := { b with fs := b.fs.set m t }) hi
  have e : hw { b with fs := b.fs.set m t } = hw b := by unfold hw;simp
  omega
 have hu : b.use = true := by
  cases hq : b.use with
  | true => rfl
  | false => rw [h.clr i b hi hq] at hm;cases hm
 refine ⟨h.half,h.hm,h.depth,h.dm,h.gr,h.ins,h.used.trans hsu.symm,Nat.le_trans (Nat.le_of_eq hsu) h.ul,h.sm,by show (X.bs.set _ _).length <= _;rw [List.length_set];exact h.blen,h.gcs,fun j c hc => ?_,fun j c hc hu' => ?_,fun j c hc => ?_,h.cn,fun a ha => ?_,h.fnd,h.fs,h.out⟩
 ·rcases JJ hc hl with ⟨rfl,rfl⟩ | ⟨e,hc⟩
  ·exact h.rc i b hi
  ·exact h.rc j c hc
 ·rcases JJ hc hl with ⟨rfl,rfl⟩ | ⟨e,hc⟩
  ·rw [show b.use = false from hu'] at hu;cases hu
  ·exact h.clr j c hc hu'
 ·rcases JJ hc hl with ⟨rfl,rfl⟩ | ⟨e,hc⟩
  ·exact h.held i b hi
  ·exact h.held j c hc
 ·obtain ⟨c,h1,h2⟩ := h.free a ha
  refine ⟨c,?_,h2⟩
  show (X.bs.set i _)[a]? = _
  rw [List.getElem?_set_ne (fun e => by subst e;rw [hi] at h1;cases h1;rw [hu] at h2;cases h2)]
  exact h1
end Ko
end Go.Proofs.YtjmgolahkgalbaaGreatDoor
