import Derived.Test.YtjmgolahkgalbaaGreatDoorS19
import Derived.Test.YtjmgolahkgalbaaGreatDoorS20
import Derived.Test.YtjmgolahkgalbaaGreatDoorS21
set_option linter.unusedVariables false
set_option linter.unusedSimpArgs false
set_option maxHeartbeats 20000000
namespace Go.Proofs.YtjmgolahkgalbaaGreatDoor
namespace Ko
open Go.RowKit Li
variable {s : ByteArray} {w : World} {r : Nat}
variable {κ : Kp} {X : St}
theorem jgy (h : RM s w r κ X) (z : Int) :
 Calls Tryz.prog 106 #[.pointer (some ⟨r,23,none⟩),.agg #[.bool false,.int .i64 z]] w fun e w' => e = .returned (.int .i64 (-1)) /\ Below w.heap.size w w' := by
 have H : Hid (RM s w r κ X) := h
 clear h
 go_enter Tryz.func106,Tryz.ntmps106
 go_wp2_with (first
  | (go_at_call 109;refine (jcp (H.out.on (jB.alloc jN _)) z).mono ?_;rintro _ w1 ⟨rfl,hb1⟩))
 go_ret
 exact ⟨rfl,jp hb1⟩
theorem jba (h : RM s w r κ X) {i : Nat} {b : HB} (hi : X.bs[i]? = some b) :
 Calls Tryz.prog 106 #[.pointer (some ⟨r,23,none⟩),.agg #[.bool true,.int .i64 i]] w fun e w' => e = .returned (.int .i64 b.fs.length) /\ Below w.heap.size w w' := by
 have H : Hid (RM s w r κ X) := h
 have HI : Hid (X.bs[i]? = some b) := hi
 have hl : i < X.bs.length := (jG hi).1
 have hl' : (i : Int) < (X.bs.length : Int) := by omega
 clear h hi
 go_enter Tryz.func106,Tryz.ntmps106
 go_wp2_with (first
  | (go_at_call 109;refine (jbN (H.out.on (jB.alloc jN _)) hl).mono ?_;rintro _ w1 ⟨rfl,hb1⟩
     have h1 := H.out.on (jp hb1)
     have q1 : w1.cell? ⟨w.heap.size,1,none⟩ = some (.int .i64 i) := ja (boxed hb1) 1 rfl
     have q2 : w1.cell? ⟨r,26,none⟩ = some X.x.vbk := ja h1.run 26 rfl
     obtain ⟨g,cap,e,h2,h3,h4,h5,c0,c1,c2,c3,c4,fz⟩ := h1.bk HI.out
     rw [e] at q2
     obtain ⟨a,cap2,e2,h6⟩ := (h1.rows.fds i b HI.out).any
     rw [e2] at c2
     clear h1 e e2 h3 c0 c1 c3 c4 fz))
 go_region
 first | go_returns | (rename_i Q' K hK;refine hK _ _ ?_;go_wp2;go_returns)
 exact ⟨rfl,(jp hb1).drew⟩
theorem fn_n (h : RM s w r κ X) (z : Int) :
 Calls Tryz.prog 89 #[.pointer (some ⟨r,23,none⟩),.agg #[.bool false,.int .i64 z]] w fun e w' => e = .returned (.int .i64 (-1)) /\ Below w.heap.size w w' := by
 have H : Hid (RM s w r κ X) := h
 clear h
 go_enter Tryz.func89,Tryz.ntmps89
 go_wp2_with (first
  | (go_at_call 109;refine (jcp (H.out.on (jB.alloc jN _)) z).mono ?_;rintro _ w1 ⟨rfl,hb1⟩))
 go_ret
 exact ⟨rfl,jp hb1⟩
theorem fn_b (h : RM s w r κ X) {i : Nat} {b : HB} (hi : X.bs[i]? = some b) :
 Calls Tryz.prog 89 #[.pointer (some ⟨r,23,none⟩),.agg #[.bool true,.int .i64 i]] w fun e w' => e = .returned (.int .i64 b.fn) /\ Below w.heap.size w w' := by
 have H : Hid (RM s w r κ X) := h
 have HI : Hid (X.bs[i]? = some b) := hi
 have hl : i < X.bs.length := (jG hi).1
 have hl' : (i : Int) < (X.bs.length : Int) := by omega
 clear h hi
 go_enter Tryz.func89,Tryz.ntmps89
 go_wp2_with (first
  | (go_at_call 109;refine (jbN (H.out.on (jB.alloc jN _)) hl).mono ?_;rintro _ w1 ⟨rfl,hb1⟩
     have h1 := H.out.on (jp hb1)
     have q1 : w1.cell? ⟨w.heap.size,1,none⟩ = some (.int .i64 i) := ja (boxed hb1) 1 rfl
     have q2 : w1.cell? ⟨r,26,none⟩ = some X.x.vbk := ja h1.run 26 rfl
     obtain ⟨g,cap,e,h2,h3,h4,h5,c0,c1,c2,c3,c4,fz⟩ := h1.bk HI.out
     rw [e] at q2
     clear h1 e h3 c0 c2 c3 c4 fz))
 go_region
 first | go_returns | (rename_i Q' K hK;refine hK _ _ ?_;go_wp2;go_returns)
 exact ⟨rfl,(jp hb1).drew⟩
theorem JF {b : Nat} {x y : Value} {t : TypeId} (h : w.heap[b]? = some (.cells #[x,y] t (0,0))) (u v : Value) : ((w.setCell ⟨b,0,none⟩ u).setCell ⟨b,1,none⟩ v).heap[b]? = some (.cells #[u,v] t (0,0)) := jf (jf h 0 u) 1 v
theorem jaL {B b : Nat} {w w1 : World} (h : Below B w w1) (hb : B <= b) (u v : Value) : Below B w ((w1.setCell ⟨b,0,none⟩ u).setCell ⟨b,1,none⟩ v) := (h.setCell (p := ⟨b,0,none⟩) hb u).setCell (p := ⟨b,1,none⟩) hb v
theorem jkh {W : World} {tmps : Array Value} {b : Nat} {x0 x1 : Value} {t : TypeId} {Q : Ending -> World -> Prop} (ht : tmps.getD 6 undef = .pointer (some ⟨b,0,none⟩)) (hb : W.heap[b]? = some (.cells #[x0,x1] t (0,0))) (hq : Q (.returned (.agg #[x0,x1])) W) :
 bodyPost Tryz.prog Tryz.f107 Q Exit.ret { tmps := tmps,defers := [] } W := by
 have c0 : W.cell? ⟨b,0,none⟩ = some x0 := ja hb 0 rfl
 have c1 : W.cell? ⟨b,1,none⟩ = some x1 := ja hb 1 rfl
 have ht' : tmps[6]?.getD undef = .pointer (some ⟨b,0,none⟩) := by simpa using ht
 exact bodyPost_ret (v := .agg #[x0,x1]) (by simp [results,Tryz.results107,go_sem,ht',c0,c1]) rfl hq
theorem jfm (h : RM s w r κ X) {i a : Nat} {b : HB} {u : V} (hi : X.bs[i]? = some b) (ha : b.fs[a]? = some u) :
 Calls Tryz.prog 107 #[.pointer (some ⟨r,23,none⟩),.agg #[.bool true,.int .i64 i],.int .i64 a] w fun e w' => e = .returned (av u) /\ Below w.heap.size w w' := by
 have H : Hid (RM s w r κ X) := h
 have HI : Hid (X.bs[i]? = some b) := hi
 have HA : Hid (b.fs[a]? = some u) := ha
 have hl : i < X.bs.length := (jG hi).1
 have hl' : (i : Int) < (X.bs.length : Int) := by omega
 have hla : a < b.fs.length := (jG ha).1
 have hla' : (a : Int) < (b.fs.length : Int) := by omega
 have g1 : decide ((b.fs.length : Int) <= (a : Int)) = false := by simp;omega
 have g2 : decide ((a : Int) < 0) = false := by simp
 have hr := h.lt
 clear h hi ha
 go_enter Tryz.func107,Tryz.ntmps107
 go_wp2_with (first
  | (go_at_call 106;refine (jba (H.out.on ((jB.alloc jN _).alloc (by simp) _)) HI.out).mono ?_;rintro _ w1 ⟨rfl,hb1⟩))
 have hb2 : Below w.heap.size w w1 := jp (jp hb1)
 have h1 := H.out.on hb2
 have q1 : w1.cell? ⟨w.heap.size,1,none⟩ = some (.int .i64 i) := ja (boxed (jp hb1)) 1 rfl
 have q2 : w1.cell? ⟨r,26,none⟩ = some X.x.vbk := ja h1.run 26 rfl
 obtain ⟨g,cap,e,h2,h3,h4,h5,c0,c1,c2,c3,c4,fz⟩ := h1.bk HI.out
 rw [e] at q2
 obtain ⟨gv,cap2,e2,h6,h7,h8,h9,d0,d1,fz2⟩ := (h1.rows.fds i b HI.out).val HA.out
 rw [e2] at c2
 have hq := boxed hb1
 simp only [World.size_alloc] at hq
 obtain ⟨r0,r1,q3,q4,q5,q6⟩ := Jk hq
 have HQ := jH hq
 have hs := hb1.size
 simp only [World.size_alloc] at hs
 clear h1 e e2 h3 c0 c1 c3 c4 fz fz2 h7 hb1 hq
 go_region
 rename_i Q' K hK
 refine hK _ _ ?_
 go_wp2
 exact jkh rfl (JF HQ.out _ _) ⟨rfl,(jaL hb2 (Nat.le_succ _) _ _).drew⟩
theorem jgB {X : St} (h : RM s w r κ X) {i a : Nat} {b : HB} (u : V) (hi : X.bs[i]? = some b) (ha : a < b.fs.length) :
 Calls Tryz.prog 108 #[.pointer (some ⟨r,23,none⟩),.agg #[.bool true,.int .i64 i],.int .i64 a,av u] w fun e w' => e = .returned (.tuple #[]) /\ RM s w' r κ { X with bs := X.bs.set i { b with fs := b.fs.set a u } } /\ Fr0 κ κ w w' := by
 have H : Hid (RM s w r κ X) := h
 have HI : Hid (X.bs[i]? = some b) := hi
 have hl : i < X.bs.length := (jG hi).1
 have hl' : (i : Int) < (X.bs.length : Int) := by omega
 have hla' : (a : Int) < (b.fs.length : Int) := by omega
 have g1 : decide ((a : Int) < (b.fs.length : Int)) = true := by simp;omega
 have g2 : decide ((0 : Int) <= (a : Int)) = true := by simp
 have hr := h.lt
 have HU : Hid (b.fs[a]? = some b.fs[a]) := List.getElem?_eq_getElem ha
 clear h hi
 unfold av
 go_enter Tryz.func108,Tryz.ntmps108
 go_wp2_with (first
  | (go_at_call 106;refine (jba (H.out.on ((jB.alloc jN _).alloc (by simp) _)) HI.out).mono ?_;rintro _ w1 ⟨rfl,hb1⟩))
 have hb2 : Below w.heap.size w w1 := jp (jp hb1)
 have h1 := H.out.on hb2
 have q1 : w1.cell? ⟨w.heap.size,1,none⟩ = some (.int .i64 i) := ja (boxed (jp hb1)) 1 rfl
 have q2 : w1.cell? ⟨r,26,none⟩ = some X.x.vbk := ja h1.run 26 rfl
 obtain ⟨g,cap,e,h2,h3,h4,h5,c0,c1,c2,c3,c4,fz⟩ := h1.bk HI.out
 rw [e] at q2
 obtain ⟨gv,cap2,e2,h6,h7,h8,h9,d0,d1,fz2⟩ := (h1.rows.fds i b HI.out).val HU.out
 rw [e2] at c2
 have hq := boxed hb1
 simp only [World.size_alloc] at hq
 obtain ⟨r0,r1,q3,q4,q5,q6⟩ := Jk hq
 have z0 := fz2 (a * 2)
 have z1 := fz2 (a * 2 + 1)
 have HF := jH (h1.setV (u := u) HI.out e2 ha)
 have hs := hb1.size
 simp only [World.size_alloc] at hs
 have HB2 := jH hb2
 clear h1 e e2 h3 c0 c1 c3 c4 fz fz2 h7 hb1 hq hb2
 go_region
 first | go_returns | (rename_i Q' K hK;refine hK _ _ ?_;go_wp2;go_returns)
 exact ⟨rfl,⟨HF.out.1.run,HF.out.1.self,HF.out.1.rows.keep (S := fun _ => False) (Fr.refl _ _ _).drew (fun _ _ _ _ h => h),HF.out.1.top⟩,((Fr.of (S := fun t => t ≠ (9,1)) HB2.out).trans HF.out.2.all).drew⟩
theorem jjL (h : RM s w r κ X) (z d : Int) :
 Calls Tryz.prog 102 #[.pointer (some ⟨r,23,none⟩),.agg #[.bool false,.int .i64 z],.int .i64 d] w fun e w' => e = .returned (.tuple #[]) /\ Below w.heap.size w w' := by
 have H : Hid (RM s w r κ X) := h
 clear h
 go_enter Tryz.func102,Tryz.ntmps102
 go_wp2_with (first
  | (go_at_call 109;refine (jcp (H.out.on (jB.alloc jN _)) z).mono ?_;rintro _ w1 ⟨rfl,hb1⟩))
 go_returns
 exact ⟨rfl,jp hb1⟩
theorem jjM {X : St} (h : RM s w r κ X) {i : Nat} {b : HB} (d : Int) (hi : X.bs[i]? = some b) (hd : IntKind.i64.wrap (b.held + d) = b.held + d) :
 Calls Tryz.prog 102 #[.pointer (some ⟨r,23,none⟩),.agg #[.bool true,.int .i64 i],.int .i64 d] w fun e w' => e = .returned (.tuple #[]) /\ RM s w' r κ { X with bs := X.bs.set i { b with held := b.held + d } } /\ Fr0 κ κ w w' := by
 have H : Hid (RM s w r κ X) := h
 have HI : Hid (X.bs[i]? = some b) := hi
 have hl : i < X.bs.length := (jG hi).1
 have hl' : (i : Int) < (X.bs.length : Int) := by omega
 clear h hi
 go_enter Tryz.func102,Tryz.ntmps102
 go_wp2_with (first
  | (go_at_call 109;refine (jbN (H.out.on (jB.alloc jN _)) hl).mono ?_;rintro _ w1 ⟨rfl,hb1⟩))
 have hb2 : Below w.heap.size w w1 := jp hb1
 have h1 := H.out.on hb2
 have q1 : w1.cell? ⟨w.heap.size,1,none⟩ = some (.int .i64 i) := ja (boxed hb1) 1 rfl
 have q2 : w1.cell? ⟨r,26,none⟩ = some X.x.vbk := ja h1.run 26 rfl
 obtain ⟨g,cap,e,h2,h3,h4,h5,c0,c1,c2,c3,c4,fz⟩ := h1.bk HI.out
 rw [e] at q2
 have z0 := fz (i * 5 + 3)
 have HF := jH (h1.setB (k := 3) (u := .int .i64 (b.held + d)) (b' := { b with held := b.held + d }) HI.out e (by omega) rfl rfl rfl)
 have HB2 := jH hb2
 clear h1 e h3 c0 c1 c4 fz hb1 hb2
 go_region
 first | go_returns | (rename_i Q' K hK;refine hK _ _ ?_;go_wp2;go_returns)
 exact ⟨rfl,⟨HF.out.1.run,HF.out.1.self,HF.out.1.rows.keep (S := fun _ => False) (Fr.refl _ _ _).drew (fun _ _ _ _ h => h),HF.out.1.top⟩,((Fr.of (S := fun t => t ≠ (9,1)) HB2.out).trans HF.out.2.all).drew⟩
theorem RM.drew (h : RM s w r κ X) : RM s w.drew r κ X := ⟨h.run,h.self,h.rows.keep (S := fun _ => False) (Fr.refl _ _ _).drew (fun _ _ _ _ h => h),h.top⟩
theorem RM.al (h : RM s w r κ X) (o : Obj) : RM s (w.alloc o) r κ X := h.on (jB.alloc jN _)
theorem RM.keep {S : Tg -> Prop} {w w' : World} {κ κ' : Kp} (h : RM s w r κ X) (hf : Fr S κ κ' w w') (hn : ∀ k i,k <= 8 -> ¬ S (k,i)) (ht : ∀ b,w'.heap.size <= b -> κ' b = κ b) : RM s w' r κ' X :=
 ⟨h.run.keep h.self hf (hn _ _ (by omega)),(hf.old r h.lt).trans h.self,h.rows.keep hf (fun k i _ hk => hn k i hk),fun b hb => (ht b hb).trans (h.top b (Nat.le_trans hf.low.size hb))⟩
theorem TR.tagged {t t' : Tg} {e : TypeId} {sz n b : Nat} {v : Value} {xs : List Value} (h : TR w κ t e sz v n xs) (hb : κ b ≠ some t) : TR w (jq κ b t') t e sz v n xs :=
 ⟨h.own,fun k hk => by
  have := h.tag k hk
  unfold jq
  split
  ·rename_i e2;rw [e2] at this;exact absurd this hb
  ·exact this⟩
theorem RM.tag (h : RM s w r κ X) {b : Nat} (t : Tg) (hb : ∀ k i,k <= 8 -> κ b ≠ some (k,i)) (hl : b < w.heap.size) : RM s w r (jq κ b t) X := by
 have hR := h.rows
 refine ⟨h.run,?_,⟨hR.frs.tagged (hb _ _ (by omega)),fun i f hi => (hR.sls i f hi).tagged (hb _ _ (by omega)),hR.bks.tagged (hb _ _ (by omega)),fun i f hi => (hR.fds i f hi).tagged (hb _ _ (by omega)),hR.fre.tagged (hb _ _ (by omega)),hR.out.tagged (hb _ _ (by omega)),hR.ins.tagged (hb _ _ (by omega)),hR.cF.tagged (hb _ _ (by omega)),hR.cN.tagged (hb _ _ (by omega)),hR.cL.tagged (hb _ _ (by omega))⟩,fun k hk => by unfold jq;rw [if_neg (by omega)];exact h.top k hk⟩
 have := h.self
 unfold jq
 split
 ·rename_i e2;rw [e2] at this;exact absurd this (hb _ _ (by omega))
 ·exact this
theorem jaW {α : Type} {l : List α} {a c : α} {j : Nat} (h : (l ++ [a])[j]? = some c) : (j < l.length /\ l[j]? = some c) \/ (j = l.length /\ c = a) := by
 by_cases hj : j < l.length
 ·rw [List.getElem?_append_left hj] at h;exact .inl ⟨hj,h⟩
 ·rw [List.getElem?_append_right (by omega)] at h
  have : j - l.length = 0 := by
   have := (jG h).1
   simp at this;omega
  rw [this] at h
  simp at h
  exact .inr ⟨by omega,h.symm⟩
theorem RM.growB {X : St} (h : RM s w r κ X) {w1 w2 : World} {v' : Value} {b : HB} (hv : b.v = .slice none 0 0) (hf : b.fs = []) (hb : Below w.heap.size w w1) (ho : w2.ownsRow 0 174 5 v' (X.bs.length + 1) (X.bs.flatMap hbC ++ hbC b)) (hg : w1.grownBy w2 X.x.vbk.ownBlock) (hbk : v'.ownBlock = X.x.vbk.ownBlock \/ v'.ownBlock = some w1.heap.size) :
 ∃ κ',RM s (w2.setCell ⟨r,26,none⟩ v') r κ' { X with x := { X.x with vbk := v' },bs := X.bs ++ [b] } /\ Fr (fun t => t = (3,0) \/ t = (0,0)) κ κ' w (w2.setCell ⟨r,26,none⟩ v') := by
 have t0 : Fr (· = (3,0)) κ κ w w1 := Fr.of hb
 have h1 := h.on hb
 obtain ⟨κ',T1,t1,htop⟩ := h1.rows.bks.app ho hg hbk
 have t01 := t0.trans t1
 have hr2 : RB w2 r X.x := h.run.keep h.self t01 (by intro h;cases h)
 have hs2 : κ' r = some (0,0) := (t01.old r h.lt).trans h.self
 have hr3 : RB (w2.setCell ⟨r,26,none⟩ v') r { X.x with vbk := v' } := jf hr2 26 v'
 have t2 : Fr (· = (0,0)) κ' κ' w2 (w2.setCell ⟨r,26,none⟩ v') := Fr.lone ((Lone.refl r w2).set 26 v') hs2 rfl
 have t : Fr (fun t => t = (3,0) \/ t = (0,0)) κ κ' w (w2.setCell ⟨r,26,none⟩ v') := (t01.mono fun _ h => .inl h).trans (t2.mono fun _ h => .inr h)
 have hR := h.rows
 refine ⟨κ',⟨hr3,hs2,⟨hR.frs.keep t (by rintro (h | h) <;> cases h),fun i f hi => (hR.sls i f hi).keep t (by rintro (h | h) <;> cases h),?_,fun j c hj => ?_,hR.fre.keep t (by rintro (h | h) <;> cases h),hR.out.keep t (by rintro (h | h) <;> cases h),hR.ins.keep t (by rintro (h | h) <;> cases h),hR.cF.keep t (by rintro (h | h) <;> cases h),hR.cN.keep t (by rintro (h | h) <;> cases h),hR.cL.keep t (by rintro (h | h) <;> cases h)⟩,fun b hb' => ?_⟩,t⟩
 ·show TR _ κ' (3,0) _ 5 v' (X.bs ++ [b]).length ((X.bs ++ [b]).flatMap hbC)
  rw [show (X.bs ++ [b]).length = X.bs.length + 1 by simp,show (X.bs ++ [b]).flatMap hbC = X.bs.flatMap hbC ++ hbC b by simp]
  exact T1.keep t2 (by intro h;cases h)
 ·rcases jaW hj with ⟨_,hj⟩ | ⟨_,rfl⟩
  ·exact (hR.fds j c hj).keep t (by rintro (h | h) <;> cases h)
  ·rw [hv,hf];exact TR.nil _ _ _ _ _
 ·rw [jy] at hb'
  exact (htop b hb').trans (h1.top b (Nat.le_trans hg.size hb'))
theorem RM.growFree {X : St} (h : RM s w r κ X) {w1 w2 : World} {v' : Value} {a : Nat} (hb : Below w.heap.size w w1) (ho : w2.ownsRow 0 3 1 v' (X.free.length + 1) (jV X.free ++ [.int .i64 (a : Int)])) (hg : w1.grownBy w2 X.x.vfree.ownBlock) (hbk : v'.ownBlock = X.x.vfree.ownBlock \/ v'.ownBlock = some w1.heap.size) :
 ∃ κ',RM s (w2.setCell ⟨r,27,none⟩ v') r κ' { X with x := { X.x with vfree := v' },free := X.free ++ [a] } /\ Fr (fun t => t = (5,0) \/ t = (0,0)) κ κ' w (w2.setCell ⟨r,27,none⟩ v') := by
 have t0 : Fr (· = (5,0)) κ κ w w1 := Fr.of hb
 have h1 := h.on hb
 obtain ⟨κ',T1,t1,htop⟩ := h1.rows.fre.app ho hg hbk
 have t01 := t0.trans t1
 have hr2 : RB w2 r X.x := h.run.keep h.self t01 (by intro h;cases h)
 have hs2 : κ' r = some (0,0) := (t01.old r h.lt).trans h.self
 have hr3 : RB (w2.setCell ⟨r,27,none⟩ v') r { X.x with vfree := v' } := jf hr2 27 v'
 have t2 : Fr (· = (0,0)) κ' κ' w2 (w2.setCell ⟨r,27,none⟩ v') := Fr.lone ((Lone.refl r w2).set 27 v') hs2 rfl
 have t : Fr (fun t => t = (5,0) \/ t = (0,0)) κ κ' w (w2.setCell ⟨r,27,none⟩ v') := (t01.mono fun _ h => .inl h).trans (t2.mono fun _ h => .inr h)
 have hR := h.rows
 refine ⟨κ',⟨hr3,hs2,⟨hR.frs.keep t (by rintro (h | h) <;> cases h),fun i f hi => (hR.sls i f hi).keep t (by rintro (h | h) <;> cases h),hR.bks.keep t (by rintro (h | h) <;> cases h),fun i f hi => (hR.fds i f hi).keep t (by rintro (h | h) <;> cases h),?_,hR.out.keep t (by rintro (h | h) <;> cases h),hR.ins.keep t (by rintro (h | h) <;> cases h),hR.cF.keep t (by rintro (h | h) <;> cases h),hR.cN.keep t (by rintro (h | h) <;> cases h),hR.cL.keep t (by rintro (h | h) <;> cases h)⟩,fun b hb' => ?_⟩,t⟩
 ·show TR _ κ' (5,0) _ 1 v' (X.free ++ [a]).length (jV (X.free ++ [a]))
  rw [show (X.free ++ [a]).length = X.free.length + 1 by simp,show jV (X.free ++ [a]) = jV X.free ++ [.int .i64 (a : Int)] by simp [jV]]
  exact T1.keep t2 (by intro h;cases h)
 ·rw [jy] at hb'
  exact (htop b hb').trans (h1.top b (Nat.le_trans hg.size hb'))
theorem RM.growO {X : St} (h : RM s w r κ X) {w1 w2 : World} {v' : Value} {z : Int} (hb : Below w.heap.size w w1) (ho : w2.ownsRow 0 3 1 v' (X.out.length + 1) (iV X.out ++ [.int .i64 z])) (hg : w1.grownBy w2 X.x.vout.ownBlock) (hbk : v'.ownBlock = X.x.vout.ownBlock \/ v'.ownBlock = some w1.heap.size) :
 ∃ κ',RM s (w2.setCell ⟨r,32,none⟩ v') r κ' { X with x := { X.x with vout := v' },out := X.out ++ [z] } /\ Fr (fun t => t = (6,0) \/ t = (0,0)) κ κ' w (w2.setCell ⟨r,32,none⟩ v') := by
 have t0 : Fr (· = (6,0)) κ κ w w1 := Fr.of hb
 have h1 := h.on hb
 obtain ⟨κ',T1,t1,htop⟩ := h1.rows.out.app ho hg hbk
 have t01 := t0.trans t1
 have hr2 : RB w2 r X.x := h.run.keep h.self t01 (by intro h;cases h)
 have hs2 : κ' r = some (0,0) := (t01.old r h.lt).trans h.self
 have hr3 : RB (w2.setCell ⟨r,32,none⟩ v') r { X.x with vout := v' } := jf hr2 32 v'
 have t2 : Fr (· = (0,0)) κ' κ' w2 (w2.setCell ⟨r,32,none⟩ v') := Fr.lone ((Lone.refl r w2).set 32 v') hs2 rfl
 have t : Fr (fun t => t = (6,0) \/ t = (0,0)) κ κ' w (w2.setCell ⟨r,32,none⟩ v') := (t01.mono fun _ h => .inl h).trans (t2.mono fun _ h => .inr h)
 have hR := h.rows
 refine ⟨κ',⟨hr3,hs2,⟨hR.frs.keep t (by rintro (h | h) <;> cases h),fun i f hi => (hR.sls i f hi).keep t (by rintro (h | h) <;> cases h),hR.bks.keep t (by rintro (h | h) <;> cases h),fun i f hi => (hR.fds i f hi).keep t (by rintro (h | h) <;> cases h),hR.fre.keep t (by rintro (h | h) <;> cases h),?_,hR.ins.keep t (by rintro (h | h) <;> cases h),hR.cF.keep t (by rintro (h | h) <;> cases h),hR.cN.keep t (by rintro (h | h) <;> cases h),hR.cL.keep t (by rintro (h | h) <;> cases h)⟩,fun b hb' => ?_⟩,t⟩
 ·show TR _ κ' (6,0) _ 1 v' (X.out ++ [z]).length (iV (X.out ++ [z]))
  rw [show (X.out ++ [z]).length = X.out.length + 1 by simp,show iV (X.out ++ [z]) = iV X.out ++ [.int .i64 z] by simp [iV]]
  exact T1.keep t2 (by intro h;cases h)
 ·rw [jy] at hb'
  exact (htop b hb').trans (h1.top b (Nat.le_trans hg.size hb'))
theorem RM.growF {X : St} (h : RM s w r κ X) {w1 w2 : World} {v' : Value} {b : FX} (hT : TR w κ (2,X.fs.length) 78 2 b.v b.sl.length (jv b.sl)) (hb : Below w.heap.size w w1) (ho : w2.ownsRow 0 135 2 v' (X.fs.length + 1) (X.fs.flatMap fxC ++ fxC b)) (hg : w1.grownBy w2 X.x.vfr.ownBlock) (hbk : v'.ownBlock = X.x.vfr.ownBlock \/ v'.ownBlock = some w1.heap.size) :
 ∃ κ',RM s (w2.setCell ⟨r,22,none⟩ v') r κ' { X with x := { X.x with vfr := v' },fs := X.fs ++ [b] } /\ Fr (fun t => t = (1,0) \/ t = (0,0)) κ κ' w (w2.setCell ⟨r,22,none⟩ v') := by
 have t0 : Fr (· = (1,0)) κ κ w w1 := Fr.of hb
 have h1 := h.on hb
 obtain ⟨κ',T1,t1,htop⟩ := h1.rows.frs.app ho hg hbk
 have t01 := t0.trans t1
 have hr2 : RB w2 r X.x := h.run.keep h.self t01 (by intro h;cases h)
 have hs2 : κ' r = some (0,0) := (t01.old r h.lt).trans h.self
 have hr3 : RB (w2.setCell ⟨r,22,none⟩ v') r { X.x with vfr := v' } := jf hr2 22 v'
 have t2 : Fr (· = (0,0)) κ' κ' w2 (w2.setCell ⟨r,22,none⟩ v') := Fr.lone ((Lone.refl r w2).set 22 v') hs2 rfl
 have t : Fr (fun t => t = (1,0) \/ t = (0,0)) κ κ' w (w2.setCell ⟨r,22,none⟩ v') := (t01.mono fun _ h => .inl h).trans (t2.mono fun _ h => .inr h)
 have hR := h.rows
 refine ⟨κ',⟨hr3,hs2,⟨?_,fun j c hj => ?_,hR.bks.keep t (by rintro (h | h) <;> cases h),fun i f hi => (hR.fds i f hi).keep t (by rintro (h | h) <;> cases h),hR.fre.keep t (by rintro (h | h) <;> cases h),hR.out.keep t (by rintro (h | h) <;> cases h),hR.ins.keep t (by rintro (h | h) <;> cases h),hR.cF.keep t (by rintro (h | h) <;> cases h),hR.cN.keep t (by rintro (h | h) <;> cases h),hR.cL.keep t (by rintro (h | h) <;> cases h)⟩,fun b hb' => ?_⟩,t⟩
 ·show TR _ κ' (1,0) _ 2 v' (X.fs ++ [b]).length ((X.fs ++ [b]).flatMap fxC)
  rw [show (X.fs ++ [b]).length = X.fs.length + 1 by simp,show (X.fs ++ [b]).flatMap fxC = X.fs.flatMap fxC ++ fxC b by simp]
  exact T1.keep t2 (by intro h;cases h)
 ·rcases jaW hj with ⟨_,hj⟩ | ⟨rfl,rfl⟩
  ·exact (hR.sls j c hj).keep t (by rintro (h | h) <;> cases h)
  ·exact hT.keep t (by rintro (h | h) <;> cases h)
 ·rw [jy] at hb'
  exact (htop b hb').trans (h1.top b (Nat.le_trans hg.size hb'))
theorem RM.popFree {X : St} (h : RM s w r κ X) {l : List Nat} {a g cap : Nat} (hl : X.free = l ++ [a]) (hv : X.x.vfree = .slice (some ⟨g,0,none⟩) (l.length + 1) cap) :
 RM s (w.setCell ⟨r,27,none⟩ (.slice (some ⟨g,0,none⟩) l.length cap)) r κ { X with x := { X.x with vfree := .slice (some ⟨g,0,none⟩) l.length cap },free := l } /\ Fr (· = (0,0)) κ κ w (w.setCell ⟨r,27,none⟩ (.slice (some ⟨g,0,none⟩) l.length cap)) := by
 have hr3 : RB (w.setCell ⟨r,27,none⟩ (.slice (some ⟨g,0,none⟩) l.length cap)) r { X.x with vfree := .slice (some ⟨g,0,none⟩) l.length cap } := jf h.run 27 _
 have t : Fr (· = (0,0)) κ κ w (w.setCell ⟨r,27,none⟩ (.slice (some ⟨g,0,none⟩) l.length cap)) := Fr.lone ((Lone.refl r w).set 27 _) h.self rfl
 have hR := h.rows
 refine ⟨⟨hr3,h.self,⟨hR.frs.keep t (by intro h;cases h),fun i f hi => (hR.sls i f hi).keep t (by intro h;cases h),hR.bks.keep t (by intro h;cases h),fun i f hi => (hR.fds i f hi).keep t (by intro h;cases h),?_,hR.out.keep t (by intro h;cases h),hR.ins.keep t (by intro h;cases h),hR.cF.keep t (by intro h;cases h),hR.cN.keep t (by intro h;cases h),hR.cL.keep t (by intro h;cases h)⟩,fun b hb => h.top b (by rw [jy] at hb;exact hb)⟩,t⟩
 have h1 := hR.fre
 rw [hv,hl,show (l ++ [a]).length = l.length + 1 by simp,show jV (l ++ [a]) = jV l ++ [.int .i64 (a : Int)] by simp [jV]] at h1
 exact (h1.pop (by simp [jV])).keep t (by intro h;cases h)
theorem RM.popF {X : St} (h : RM s w r κ X) {l : List FX} {f : FX} {g cap : Nat} (hl : X.fs = l ++ [f]) (hv : X.x.vfr = .slice (some ⟨g,0,none⟩) (l.length + 1) cap) {u0 u1 : Value} :
 RM s (((w.setCell ⟨g,l.length * 2,none⟩ u0).setCell ⟨g,l.length * 2 + 1,none⟩ u1).setCell ⟨r,22,none⟩ (.slice (some ⟨g,0,none⟩) l.length cap)) r κ { X with x := { X.x with vfr := .slice (some ⟨g,0,none⟩) l.length cap },fs := l } /\ Fr (fun t => t = (1,0) \/ t = (0,0)) κ κ w (((w.setCell ⟨g,l.length * 2,none⟩ u0).setCell ⟨g,l.length * 2 + 1,none⟩ u1).setCell ⟨r,22,none⟩ (.slice (some ⟨g,0,none⟩) l.length cap)) := by
 have hR := h.rows
 have h1 := hR.frs
 rw [hv,hl,show (l ++ [f]).length = l.length + 1 by simp,show (l ++ [f]).flatMap fxC = l.flatMap fxC ++ [.int .i64 f.back,f.v] by simp [fxC]] at h1
 have hle := jbP (f := fxC) jbO l
 obtain ⟨T1,t1⟩ := h1.set (l.length * 2) u0
 obtain ⟨T2,t2⟩ := T1.set (l.length * 2 + 1) u1
 rw [List.set_append_right _ _ (by omega),List.set_append_right _ _ (by omega)] at T2
 have T3 := T2.pop hle
 have t12 := t1.trans t2
 have hr2 := h.run.keep h.self t12 (by intro h;cases h)
 have hr3 : RB (((w.setCell ⟨g,l.length * 2,none⟩ u0).setCell ⟨g,l.length * 2 + 1,none⟩ u1).setCell ⟨r,22,none⟩ (.slice (some ⟨g,0,none⟩) l.length cap)) r { X.x with vfr := .slice (some ⟨g,0,none⟩) l.length cap } := jf hr2 22 _
 have t3 : Fr (· = (0,0)) κ κ _ (((w.setCell ⟨g,l.length * 2,none⟩ u0).setCell ⟨g,l.length * 2 + 1,none⟩ u1).setCell ⟨r,22,none⟩ (.slice (some ⟨g,0,none⟩) l.length cap)) := Fr.lone ((Lone.refl r _).set 22 _) h.self rfl
 have t := (t12.mono (S' := fun t => t = (1,0) \/ t = (0,0)) fun _ h => .inl h).trans (t3.mono fun _ h => .inr h)
 refine ⟨⟨hr3,h.self,⟨T3.keep t3 (by intro h;cases h),fun j c hj => ?_,hR.bks.keep t (by rintro (h | h) <;> cases h),fun i f hi => (hR.fds i f hi).keep t (by rintro (h | h) <;> cases h),hR.fre.keep t (by rintro (h | h) <;> cases h),hR.out.keep t (by rintro (h | h) <;> cases h),hR.ins.keep t (by rintro (h | h) <;> cases h),hR.cF.keep t (by rintro (h | h) <;> cases h),hR.cN.keep t (by rintro (h | h) <;> cases h),hR.cL.keep t (by rintro (h | h) <;> cases h)⟩,fun b hb => h.top b (by simp only [jy] at hb;exact hb)⟩,t⟩
 have hj' : X.fs[j]? = some c := by
  rw [hl,List.getElem?_append_left (jG hj).1];exact hj
 exact (hR.sls j c hj').keep t (by rintro (h | h) <;> cases h)
def st5 (w : World) (g o : Nat) (b : HB) : World := ((((w.setCell ⟨g,o,none⟩ (.bool b.use)).setCell ⟨g,o + 1,none⟩ (.int .i64 b.fn)).setCell ⟨g,o + 2,none⟩ b.v).setCell ⟨g,o + 3,none⟩ (.int .i64 b.held)).setCell ⟨g,o + 4,none⟩ (.bool b.rc)
theorem RM.putB {X : St} (h : RM s w r κ X) {i g cap : Nat} {b b' : HB} (hi : X.bs[i]? = some b) (hg : X.x.vbk = .slice (some ⟨g,0,none⟩) X.bs.length cap) (hT : TR w κ (4,i) 78 2 b'.v b'.fs.length (jv b'.fs)) :
 RM s (st5 w g (i * 5) b') r κ { X with bs := X.bs.set i b' } /\ Fr (· = (3,0)) κ κ w (st5 w g (i * 5) b') := by
 have hl : i < X.bs.length := (jG hi).1
 have hR := h.rows
 have h1 := hR.bks
 rw [hg] at h1
 obtain ⟨T1,t1⟩ := h1.set (i * 5 + 0) (.bool b'.use)
 rw [jaw JX hi (k := 0) (a' := { b with use := b'.use }) (by omega) rfl] at T1
 obtain ⟨T2,t2⟩ := T1.set (i * 5 + 1) (.int .i64 b'.fn)
 rw [jaw JX (List.getElem?_set_self hl) (k := 1) (u := (.int .i64 b'.fn)) (a := { b with use := b'.use }) (a' := { b with use := b'.use,fn := b'.fn }) (by omega) rfl,List.set_set] at T2
 obtain ⟨T3,t3⟩ := T2.set (i * 5 + 2) b'.v
 rw [jaw JX (List.getElem?_set_self hl) (k := 2) (u := b'.v) (a := { b with use := b'.use,fn := b'.fn }) (a' := { b with use := b'.use,fn := b'.fn,v := b'.v }) (by omega) rfl,List.set_set] at T3
 obtain ⟨T4,t4⟩ := T3.set (i * 5 + 3) (.int .i64 b'.held)
 rw [jaw JX (List.getElem?_set_self hl) (k := 3) (u := (.int .i64 b'.held)) (a := { b with use := b'.use,fn := b'.fn,v := b'.v }) (a' := { b with use := b'.use,fn := b'.fn,v := b'.v,held := b'.held }) (by omega) rfl,List.set_set] at T4
 obtain ⟨T5,t5⟩ := T4.set (i * 5 + 4) (.bool b'.rc)
 rw [jaw JX (List.getElem?_set_self hl) (k := 4) (u := (.bool b'.rc)) (a := { b with use := b'.use,fn := b'.fn,v := b'.v,held := b'.held }) (a' := b') (by omega) rfl,List.set_set] at T5
 have t : Fr (· = (3,0)) κ κ w (st5 w g (i * 5) b') := (((t1.trans t2).trans t3).trans t4).trans t5
 refine ⟨⟨h.run.keep h.self t (by intro h;cases h),h.self,⟨hR.frs.keep t (by intro h;cases h),fun i f hi => (hR.sls i f hi).keep t (by intro h;cases h),?_,fun j c hj => ?_,hR.fre.keep t (by intro h;cases h),hR.out.keep t (by intro h;cases h),hR.ins.keep t (by intro h;cases h),hR.cF.keep t (by intro h;cases h),hR.cN.keep t (by intro h;cases h),hR.cL.keep t (by intro h;cases h)⟩,fun b hb => h.top b (by simp only [st5,jy] at hb;exact hb)⟩,t⟩
 ·show TR _ κ (3,0) _ 5 X.x.vbk (X.bs.set i b').length _
  rw [hg,List.length_set];exact T5
 ·rcases JJ hj hl with ⟨rfl,rfl⟩ | ⟨e,hj⟩
  ·exact hT.keep t (by intro h;cases h)
  ·exact (hR.fds j c hj).keep t (by intro h;cases h)
theorem Tryz.kiB : (Tryz.prog.info? 174).map (fun i => (i.zero,i.size,i.bytes)) = some (some (.agg #[.bool false,.int .i64 0,.slice none 0 0,.int .i64 0,.bool false]),5,56) := by kernel_rfl
theorem Tryz.kuB : Tryz.prog.underlying 81 = some (.slice 174) := by kernel_rfl
theorem Tryz.kiI : (Tryz.prog.info? 3).map (fun i => (i.zero,i.size,i.bytes)) = some (some (.int .i64 0),1,8) := by kernel_rfl
theorem Tryz.kuI : Tryz.prog.underlying 22 = some (.slice 3) := by kernel_rfl
theorem RM.run_grown {w w1 w2 : World} {v : Value} {t : Tg} (h : RM s w r κ X) (hb : Below w.heap.size w w1) (hg : w1.grownBy w2 v.ownBlock) (hv : ∀ b,v.ownBlock = some b -> κ b = some t) (ht : t ≠ (0,0)) : RB w2 r X.x :=
 (hg.block r (Nat.lt_of_lt_of_le h.lt hb.size) (fun e => by have h1 := hv r e.symm;have h2 := h.self;rw [h1] at h2;cases h2;exact ht rfl)).trans (h.run.below hb)
theorem jjR : ∀ u ∈ hbC hb0,u.oneCell' = true := by
 intro u hu
 simp only [hbC,hb0,List.mem_cons,List.not_mem_nil,or_false] at hu
 rcases hu with rfl | rfl | rfl | rfl | rfl <;> rfl
def Nw (s : ByteArray) (κ : Kp) (w : World) (r : Nat) (P : St -> Prop) (w' : World) : Prop := ∃ κ' X',P X' /\ RM s w' r κ' X' /\ Fr0 κ κ' w w'
set_option maxRecDepth 100000 in
theorem jh1 {X : St} (h : RM s w r κ X) (hf : X.free = []) (hl : X.bs.length <= 100000) :
 Calls Tryz.prog 105 #[.pointer (some ⟨r,23,none⟩)] w fun e w' => e = .returned (.int .i64 X.bs.length) /\ Nw s κ w r (fun X' => ∃ v',X' = { X with x := { X.x with vbk := v' },bs := X.bs ++ [hb0] }) w' := by
 have hlt := h.lt
 have H := jH h
 obtain ⟨i0,hi0,hz0,hz1,hz2⟩ := info_parts Tryz.kiB
 obtain ⟨a7,p7,e7,_⟩ := h.rows.fre.any
 obtain ⟨a6,p6,e6,hc6⟩ := h.rows.bks.any
 have c7 : w.cell? ⟨r,27,none⟩ = some (.slice a7 0 p7) := by
  have : X.x.vfree = .slice a7 0 p7 := by rw [e7,hf];rfl
  rw [<- this];exact ja h.run 27 rfl
 have c6 : w.cell? ⟨r,26,none⟩ = some X.x.vbk := ja h.run 26 rfl
 clear h e7 e6 hf
 go_enter Tryz.func105,Tryz.ntmps105
 go_wp2_with (first
  | (at_builtin;go_loud (refine JO _ rfl (.tmp 17) (.tmp 19) 81 rfl 0 174 i0 _ 5 56 Tryz.kuB hi0 hz0 hz1 hz2 rfl (by decide) _ _ _ rfl (H.out.rows.bks.own.alloc _) _ 1 1 (hbC hb0) rfl rfl (Ja _ _ _ _ (by simp)) ?_ ?_ ?_ ?_ ?_;(exact jjR);(unfold maxLen;omega);omega;(simp);intro v' w4 hown4 hg4 hrow4;obtain ⟨a4,p4,e4⟩ := j5 hown4;subst e4;have hr4 := H.out.run_grown (jB.alloc jN _) hg4 H.out.rows.bks.tag (by decide);have q4 := ja hr4 26 rfl;have z4 := je hr4 26;have HF := jH (H.out.growB (b := hb0) rfl rfl (jB.alloc jN _) hown4 hg4 hrow4);have q5 := ja (jf hr4 26 (.slice a4 (X.bs.length + 1) p4)) 26 rfl;clear hown4 hg4 hrow4)))
 go_returns
 obtain ⟨κ',h1,h2⟩ := HF.out
 exact ⟨rfl,κ',_,⟨_,rfl⟩,h1,h2.all⟩
theorem jh0 {X : St} (h : RM s w r κ X) {l : List Nat} {a : Nat} (hf : X.free = l ++ [a]) (hl : l.length <= 1000000) :
 Calls Tryz.prog 105 #[.pointer (some ⟨r,23,none⟩)] w fun e w' => e = .returned (.int .i64 a) /\ Nw s κ w r (fun X' => ∃ v',X' = { X with x := { X.x with vfree := v' },free := l }) w' := by
 have hlt := h.lt
 have H := jH h
 have hn : X.free.length = l.length + 1 := by rw [hf];simp
 obtain ⟨g,cap,e7,h7,h8,h9⟩ := h.rows.fre.at (by omega)
 rw [hn] at e7
 have c7 : w.cell? ⟨r,27,none⟩ = some (.slice (some ⟨g,0,none⟩) (l.length + 1) cap) := by rw [<- e7];exact ja h.run 27 rfl
 have f7 := je h.run 27
 have hT := h.rows.fre
 rw [e7,hn] at hT
 have d7 : w.cell? ⟨g,l.length,none⟩ = some (.int .i64 a) := hT.cell (by rw [hf];simp [jV])
 have HF := jH (h.popFree hf e7)
 have g1 : (l.length : Int) < ((l.length : Int) + 1) := by omega
 clear h e7 hT h8 hf
 go_enter Tryz.func105,Tryz.ntmps105
 go_wp2
 go_returns
 exact ⟨rfl,κ,_,⟨_,rfl⟩,HF.out.1,HF.out.2.all⟩
def TD (w : World) (κ : Kp) (v : Value) (l : List Nat) : Prop := TR w κ (9,0) 3 1 v l.length (jV l)
def Rc (s : ByteArray) (κ : Kp) (w : World) (r : Nat) (X : St) (bs' : List HB) (l' : List Nat) (e : Ending) (w' : World) : Prop := ∃ κ' v',e = .returned v' /\ RM s w' r κ' { X with bs := bs' } /\ TD w' κ' v' l' /\ Fr (fun t => t = (3,0) \/ t = (9,0)) κ κ' w w'
theorem TD.on {w w' : World} {v : Value} {l : List Nat} (h : TD w κ v l) (hb : Below w.heap.size w w') : TD w' κ v l := h.keep (S := fun _ => False) (Fr.of hb) (fun h => h)
theorem jmU {w w1 : World} (hb : Below w.drew.heap.size w.drew w1) : Below w.heap.size w w1 := jB.drew.trans hb
theorem jhL (h : RM s w r κ X) {v : Value} {l : List Nat} (hv : TD w κ v l) (z : Int) :
 Calls Tryz.prog 117 #[.pointer (some ⟨r,23,none⟩),v,.agg #[.bool false,.int .i64 z]] w fun e w' => Rc s κ w r X X.bs l e w' := by
 have H := jH h
 have HV := jH hv
 clear h hv
 haveI := Wd.ne
 go_enter Tryz.func117,Tryz.ntmps117
 go_wp2
 have hbW : Below w.heap.size w (w.alloc (.cells #[.bool false,.int .i64 z] 78 (0,0))) := jB.alloc jN _
 have hbx := jg w (.cells #[.bool false,.int .i64 z] 78 (0,0))
 generalize w.alloc (.cells #[.bool false,.int .i64 z] 78 (0,0)) = W at hbW hbx ⊢
 have hlt := jb hbx
 have v0 : ∀ y : Wd W.heap.size W,y.v.cell? ⟨w.heap.size,0,none⟩ = some (.bool false) := fun y => Wd.at hbx hlt 0 rfl y
 have v1 : ∀ y : Wd W.heap.size W,y.v.cell? ⟨w.heap.size,1,none⟩ = some (.int .i64 z) := fun y => Wd.at hbx hlt 1 rfl y
 have C : Hid (∀ y : Wd W.heap.size W,Calls Tryz.prog 109 #[.pointer (some ⟨r,23,none⟩),.agg #[.bool false,.int .i64 z]] y.v fun e w' => e = .returned (.bool false) /\ Below y.v.heap.size y.v w') := fun y => jcp ((H.out.on hbW).on y.h) z
 refine jY (by kernel_rfl) (by kernel_rfl) ?_
 repeat (go_big_quiet_step ((go_at_call 109;exact jI jN (C.out _))))
 refine wpQuiet_nil ?_
 intro y
 go_wp2_with fail
 first | go_returns | go_ret
 have hb : Below w.heap.size w y.v := hbW.trans (y.h.mono hbW.size)
 exact ⟨κ,v,rfl,H.out.on hb,HV.out.on hb,Fr.of hb⟩
theorem jhJ (h : RM s w r κ X) {v : Value} {l : List Nat} (hv : TD w κ v l) {i : Nat} {b : HB} (hi : X.bs[i]? = some b) (hr : b.rc = true) :
 Calls Tryz.prog 117 #[.pointer (some ⟨r,23,none⟩),v,.agg #[.bool true,.int .i64 i]] w fun e w' => Rc s κ w r X X.bs l e w' := by
 have H := jH h
 have HV := jH hv
 have hl : i < X.bs.length := (jG hi).1
 have hl' : (i : Int) < (X.bs.length : Int) := by omega
 have HR := jH hr
 have HI := jH hi
 clear h hv hr hi
 haveI := Wd.ne
 go_enter Tryz.func117,Tryz.ntmps117
 go_wp2
 have hbW : Below w.heap.size w (w.alloc (.cells #[.bool true,.int .i64 i] 78 (0,0))) := jB.alloc jN _
 have hbx := jg w (.cells #[.bool true,.int .i64 i] 78 (0,0))
 generalize w.alloc (.cells #[.bool true,.int .i64 i] 78 (0,0)) = W at hbW hbx ⊢
 have hlt := jb hbx
 have v0 : ∀ y : Wd W.heap.size W,y.v.cell? ⟨w.heap.size,0,none⟩ = some (.bool true) := fun y => Wd.at hbx hlt 0 rfl y
 have v1 : ∀ y : Wd W.heap.size W,y.v.cell? ⟨w.heap.size,1,none⟩ = some (.int .i64 i) := fun y => Wd.at hbx hlt 1 rfl y
 obtain ⟨g,cap,e,h2,h3,h4,h5,c0,c1,c2,c3,c4,fz⟩ := H.out.bk HI.out
 have HY : Hid (∀ y : Wd W.heap.size W,Below w.heap.size w y.v) := fun y => hbW.trans (y.h.mono hbW.size)
 have v2 : ∀ y : Wd W.heap.size W,y.v.cell? ⟨r,26,none⟩ = some (.slice (some ⟨g,0,none⟩) X.bs.length cap) := fun y => by rw [<- e];exact ja (H.out.run.below (HY.out y)) 26 rfl
 have v3 : ∀ y : Wd W.heap.size W,y.v.cell? ⟨g,i * 5 + 4,none⟩ = some (.bool true) := fun y => ((HY.out y).cell (p := ⟨g,i * 5 + 4,none⟩) h4).trans (by rw [<- HR.out];exact c4)
 have C : Hid (∀ y : Wd W.heap.size W,Calls Tryz.prog 109 #[.pointer (some ⟨r,23,none⟩),.agg #[.bool true,.int .i64 i]] y.v fun e w' => e = .returned (.bool true) /\ Below y.v.heap.size y.v w') := fun y => jbN (H.out.on (HY.out y)) hl
 clear c0 c1 c2 c3 c4 fz e h3
 refine jY (by kernel_rfl) (by kernel_rfl) ?_
 repeat (go_big_quiet_step ((go_at_call 109;exact jI jN (C.out _))))
 refine wpQuiet_nil ?_
 intro y
 go_wp2_with fail
 first | go_returns | go_ret
 have hb := HY.out y
 exact ⟨κ,v,rfl,H.out.on hb,HV.out.on hb,Fr.of hb⟩
set_option maxRecDepth 100000 in
theorem jhK (h : RM s w r κ X) {v : Value} {l : List Nat} (hv : TD w κ v l) (hll : l.length <= 1000000) {i : Nat} {b : HB} (hi : X.bs[i]? = some b) (hr : b.rc = false) :
 Calls Tryz.prog 117 #[.pointer (some ⟨r,23,none⟩),v,.agg #[.bool true,.int .i64 i]] w fun e w' => Rc s κ w r X (X.bs.set i { b with rc := true }) (l ++ [i]) e w' := by
 have H := jH h
 have HV := jH hv
 have hl : i < X.bs.length := (jG hi).1
 have hl' : (i : Int) < (X.bs.length : Int) := by omega
 have HR := jH hr
 have HI := jH hi
 obtain ⟨i0,hi0,hz0,hz1,hz2⟩ := info_parts Tryz.kiI
 clear h hv hr hi
 haveI := Wd.ne
 go_enter Tryz.func117,Tryz.ntmps117
 go_wp2
 have hbW : Below w.heap.size w (w.alloc (.cells #[.bool true,.int .i64 i] 78 (0,0))) := jB.alloc jN _
 have hbx := jg w (.cells #[.bool true,.int .i64 i] 78 (0,0))
 generalize w.alloc (.cells #[.bool true,.int .i64 i] 78 (0,0)) = W at hbW hbx ⊢
 have hlt := jb hbx
 have v0 : ∀ y : Wd W.heap.size W,y.v.cell? ⟨w.heap.size,0,none⟩ = some (.bool true) := fun y => Wd.at hbx hlt 0 rfl y
 have v1 : ∀ y : Wd W.heap.size W,y.v.cell? ⟨w.heap.size,1,none⟩ = some (.int .i64 i) := fun y => Wd.at hbx hlt 1 rfl y
 obtain ⟨g,cap,e,h2,h3,h4,h5,c0,c1,c2,c3,c4,fz⟩ := H.out.bk HI.out
 have HY : Hid (∀ y : Wd W.heap.size W,Below w.heap.size w y.v) := fun y => hbW.trans (y.h.mono hbW.size)
 have v2 : ∀ y : Wd W.heap.size W,y.v.cell? ⟨r,26,none⟩ = some (.slice (some ⟨g,0,none⟩) X.bs.length cap) := fun y => by rw [<- e];exact ja (H.out.run.below (HY.out y)) 26 rfl
 have v3 : ∀ y : Wd W.heap.size W,y.v.cell? ⟨g,i * 5 + 4,none⟩ = some (.bool false) := fun y => ((HY.out y).cell (p := ⟨g,i * 5 + 4,none⟩) h4).trans (by rw [<- HR.out];exact c4)
 have C : Hid (∀ y : Wd W.heap.size W,Calls Tryz.prog 109 #[.pointer (some ⟨r,23,none⟩),.agg #[.bool true,.int .i64 i]] y.v fun e w' => e = .returned (.bool true) /\ Below y.v.heap.size y.v w') := fun y => jbN (H.out.on (HY.out y)) hl
 have HE := jH e
 clear c0 c1 c2 c3 c4 fz e h3
 refine jY (by kernel_rfl) (by kernel_rfl) ?_
 repeat (go_big_quiet_step ((go_at_call 109;exact jI jN (C.out _))))
 refine wpQuiet_nil ?_
 intro y
 go_wp2_with fail
 have hb := HY.out y
 have h1 := H.out.on hb
 have q1 := v1 y
 have q2 := v2 y
 have q3 := v3 y
 have TV := jH (HV.out.on hb)
 have HF := jH (h1.setB (k := 4) (u := .bool true) (b' := { b with rc := true }) HI.out HE.out (by omega) rfl rfl rfl)
 have z1 : y.v.frozen? ⟨g,i * 5 + 4,none⟩ = false := by
  have := h1.rows.bks
  rw [HE.out] at this
  exact this.frz _
 have hne : g ≠ w.heap.size := by omega
 have hy := y.h.size
 have HB := jH hb
 have hgy : g < y.v.heap.size := by have := hb.size;omega
 have hwy : w.heap.size < y.v.heap.size := by omega
 generalize y.v = w1 at *
 clear v0 v1 v2 v3 C HY h1 hb
 go_region
 rename_i Q' K hK
 refine hK _ _ ?_
 have T2 := jH (TR.keep TV.out HF.out.2.drew (by intro h;cases h))
 go_wp2_with (first
  | (at_builtin;go_loud (refine JO _ rfl (.tmp 31) (.tmp 34) 22 rfl 0 3 i0 _ 1 8 Tryz.kuI hi0 hz0 hz1 hz2 rfl (by decide) _ _ _ rfl (T2.out.own.alloc _) _ 1 1 [.int .i64 (i : Int)] rfl rfl (Ja _ _ _ _ (by simp)) ?_ ?_ ?_ ?_ ?_;(intro u hu;simp at hu;subst hu;rfl);(unfold maxLen;omega);omega;(simp);intro v' w4 hown4 hg4 hrow4)))
 go_returns
 obtain ⟨hm,hf⟩ := HF.out
 have hA := (Below.refl _ (w1.setCell ⟨g,i * 5 + 4,none⟩ (.bool true)).drew).alloc jN (.cells #[.int .i64 (i : Int)] 3)
 obtain ⟨κ',t1,t2,t3⟩ := (TD.on T2.out hA).app hown4 hg4 hrow4
 have hf2 := hf.drew.trans (Fr.of (S := (· = (3,0))) hA)
 refine ⟨κ',v',rfl,(hm.drew.on hA).keep t2 (fun k i hk h => by cases h;omega) t3,?_,?_⟩
 ·show TR _ _ _ _ _ _ (l ++ [i]).length (jV (l ++ [i]))
  rw [show (l ++ [i]).length = l.length + 1 by simp,show jV (l ++ [i]) = jV l ++ [.int .i64 (i : Int)] by simp [jV]]
  exact t1
 ·exact ((Fr.of HB.out).trans (hf2.mono fun _ h => .inl h)).trans (t2.mono fun _ h => .inr h)
theorem jc6 (h : RM s w r κ X) {v : Value} {l : List Nat} (hv : TD w κ v l) (hll : l.length <= 1000000) (u : V) (hu : ∀ i,u = .b i -> i < X.bs.length) :
 Calls Tryz.prog 117 #[.pointer (some ⟨r,23,none⟩),v,av u] w fun e w' => Rc s κ w r X (jQ (X.bs,l) u).1 (jQ (X.bs,l) u).2 e w' := by
 cases u with
 | n z => exact jhL h hv z
 | b i =>
   have hl := hu i rfl
   obtain ⟨b,hb⟩ : ∃ b,X.bs[i]? = some b := ⟨_,List.getElem?_eq_getElem hl⟩
   cases hr : b.rc with
   | true => rw [jep (p := (X.bs,l)) hb hr];exact jhJ h hv hb hr
   | false => rw [jeq (p := (X.bs,l)) hb hr];exact jhK h hv hll hb hr
end Ko
end Go.Proofs.YtjmgolahkgalbaaGreatDoor
