import Derived.Test.YtjmgolahkgalbaaGreatDoorS25
set_option linter.unusedVariables false
set_option linter.unusedSimpArgs false
set_option maxHeartbeats 20000000
namespace Go.Proofs.YtjmgolahkgalbaaGreatDoor
namespace Ko
open Go.RowKit Li
variable {s : ByteArray} {w : World} {m : Nat} {r : Nat}
variable {κ : Kp} {Y : Dt}
theorem DM.drew {p : Nat} (h : DM s w p κ Y) : DM s w.drew p κ Y := ⟨h.mac,h.self,h.rows.keep (S := fun _ => False) (Fr.refl _ _ _).drew (fun _ _ _ h => h),h.top⟩
theorem DM.other {w w' : World} {X : Dt} (h : DM s w r κ X) {b : Nat} (hb : κ b = none) (hl : Lone b w w') : DM s w' r κ X := by
 have hR := h.rows
 have hn : ∀ t : Tg,κ b ≠ some t := fun t e => by rw [hb] at e;cases e
 have bo : ∀ {t : Tg} {k : Nat} {o : Obj},BO w κ t k o -> BO w' κ t k o := fun {t k o} h1 => ⟨(hl.rest k (jb h1.blk) (fun e => hn t (e ▸ h1.tag))).trans h1.blk,h1.tag⟩
 exact ⟨(hl.rest r h.lt (fun e => hn _ (e ▸ h.self))).trans h.mac,h.self,⟨hR.rgs.other (hn _) hl,hR.frs.other (hn _) hl,fun i f hi => bo (hR.fst i f hi),fun i f hi => (hR.sls i f hi).other (hn _) hl,hR.bks.other (hn _) hl,fun i f hi => bo (hR.bst i f hi),fun i f hi => (hR.vls i f hi).other (hn _) hl,hR.out.other (hn _) hl,hR.ins.other (hn _) hl,bo hR.prg,hR.cF.other (hn _) hl,hR.cN.other (hn _) hl,hR.cL.other (hn _) hl⟩,fun k hk => h.top k (Nat.le_trans hl.size hk)⟩
def jF (Y : Dt) (e p : Nat) : Dt := { Y with x := { Y.x with err := e,pos := p } }
def DOk (s : ByteArray) (κ : Kp) (w : World) (p : Nat) (Y' : Dt) (e : Ending) (w' : World) : Prop := e = .returned (.tuple #[]) /\ ∃ κ',DM s w' p κ' Y' /\ Fr0 κ κ' w w'
theorem Jf (h : DM s w m κ Y) (e p : Nat) :
 Calls Tryz.prog 33 #[.pointer (some ⟨m,0,none⟩),.int .i64 e,.int .i64 p] w fun en w' => en = .returned (.tuple #[]) /\ DM s w' m κ (jF Y e p) /\ Fr0 κ κ w w' := by
 have H := jH h
 have hlt := h.lt
 have c10 : w.cell? ⟨m,10,none⟩ = some (.int .i64 Y.x.err) := ja h.mac 10 rfl
 have c11 : w.cell? ⟨m,11,none⟩ = some (.int .i64 Y.x.pos) := ja h.mac 11 rfl
 have z10 := je h.mac 10
 have z11 := je h.mac 11
 clear h
 go_enter Tryz.func33,Tryz.ntmps33
 go_wp2
 go_returns
 have hL : Lone m w ((w.setCell ⟨m,10,none⟩ (.int .i64 e)).setCell ⟨m,11,none⟩ (.int .i64 p)) := ((Lone.refl _ _).set _ _).set _ _
 exact ⟨rfl,H.out.upd (x' := { Y.x with err := e,pos := p }) (jf (jf H.out.mac 10 _) 11 _) hL rfl,H.out.low hL⟩
theorem jdJ (b : Bool) (w : World) : Calls Tryz.prog 31 #[.bool b] w fun e w' => e = .returned (.int .i64 (tru b)) /\ w' = w := by
 cases b
 all_goals
  go_enter Tryz.func31,Tryz.ntmps31
  go_wp2
  go_ret
  exact ⟨rfl,rfl⟩
theorem jc9 {z : Int} (hz : -9223372036854775808 <= z /\ z <= 9223372036854775807) (w : World) : Calls Tryz.prog 30 #[.int .i64 z] w fun e w' => e = .returned (.agg #[.bool false,.int .i64 (w63 z)]) /\ Below w.heap.size w w' := by
 have h1 := hz.1
 have h2 := hz.2
 by_cases ha : 4611686018427387903 < z
 ·have g1 : decide ((4611686018427387903 : Int) < z) = true := by simpa using ha
  have e : w63 z = z - 4611686018427387903 - 1 - 4611686018427387903 - 1 := by unfold w63;omega
  rw [e]
  clear e hz
  go_enter Tryz.func30,Tryz.ntmps30
  go_wp2
  go_returns
  exact ⟨rfl,jB.alloc jN _⟩
 ·have g1 : decide ((4611686018427387903 : Int) < z) = false := by simpa using ha
  by_cases hb : z < -4611686018427387904
  ·have g2 : decide (z < (-4611686018427387904 : Int)) = true := by simpa using hb
   have e : w63 z = z + 4611686018427387903 + 1 + 4611686018427387903 + 1 := by unfold w63;omega
   rw [e]
   clear e hz
   go_enter Tryz.func30,Tryz.ntmps30
   go_wp2
   go_returns
   exact ⟨rfl,jB.alloc jN _⟩
  ·have g2 : decide (z < (-4611686018427387904 : Int)) = false := by simpa using hb
   have e : w63 z = z := by unfold w63;omega
   rw [e]
   clear e hz
   go_enter Tryz.func30,Tryz.ntmps30
   go_wp2
   go_returns
   exact ⟨rfl,jB.alloc jN _⟩
def VL (w : World) (g : Nat) (l : List V) : Prop := ∀ i u,l[i]? = some u -> w.cell? ⟨g,i * 2,none⟩ = some (.bool (vb u))
theorem jaU (h : DM s w m κ Y) {g : Nat} {l : List V} (hg : g < w.heap.size) (hv : VL w g l) (hl : l.length <= 10) (hn : ∀ u ∈ l,vb u = false) :
 Calls Tryz.prog 28 #[.pointer (some ⟨m,0,none⟩),.slice (some ⟨g,0,none⟩) l.length l.length] w fun e w' => e = .returned (.bool true) /\ w' = w := by
 have HV := jH hv
 have HN := jH hn
 clear h hv hn
 go_enter Tryz.func28,Tryz.ntmps28
 go_wp2
 go_loopg [5] l.length (fun gh s5 (wr : World) => ∃ i : Nat,i <= l.length /\ gh = l.length - i /\ s5 = .int .i64 i /\ wr = w)
 case atStart => exact ⟨0,Nat.zero_le _,rfl,rfl,rfl⟩
 case round =>
  obtain ⟨i,hi,hgi,rfl,rfl⟩ := hrel
  by_cases hlt : i < l.length
  ·have g1 : decide ((i : Int) < (l.length : Int)) = true := by simp;omega
   have g2 : (i : Int) < (l.length : Int) := by omega
   obtain ⟨u,hu⟩ : ∃ u,l[i]? = some u := ⟨_,List.getElem?_eq_getElem hlt⟩
   have c0 := HV.out i u hu
   rw [HN.out u (List.mem_of_getElem? hu)] at c0
   clear hu
   go_wp2
   go_roundg (l.length - (i + 1))
   case measure => omega
   case rel => exact ⟨i + 1,by omega,rfl,by simp,rfl⟩
  ·have hin : i = l.length := by omega
   subst hin
   have g1 : decide ((l.length : Int) < (l.length : Int)) = false := by simp
   go_wp2
   go_ret
   exact ⟨rfl,rfl⟩
theorem jat (h : DM s w m κ Y) {g : Nat} {l : List V} (hg : g < w.heap.size) (hv : VL w g l) (hl : l.length <= 10) {k : Nat} {t : V} (hk : l[k]? = some t) (ht : vb t = true) (hn : ∀ (i : Nat) (u : V),i < k -> l[i]? = some u -> vb u = false) :
 Calls Tryz.prog 28 #[.pointer (some ⟨m,0,none⟩),.slice (some ⟨g,0,none⟩) l.length l.length] w fun e w' => e = .returned (.bool false) /\ DM s w' m κ (jF Y 50 0) /\ Fr0 κ κ w w' := by
 have H := jH h
 have HV := jH hv
 have HN := jH hn
 have HK := jH hk
 have HT := jH ht
 have hkl : k < l.length := (jG hk).1
 clear h hv hn hk ht
 go_enter Tryz.func28,Tryz.ntmps28
 go_wp2
 go_loopg [5] k (fun gh s5 (wr : World) => ∃ i : Nat,i <= k /\ gh = k - i /\ s5 = .int .i64 i /\ wr = w)
 case atStart => exact ⟨0,Nat.zero_le _,rfl,rfl,rfl⟩
 case round =>
  obtain ⟨i,hi,hgi,rfl,rfl⟩ := hrel
  have g1 : decide ((i : Int) < (l.length : Int)) = true := by simp;omega
  have g2 : (i : Int) < (l.length : Int) := by omega
  by_cases hlt : i < k
  ·obtain ⟨u,hu⟩ : ∃ u,l[i]? = some u := ⟨_,List.getElem?_eq_getElem (by omega)⟩
   have c0 := HV.out i u hu
   rw [HN.out i u hlt hu] at c0
   clear hu
   go_wp2
   go_roundg (k - (i + 1))
   case measure => omega
   case rel => exact ⟨i + 1,by omega,rfl,by simp,rfl⟩
  ·have hin : i = k := by omega
   subst hin
   have c0 := HV.out i t HK.out
   rw [HT.out] at c0
   go_wp2_with (first
    | (go_at_call 33;refine (Jf H.out 50 0).mono ?_;rintro _ w3 ⟨rfl,h3,f3⟩))
   go_ret
   exact ⟨rfl,h3,f3⟩
theorem jbY {m op q x y p : Nat} {i n : Int} (hi : 0 <= i /\ i < n) :
 Calls Tryz.prog 62 #[.pointer (some ⟨m,0,none⟩),.agg #[.int .i64 op,.int .i64 q,.int .i64 x,.int .i64 y,.int .i64 p],.int .i64 i,.int .i64 n] w fun e w' => e = .returned (.bool true) /\ Below w.heap.size w w' := by
 have g1 : decide ((0 : Int) <= i) = true := by simpa using hi.1
 have g2 : decide (i < n) = true := by simpa using hi.2
 clear hi
 go_enter Tryz.func62,Tryz.ntmps62
 go_wp2
 go_returns
 exact ⟨rfl,jB.alloc jN _⟩
theorem jbZ (h : DM s w m κ Y) {op q x y p : Nat} {i n : Int} (hi : ¬ (0 <= i /\ i < n)) :
 Calls Tryz.prog 62 #[.pointer (some ⟨m,0,none⟩),.agg #[.int .i64 op,.int .i64 q,.int .i64 x,.int .i64 y,.int .i64 p],.int .i64 i,.int .i64 n] w fun e w' => e = .returned (.bool false) /\ DM s w' m κ (if op = 24 \/ op = 25 then jF Y 30 p else jF Y 50 0) /\ Fr0 κ κ w w' := by
 have H := jH h
 obtain ⟨b1,h1⟩ : ∃ b1,decide ((0 : Int) <= i) = b1 := ⟨_,rfl⟩
 obtain ⟨b2,h2⟩ : ∃ b2,decide (i < n) = b2 := ⟨_,rfl⟩
 have hb : (b1 && b2) = false := by
  rw [<- h1,<- h2]
  simpa using hi
 have hA := (Below.refl w.heap.size w).alloc jN (.cells #[.int .i64 (op : Int),.int .i64 (q : Int),.int .i64 (x : Int),.int .i64 (y : Int),.int .i64 (p : Int)] 60 (0,0))
 have HM := jH (H.out.on hA)
 have HA := jH hA
 clear h hi hA
 by_cases ho : op = 24 \/ op = 25
 ·rw [if_pos ho]
  cases b1 <;> cases b2 <;> first | (exfalso;cases hb;done) | (
   rcases ho with rfl | rfl
   all_goals
    go_enter Tryz.func62,Tryz.ntmps62
    go_wp2_with (first
     | (go_at_call 33;refine (Jf HM.out 30 p).mono ?_;rintro _ w3 ⟨rfl,h3,f3⟩))
    go_ret
    exact ⟨rfl,h3,Fr0.trans (Fr.of HA.out) f3⟩)
 ·rw [if_neg ho]
  have o1 : ((op : Int) == 24) = false := by rw [beq_eq_false_iff_ne];omega
  have o2 : ((op : Int) == 25) = false := by rw [beq_eq_false_iff_ne];omega
  cases b1 <;> cases b2 <;> first | (exfalso;cases hb;done) | (
   go_enter Tryz.func62,Tryz.ntmps62
   go_wp2_with (first
    | (go_at_call 33;refine (Jf HM.out 50 0).mono ?_;rintro _ w3 ⟨rfl,h3,f3⟩))
   go_ret
   exact ⟨rfl,h3,Fr0.trans (Fr.of HA.out) f3⟩)
theorem BO.tagged {t t' : Tg} {k b : Nat} {o : Obj} (h : BO w κ t k o) (hb : κ b = none) : BO w (jq κ b t') t k o := ⟨h.blk,by
 have := h.tag
 unfold jq
 split
 ·rename_i e2;rw [e2,hb] at this;cases this
 ·exact this⟩
theorem DM.tag {p : Nat} (h : DM s w p κ Y) {b : Nat} (t : Tg) (hb : κ b = none) (hl : b < w.heap.size) : DM s w p (jq κ b t) Y := by
 have hR := h.rows
 have hn : ∀ t : Tg,κ b ≠ some t := fun t e => by rw [hb] at e;cases e
 refine ⟨h.mac,?_,⟨hR.rgs.tagged (hn _),hR.frs.tagged (hn _),fun i f hi => (hR.fst i f hi).tagged hb,fun i f hi => (hR.sls i f hi).tagged (hn _),hR.bks.tagged (hn _),fun i f hi => (hR.bst i f hi).tagged hb,fun i f hi => (hR.vls i f hi).tagged (hn _),hR.out.tagged (hn _),hR.ins.tagged (hn _),hR.prg.tagged hb,hR.cF.tagged (hn _),hR.cN.tagged (hn _),hR.cL.tagged (hn _)⟩,fun k hk => by unfold jq;rw [if_neg (by omega)];exact h.top k hk⟩
 have := h.self
 unfold jq
 split
 ·rename_i e2;rw [e2,hb] at this;cases this
 ·exact this
theorem DM.run_grown {w w1 w2 : World} {X : Dt} {v : Value} {t : Tg} (h : DM s w r κ X) (hb : Below w.heap.size w w1) (hg : w1.grownBy w2 v.ownBlock) (hv : ∀ b,v.ownBlock = some b -> κ b = some t) (ht : t ≠ (10,0)) : MB w2 r X.x :=
 (hg.block r (Nat.lt_of_lt_of_le h.lt hb.size) (fun e => by have h1 := hv r e.symm;have h2 := h.self;rw [h1] at h2;cases h2;exact ht rfl)).trans (jc h.mac hb h.lt)
variable {f : HX}
theorem DM.growF {p : Nat} {Y : Dt} (h : DM s w p κ Y) {w1 w2 : World} {v' : Value} (hst : BO w κ (12,Y.fs.length) f.b (fsO f)) (hT : TR w κ (16,Y.fs.length) 89 2 f.v f.sl.length (jv f.sl)) (hb : Below w.heap.size w w1) (ho : w2.ownsRow 0 87 1 v' (Y.fs.length + 1) ((Y.fs.map fun f => pt f.b) ++ [pt f.b])) (hg : w1.grownBy w2 Y.x.vfr.ownBlock) (hbk : v'.ownBlock = Y.x.vfr.ownBlock \/ v'.ownBlock = some w1.heap.size) :
 ∃ κ',DM s (w2.setCell ⟨p,5,none⟩ v') p κ' { Y with x := { Y.x with vfr := v' },fs := Y.fs ++ [f] } /\ Fr (fun t => t = (11,0) \/ t = (10,0)) κ κ' w (w2.setCell ⟨p,5,none⟩ v') := by
 have t0 : Fr (· = (11,0)) κ κ w w1 := Fr.of hb
 have h1 := h.on hb
 obtain ⟨κ',T1,t1,htop⟩ := h1.rows.frs.app ho hg hbk
 have t01 := t0.trans t1
 have hr2 : MB w2 p Y.x := h.mac.keep h.self t01 (by intro h;cases h)
 have hs2 : κ' p = some (10,0) := (t01.old p h.lt).trans h.self
 have hr3 : MB (w2.setCell ⟨p,5,none⟩ v') p { Y.x with vfr := v' } := jf hr2 5 v'
 have t2 : Fr (· = (10,0)) κ' κ' w2 (w2.setCell ⟨p,5,none⟩ v') := Fr.lone ((Lone.refl p w2).set 5 v') hs2 rfl
 have t : Fr (fun t => t = (11,0) \/ t = (10,0)) κ κ' w (w2.setCell ⟨p,5,none⟩ v') := (t01.mono fun _ h => .inl h).trans (t2.mono fun _ h => .inr h)
 have hR := h.rows
 refine ⟨κ',⟨hr3,hs2,⟨hR.rgs.keep t (by rintro (h | h) <;> cases h),?_,fun j c hj => ?_,fun j c hj => ?_,hR.bks.keep t (by rintro (h | h) <;> cases h),fun i f hi => (hR.bst i f hi).keep t (by rintro (h | h) <;> cases h),fun i f hi => (hR.vls i f hi).keep t (by rintro (h | h) <;> cases h),hR.out.keep t (by rintro (h | h) <;> cases h),hR.ins.keep t (by rintro (h | h) <;> cases h),hR.prg.keep t (by rintro (h | h) <;> cases h),hR.cF.keep t (by rintro (h | h) <;> cases h),hR.cN.keep t (by rintro (h | h) <;> cases h),hR.cL.keep t (by rintro (h | h) <;> cases h)⟩,fun b hb' => ?_⟩,t⟩
 ·show TR _ κ' (11,0) _ 1 v' (Y.fs ++ [f]).length ((Y.fs ++ [f]).map fun f => pt f.b)
  rw [show (Y.fs ++ [f]).length = Y.fs.length + 1 by simp,show ((Y.fs ++ [f]).map fun f => pt f.b) = (Y.fs.map fun f => pt f.b) ++ [pt f.b] by simp]
  exact T1.keep t2 (by intro h;cases h)
 ·rcases jaW hj with ⟨_,hj⟩ | ⟨rfl,rfl⟩
  ·exact (hR.fst j c hj).keep t (by rintro (h | h) <;> cases h)
  ·exact hst.keep t (by rintro (h | h) <;> cases h)
 ·rcases jaW hj with ⟨_,hj⟩ | ⟨rfl,rfl⟩
  ·exact (hR.sls j c hj).keep t (by rintro (h | h) <;> cases h)
  ·exact hT.keep t (by rintro (h | h) <;> cases h)
 ·rw [jy] at hb'
  exact (htop b hb').trans (h1.top b (Nat.le_trans hg.size hb'))
theorem DM.growB {p : Nat} {Y : Dt} (h : DM s w p κ Y) {w1 w2 : World} {v' : Value} {f : GX} (hst : BO w κ (14,Y.ds.length) f.b (bsO f)) (hT : TR w κ (15,Y.ds.length) 89 2 f.v f.fs.length (jv f.fs)) (hb : Below w.heap.size w w1) (ho : w2.ownsRow 0 102 1 v' (Y.ds.length + 1) ((Y.ds.map fun f => pt f.b) ++ [pt f.b])) (hg : w1.grownBy w2 Y.x.vbk.ownBlock) (hbk : v'.ownBlock = Y.x.vbk.ownBlock \/ v'.ownBlock = some w1.heap.size) :
 ∃ κ',DM s (w2.setCell ⟨p,4,none⟩ v') p κ' { Y with x := { Y.x with vbk := v' },ds := Y.ds ++ [f] } /\ Fr (fun t => t = (13,0) \/ t = (10,0)) κ κ' w (w2.setCell ⟨p,4,none⟩ v') := by
 have t0 : Fr (· = (13,0)) κ κ w w1 := Fr.of hb
 have h1 := h.on hb
 obtain ⟨κ',T1,t1,htop⟩ := h1.rows.bks.app ho hg hbk
 have t01 := t0.trans t1
 have hr2 : MB w2 p Y.x := h.mac.keep h.self t01 (by intro h;cases h)
 have hs2 : κ' p = some (10,0) := (t01.old p h.lt).trans h.self
 have hr3 : MB (w2.setCell ⟨p,4,none⟩ v') p { Y.x with vbk := v' } := jf hr2 4 v'
 have t2 : Fr (· = (10,0)) κ' κ' w2 (w2.setCell ⟨p,4,none⟩ v') := Fr.lone ((Lone.refl p w2).set 4 v') hs2 rfl
 have t : Fr (fun t => t = (13,0) \/ t = (10,0)) κ κ' w (w2.setCell ⟨p,4,none⟩ v') := (t01.mono fun _ h => .inl h).trans (t2.mono fun _ h => .inr h)
 have hR := h.rows
 refine ⟨κ',⟨hr3,hs2,⟨hR.rgs.keep t (by rintro (h | h) <;> cases h),hR.frs.keep t (by rintro (h | h) <;> cases h),fun i f hi => (hR.fst i f hi).keep t (by rintro (h | h) <;> cases h),fun i f hi => (hR.sls i f hi).keep t (by rintro (h | h) <;> cases h),?_,fun j c hj => ?_,fun j c hj => ?_,hR.out.keep t (by rintro (h | h) <;> cases h),hR.ins.keep t (by rintro (h | h) <;> cases h),hR.prg.keep t (by rintro (h | h) <;> cases h),hR.cF.keep t (by rintro (h | h) <;> cases h),hR.cN.keep t (by rintro (h | h) <;> cases h),hR.cL.keep t (by rintro (h | h) <;> cases h)⟩,fun b hb' => ?_⟩,t⟩
 ·show TR _ κ' (13,0) _ 1 v' (Y.ds ++ [f]).length ((Y.ds ++ [f]).map fun f => pt f.b)
  rw [show (Y.ds ++ [f]).length = Y.ds.length + 1 by simp,show ((Y.ds ++ [f]).map fun f => pt f.b) = (Y.ds.map fun f => pt f.b) ++ [pt f.b] by simp]
  exact T1.keep t2 (by intro h;cases h)
 ·rcases jaW hj with ⟨_,hj⟩ | ⟨rfl,rfl⟩
  ·exact (hR.bst j c hj).keep t (by rintro (h | h) <;> cases h)
  ·exact hst.keep t (by rintro (h | h) <;> cases h)
 ·rcases jaW hj with ⟨_,hj⟩ | ⟨rfl,rfl⟩
  ·exact (hR.vls j c hj).keep t (by rintro (h | h) <;> cases h)
  ·exact hT.keep t (by rintro (h | h) <;> cases h)
 ·rw [jy] at hb'
  exact (htop b hb').trans (h1.top b (Nat.le_trans hg.size hb'))
variable {l : List HX}
theorem DM.popF {p : Nat} {Y : Dt} (h : DM s w p κ Y) {g cap : Nat} (hl : Y.fs = l ++ [f]) (hv : Y.x.vfr = .slice (some ⟨g,0,none⟩) (l.length + 1) cap) :
 DM s (w.setCell ⟨p,5,none⟩ (.slice (some ⟨g,0,none⟩) l.length cap)) p κ { Y with x := { Y.x with vfr := .slice (some ⟨g,0,none⟩) l.length cap },fs := l } /\ Fr (· = (10,0)) κ κ w (w.setCell ⟨p,5,none⟩ (.slice (some ⟨g,0,none⟩) l.length cap)) := by
 have hr3 : MB (w.setCell ⟨p,5,none⟩ (.slice (some ⟨g,0,none⟩) l.length cap)) p { Y.x with vfr := .slice (some ⟨g,0,none⟩) l.length cap } := jf h.mac 5 _
 have t : Fr (· = (10,0)) κ κ w (w.setCell ⟨p,5,none⟩ (.slice (some ⟨g,0,none⟩) l.length cap)) := Fr.lone ((Lone.refl p w).set 5 _) h.self rfl
 have hR := h.rows
 have hj' : ∀ {j : Nat} {c : HX},l[j]? = some c -> Y.fs[j]? = some c := fun {j c} hj => by rw [hl,List.getElem?_append_left (jG hj).1];exact hj
 refine ⟨⟨hr3,h.self,⟨hR.rgs.keep t (by intro h;cases h),?_,fun j c hj => (hR.fst j c (hj' hj)).keep t (by intro h;cases h),fun j c hj => (hR.sls j c (hj' hj)).keep t (by intro h;cases h),hR.bks.keep t (by intro h;cases h),fun i f hi => (hR.bst i f hi).keep t (by intro h;cases h),fun i f hi => (hR.vls i f hi).keep t (by intro h;cases h),hR.out.keep t (by intro h;cases h),hR.ins.keep t (by intro h;cases h),hR.prg.keep t (by intro h;cases h),hR.cF.keep t (by intro h;cases h),hR.cN.keep t (by intro h;cases h),hR.cL.keep t (by intro h;cases h)⟩,fun b hb => h.top b (by rw [jy] at hb;exact hb)⟩,t⟩
 have h1 := hR.frs
 rw [hv,hl,show (l ++ [f]).length = l.length + 1 by simp,show ((l ++ [f]).map fun f => pt f.b) = (l.map fun f => pt f.b) ++ [pt f.b] by simp] at h1
 exact (h1.pop (by simp)).keep t (by intro h;cases h)
theorem DM.fr {p : Nat} (h : DM s w p κ Y) {i : Nat} (hi : Y.fs[i]? = some f) :
 ∃ g cap,Y.x.vfr = .slice (some ⟨g,0,none⟩) Y.fs.length cap /\ Y.fs.length <= cap /\ κ g = some (11,0) /\ g < w.heap.size /\ i < Y.fs.length /\ w.cell? ⟨g,i,none⟩ = some (pt f.b) /\ w.cell? ⟨f.b,0,none⟩ = some f.v /\ w.cell? ⟨f.b,1,none⟩ = some (.int .i64 f.back) /\ f.b < w.heap.size := by
 have hl : i < Y.fs.length := (jG hi).1
 obtain ⟨g,cap,e,h1,h2,h3⟩ := h.rows.frs.at (by omega)
 have hb := h.rows.frs
 rw [e] at hb
 have hf := (h.rows.fst i f hi).blk
 exact ⟨g,cap,e,h1,h2,h3,hl,hb.cell (by rw [List.getElem?_map,hi];rfl),ja hf 0 rfl,ja hf 1 rfl,jb hf⟩
theorem DM.bk {p : Nat} (h : DM s w p κ Y) {i : Nat} {f : GX} (hi : Y.ds[i]? = some f) :
 ∃ g cap,Y.x.vbk = .slice (some ⟨g,0,none⟩) Y.ds.length cap /\ Y.ds.length <= cap /\ κ g = some (13,0) /\ g < w.heap.size /\ i < Y.ds.length /\ w.cell? ⟨g,i,none⟩ = some (pt f.b) /\ w.cell? ⟨f.b,0,none⟩ = some f.v /\ w.cell? ⟨f.b,1,none⟩ = some (.int .i64 f.fn) /\ f.b < w.heap.size := by
 have hl : i < Y.ds.length := (jG hi).1
 obtain ⟨g,cap,e,h1,h2,h3⟩ := h.rows.bks.at (by omega)
 have hb := h.rows.bks
 rw [e] at hb
 have hf := (h.rows.bst i f hi).blk
 exact ⟨g,cap,e,h1,h2,h3,hl,hb.cell (by rw [List.getElem?_map,hi];rfl),ja hf 0 rfl,ja hf 1 rfl,jb hf⟩
theorem DM.fn {p : Nat} (h : DM s w p κ Y) {k : Nat} (hk : k < hF s) : ∃ g c,w.cell? ⟨p,0,none⟩ = some (.pointer (some ⟨Y.x.q,0,none⟩)) /\ w.cell? ⟨Y.x.q,0,none⟩ = some (.slice (some ⟨g,0,none⟩) (hF s) c) /\ hF s <= c /\ g < w.heap.size /\ Y.x.q < w.heap.size /\ w.cell? ⟨g,k * 5,none⟩ = some (.int .i64 (r0 s k)) /\ w.cell? ⟨g,k * 5 + 1,none⟩ = some (.int .i64 (r1 s k)) /\ w.cell? ⟨g,k * 5 + 3,none⟩ = some (.int .i64 (r3 s k)) := by
 obtain ⟨g,c,e,h1,_,h3⟩ := h.rows.cF.at (by omega)
 have hT := h.rows.cF
 rw [e] at hT
 have hc : ∀ o,o < 5 -> w.cell? ⟨g,k * 5 + o,none⟩ = (dF s (hF s) k)[o]? := fun o ho => by
  rw [hT.own.cellAt _ (by omega)]
  exact Jq (jai s _) ho (hF s) hk
 refine ⟨g,c,ja h.mac 0 rfl,?_,h1,h3,jb h.rows.prg.blk,hc 0 (by omega),hc 1 (by omega),hc 3 (by omega)⟩
 have := ja h.rows.prg.blk 0 rfl
 rw [e] at this
 exact this
def jax (Y : Dt) (l : List HX) (v : Value) : Dt := { Y with x := { Y.x with vfr := v },fs := l }
theorem jeX (h : DM s w m κ Y) (hf : Y.fs = l ++ [f]) (hl : l.length <= 1000) :
 Calls Tryz.prog 63 #[.pointer (some ⟨m,0,none⟩)] w fun e w' => e = .returned (.int .i64 f.back) /\ ∃ v,DM s w' m κ (jax Y l v) /\ Fr0 κ κ w w' := by
 have hlt := h.lt
 have hi : Y.fs[l.length]? = some f := by rw [hf];simp
 have hlen : Y.fs.length = l.length + 1 := by rw [hf];simp
 obtain ⟨g,cap,e,h2,h3,h4,h5,c0,c1,c2,h6⟩ := h.fr hi
 rw [hlen] at e h2
 have c5 : w.cell? ⟨m,5,none⟩ = some (.slice (some ⟨g,0,none⟩) (l.length + 1) cap) := by rw [<- e];exact ja h.mac 5 rfl
 have z5 := je h.mac 5
 have HP := jH (h.popF hf e)
 have g1 : (l.length : Int) < (l.length : Int) + 1 := by omega
 unfold pt at c0
 clear h hi hf e h3 hlen c1
 go_enter Tryz.func63,Tryz.ntmps63
 go_wp2
 go_returns
 exact ⟨rfl,⟨_,HP.out.1⟩,HP.out.2.all⟩
theorem Tryz.kiW : (Tryz.prog.info? 89).map (fun i => (i.zero,i.size,i.bytes)) = some (some (.agg #[.bool false,.int .i64 0]),2,16) := by kernel_rfl
theorem Tryz.kuW : Tryz.prog.underlying 53 = some (.slice 89) := by kernel_rfl
theorem Tryz.kiP : (Tryz.prog.info? 87).map (fun i => (i.zero,i.size,i.bytes)) = some (some (.pointer none),1,8) := by kernel_rfl
theorem Tryz.kuP : Tryz.prog.underlying 52 = some (.slice 87) := by kernel_rfl
theorem jeM (n : Nat) (hn : n <= 70000) (w : World) : (Instr.makeSlice 53 (.int .i64 (n : Int)) (.int .i64 (n : Int))).run Tryz.prog w = .ok (.slice (some ⟨w.heap.size,0,none⟩) n n) (w.alloc (.cells (mdV n) 89)) := by
 obtain ⟨i,hi,hz,hs,hb⟩ := info_parts Tryz.kiW
 have hr := run_make (P := Tryz.prog) w 53 89 i _ Tryz.kuW hi hz .i64 .i64 n n (by omega) (Int.le_refl _) (by rw [hb];omega) (by omega)
 rw [hs] at hr
 simp only [Int.toNat_natCast] at hr
 exact hr
theorem jeD (w : World) (n : Nat) (hn : n <= 70000) : (w.alloc (.cells (mdV n) 89)).ownsRow 0 89 2 (.slice (some ⟨w.heap.size,0,none⟩) n n) n (jv (List.replicate n z0)) := by
 rw [<- jeF]
 exact World.ownsRow_lit w (mdV n) n (Nat.zero_le _) (by unfold maxLen;omega) (jdd n)
def JT (s : ByteArray) (Y : Dt) (k back : Nat) (vf : Value) (b : Nat) (v : Value) : Dt := { Y with x := { Y.x with vfr := vf,pc := r0 s k },fs := Y.fs ++ [⟨back,List.replicate (r3 s k) z0,b,v⟩] }
structure EnV (s : ByteArray) (w : World) (m : Nat) (κ : Kp) (Y : Dt) (q back b : Nat) (vs : Value) (W : World) (κ2 : Kp) : Prop where
 low : Below w.heap.size w W
 dm : DM s W m κ2 Y
 fr : Fr0 κ κ2 w W
 st : BO W κ2 (12,Y.fs.length) b (.cells #[vs,.int .i64 (back : Int)] 91 (0,0))
 sl : TR W κ2 (16,Y.fs.length) 89 2 vs q (jv (List.replicate q z0))
theorem jkl (h : DM s w m κ Y) (back : Nat) {q : Nat} (hq : q <= 70000) :
 EnV s w m κ Y q back (w.heap.size + 1) (.slice (some ⟨w.heap.size,0,none⟩) q q) ((w.alloc (.cells (mdV q) 89 (0,0))).alloc (.cells #[.slice (some ⟨w.heap.size,0,none⟩) q q,.int .i64 (back : Int)] 91 (0,0))) (jq (jq κ w.heap.size (16,Y.fs.length)) (w.heap.size + 1) (12,Y.fs.length)) := by
 have hA1 := (Below.refl w.heap.size w).alloc jN (.cells (mdV q) 89 (0,0))
 have hW := hA1.alloc (by simp) (.cells #[.slice (some ⟨w.heap.size,0,none⟩) q q,.int .i64 (back : Int)] 91 (0,0))
 have hA2 := (Below.refl (w.alloc (.cells (mdV q) 89 (0,0))).heap.size (w.alloc (.cells (mdV q) 89 (0,0)))).alloc jN (.cells #[.slice (some ⟨w.heap.size,0,none⟩) q q,.int .i64 (back : Int)] 91 (0,0))
 have h0 : κ w.heap.size = none := h.top _ jN
 have h1 : jq κ w.heap.size (16,Y.fs.length) (w.heap.size + 1) = none := by unfold jq;rw [if_neg (by omega)];exact h.top _ (Nat.le_succ _)
 refine ⟨hW,((h.on hW).tag (b := w.heap.size) _ h0 (by simp;omega)).tag _ h1 (by simp),Fr.tags (Fr.of hW) (fun b hb => by rw [JG (by omega),JG hb]),⟨j9 (w := w.alloc _) (by simp),by unfold jq;rw [if_pos rfl]⟩,?_⟩
 have T := (TR.new (κ := κ) (t := (16,Y.fs.length)) (jeD w q hq) rfl).tagged (t' := (12,Y.fs.length)) (b := w.heap.size + 1) (by rw [h1];intro h;cases h)
 exact T.keep (S := fun _ => False) (Fr.of hA2) (fun h => h)
def DNw (s : ByteArray) (κ : Kp) (w : World) (m : Nat) (P : Dt -> Prop) (w' : World) : Prop := ∃ κ' Y',P Y' /\ DM s w' m κ' Y' /\ Fr0 κ κ' w w'
set_option maxRecDepth 100000 in
theorem jdu (h : DM s w m κ Y) {k : Nat} (hk : k < hF s) (hr3 : r3 s k <= 65536) (hfl : Y.fs.length <= 1000) (back : Nat) :
 Calls Tryz.prog 25 #[.pointer (some ⟨m,0,none⟩),.int .i64 k,.int .i64 back] w fun e w' => e = .returned (.tuple #[]) /\ DNw s κ w m (fun Y' => ∃ vf b v,Y' = JT s Y k back vf b v) w' := by
 have H := jH h
 have hlt := h.lt
 have hFl : hF s < 65536 := ju _ _
 obtain ⟨g,c,c0,q0,hc,hg,hq,d0,d1,d3⟩ := h.fn hk
 obtain ⟨i0,hi0,hz0,hz1,hz2⟩ := info_parts Tryz.kiP
 obtain ⟨n0,hn0⟩ : ∃ n,r0 s k = n := ⟨_,rfl⟩
 obtain ⟨n3,hn3⟩ : ∃ n,r3 s k = n := ⟨_,rfl⟩
 have HN0 := jH hn0
 have HN3 := jH hn3
 rw [hn0] at d0
 rw [hn3] at d3 hr3
 have hmk := jeM n3 (by omega)
 have c5 : w.cell? ⟨m,5,none⟩ = some Y.x.vfr := ja h.mac 5 rfl
 have gk : (k : Int) < (hF s : Int) := by omega
 have HE := jH (jkl h back (q := n3) (by omega))
 have HOW : Hid ((((w.alloc (.cells (mdV n3) 89 (0,0))).alloc (.cells #[.slice (some ⟨w.heap.size,0,none⟩) n3 n3,.int .i64 (back : Int)] 91 (0,0))).alloc (.cells #[.pointer (some ⟨w.heap.size + 1,0,none⟩)] 87 (0,0))).drew.ownsRow 0 87 1 Y.x.vfr Y.fs.length (Y.fs.map fun f => pt f.b)) := by
  have h1 := HE.out.dm.rows.frs.own.alloc (.cells #[.pointer (some ⟨w.heap.size + 1,0,none⟩)] 87 (0,0))
  exact h1
 have HB4 : Hid (Below ((w.alloc (.cells (mdV n3) 89 (0,0))).alloc (.cells #[.slice (some ⟨w.heap.size,0,none⟩) n3 n3,.int .i64 (back : Int)] 91 (0,0))).heap.size ((w.alloc (.cells (mdV n3) 89 (0,0))).alloc (.cells #[.slice (some ⟨w.heap.size,0,none⟩) n3 n3,.int .i64 (back : Int)] 91 (0,0))) (((w.alloc (.cells (mdV n3) 89 (0,0))).alloc (.cells #[.slice (some ⟨w.heap.size,0,none⟩) n3 n3,.int .i64 (back : Int)] 91 (0,0))).alloc (.cells #[.pointer (some ⟨w.heap.size + 1,0,none⟩)] 87 (0,0))).drew) := (jB.alloc jN _).drew
 have c51 : ∀ o1 : Obj,(w.alloc o1).cell? ⟨m,5,none⟩ = some Y.x.vfr := fun o1 => ja (jc h.mac ((Below.refl w.heap.size w).alloc jN o1) hlt) 5 rfl
 have c52 : ∀ o1 o2 : Obj,((w.alloc o1).alloc o2).cell? ⟨m,5,none⟩ = some Y.x.vfr := fun o1 o2 => ja (jc h.mac (((Below.refl w.heap.size w).alloc jN o1).alloc (by simp) o2) hlt) 5 rfl
 have c53 : ∀ o1 o2 o3 : Obj,(((w.alloc o1).alloc o2).alloc o3).cell? ⟨m,5,none⟩ = some Y.x.vfr := fun o1 o2 o3 => ja (jc h.mac ((((Below.refl w.heap.size w).alloc jN o1).alloc (by simp) o2).alloc (by simp;omega) o3) hlt) 5 rfl
 have HK := jH hk
 clear h hn0 hn3 d1
 go_enter Tryz.func25,Tryz.ntmps25
 go_wp2_with fail
 go_region_law ((refine step_append_lies _ (by rfl) (.tmp 10) (.tmp 26) 52 (by rfl) 0 87 i0 _ 1 8 Tryz.kuP hi0 hz0 hz1 hz2 rfl (by decide) Y.x.vfr Y.fs.length (Y.fs.map fun f => pt f.b) (by rfl) HOW.out ⟨w.heap.size + 1 + 1,0,none⟩ 1 1 [pt (w.heap.size + 1)] (by rfl) (by rfl) (Ja _ _ _ _ (by simp)) (by intro u hu;simp at hu;subst hu;rfl) (by decide) (by unfold maxLen;omega) (by omega) (by simp) _ rfl ?_;intro gn cn w4 hown4 hgrow hat hlt4;have hb4 := HB4.out;have hr4 := HE.out.dm.run_grown hb4 hgrow HE.out.dm.rows.frs.tag (by decide);have p5 : w4.cell? ⟨m,5,none⟩ = some Y.x.vfr := ja hr4 5 rfl;have y5 := je hr4 5;obtain ⟨κ4,hm4,hf4⟩ := HE.out.dm.growF (f := ⟨back,List.replicate n3 z0,w.heap.size + 1,.slice (some ⟨w.heap.size,0,none⟩) n3 n3⟩) HE.out.st (by simp only [List.length_replicate];exact HE.out.sl) hb4 hown4 hgrow (hat.imp (fun h => h.symm) (fun h => by rw [h];rfl));have HM4 := jH hm4;have HF4 := jH hf4;clear hm4 hf4 hr4 hown4 hgrow hat))
 all_goals
  rename_i Q' K hK
  refine hK _ _ ?_
  clear hK
  clear K
  obtain ⟨g2,cc2,c02,q02,hc2,hg2,hq2,d02,_,_⟩ := HM4.out.fn HK.out
  rw [HN0.out] at d02
  have p7 : (w4.setCell ⟨m,5,none⟩ (.slice (some ⟨gn,0,none⟩) (Y.fs.length + 1) cn)).cell? ⟨m,7,none⟩ = some (.int .i64 Y.x.pc) := ja HM4.out.mac 7 rfl
  have y7 := je HM4.out.mac 7
  clear c0 q0 d0 d3 c5 c51 c52 c53 hmk
  go_wp2_with fail
  go_returns
  refine ⟨rfl,κ4,_,⟨.slice (some ⟨gn,0,none⟩) (Y.fs.length + 1) cn,w.heap.size + 1,.slice (some ⟨w.heap.size,0,none⟩) n3 n3,rfl⟩,?_,Fr0.trans (Fr0.trans HE.out.fr HF4.out.all) (HM4.out.low ((Lone.refl _ _).set 7 _))⟩
  have h9 := HM4.out.upd (x' := { Y.x with vfr := .slice (some ⟨gn,0,none⟩) (Y.fs.length + 1) cn,pc := n0 }) (jf HM4.out.mac 7 _) ((Lone.refl _ _).set 7 _) rfl
  unfold JT
  rw [HN0.out,HN3.out]
  exact h9
end Ko
end Go.Proofs.YtjmgolahkgalbaaGreatDoor
