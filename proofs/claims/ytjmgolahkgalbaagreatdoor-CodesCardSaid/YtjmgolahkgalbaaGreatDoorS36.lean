import Derived.Test.YtjmgolahkgalbaaGreatDoorS22
import Derived.Deep.LoopGhost
set_option linter.unusedVariables false
set_option linter.unusedSimpArgs false
set_option maxHeartbeats 20000000
namespace Go.Proofs.YtjmgolahkgalbaaGreatDoor
namespace Ko
open Go.RowKit Li
variable {s : ByteArray} {w : World} {r : Nat}
theorem last_at {α : Type} (l : List α) (a : α) : (l ++ [a])[l.length]? = some a := by simp
variable {κ : Kp}
theorem jd2 {X : St} (h : RM s w r κ X) {l : List FX} {f : FX} {n : Nat} {u : V} (hf : X.fs = l ++ [f]) (hn : f.sl[n]? = some u) (hl : l.length <= 1000) :
 Calls Tryz.prog 101 #[.pointer (some ⟨r,0,none⟩),.int .i64 n] w fun e w' => e = .returned (av u) /\ Below w.heap.size w w' := by
 have hlt := h.lt
 have hi : X.fs[l.length]? = some f := by rw [hf];exact last_at l f
 have hlen : X.fs.length = l.length + 1 := by rw [hf];simp
 obtain ⟨g,cap,e,h2,h3,h4,h5,c0,c1,fz⟩ := h.fr hi
 obtain ⟨gv,cap2,e2,h6,h7,h8,h9,d0,d1,fz2⟩ := (h.rows.sls _ f hi).val hn
 rw [e2] at c1
 rw [hlen] at e h2
 have c22 : w.cell? ⟨r,22,none⟩ = some (.slice (some ⟨g,0,none⟩) (l.length + 1) cap) := by rw [<- e];exact ja h.run 22 rfl
 have g1 : (n : Int) < (f.sl.length : Int) := by omega
 have g2 : decide ((f.sl.length : Int) <= (n : Int)) = false := by simp;omega
 clear h hi hf hn e e2 h3 h7 c0 fz fz2 hlen
 go_enter Tryz.func101,Tryz.ntmps101
 go_wp2
 go_returns
 exact ⟨rfl,jB.alloc jN _⟩
def jO (bs : List HB) (u : V) (d : Int) : List HB := match u with
 | .b i => (match bs[i]? with
   | some b => bs.set i { b with held := b.held + d }
   | none => bs)
 | .n _ => bs
theorem jdl {X : St} (h : RM s w r κ X) (u : V) (d : Int) (hu : ∀ i,u = .b i -> i < X.bs.length) (hd : -10 <= d /\ d <= 10) (hb : ∀ (i : Nat) (b : HB),X.bs[i]? = some b -> -1000000 <= b.held /\ b.held <= 1000000) :
 Calls Tryz.prog 102 #[.pointer (some ⟨r,23,none⟩),.agg #[.bool (vb u),.int .i64 (vi u)],.int .i64 d] w fun e w' => e = .returned (.tuple #[]) /\ RM s w' r κ { X with bs := jO X.bs u d } /\ Fr0 κ κ w w' := by
 cases u with
 | n z => exact (jjL h z d).mono fun e w' ⟨h1,h2⟩ => ⟨h1,h.on h2,Fr.of h2⟩
 | b i =>
   have hl := hu i rfl
   obtain ⟨b,hi⟩ : ∃ b,X.bs[i]? = some b := ⟨_,List.getElem?_eq_getElem hl⟩
   have h1 := hb i b hi
   have h2 := jjM h d hi (by rw [IntKind.wrap_i64];omega)
   have e : jO X.bs (.b i) d = X.bs.set i { b with held := b.held + d } := by unfold jO;simp only [hi]
   rw [e]
   exact h2
theorem jfa (bs : List HB) (u : V) (d : Int) : (jO bs u d).length = bs.length := by
 unfold jO
 split
 ·split
  ·simp
  ·rfl
 ·rfl
theorem jdn {bs : List HB} {u : V} {d : Int} {i : Nat} {b : HB} (h : (jO bs u d)[i]? = some b) : ∃ b0,bs[i]? = some b0 /\ b = { b0 with held := b0.held + (match u with | .b j => if j = i then d else 0 | .n _ => 0) } := by
 unfold jO at h
 cases u with
 | n z => exact ⟨b,h,by simp⟩
 | b j =>
   simp only at h
   cases hj : bs[j]? with
   | none =>
     rw [hj] at h
     refine ⟨b,h,?_⟩
     have : j ≠ i := by intro e;subst e;simp only at h;rw [hj] at h;cases h
     simp only [if_neg this,Int.add_zero]
   | some c =>
     rw [hj] at h
     rcases JJ h (jG hj).1 with ⟨rfl,rfl⟩ | ⟨e,h⟩
     ·exact ⟨c,hj,by simp⟩
     ·exact ⟨b,h,by simp only [if_neg e,Int.add_zero]⟩
set_option maxRecDepth 100000 in
theorem jcY {X : St} (h : RM s w r κ X) {l : List FX} {f : FX} {n : Nat} {u0 u : V} (hf : X.fs = l ++ [f]) (hn : f.sl[n]? = some u0) (hl : l.length <= 1000) (hu0 : ∀ i,u0 = .b i -> i < X.bs.length) (hu : ∀ i,u = .b i -> i < X.bs.length) (hb : ∀ (i : Nat) (b : HB),X.bs[i]? = some b -> -100000 <= b.held /\ b.held <= 100000) :
 Calls Tryz.prog 78 #[.pointer (some ⟨r,0,none⟩),.int .i64 n,av u] w fun e w' => e = .returned (.tuple #[]) /\ RM s w' r κ { X with fs := l ++ [{ f with sl := f.sl.set n u }],bs := jO (jO X.bs u0 (-1)) u 1 } /\ Fr0 κ κ w w' := by
 have hlt := h.lt
 have H := jH h
 have hi : X.fs[l.length]? = some f := by rw [hf];exact last_at l f
 have HI := jH hi
 have HFF := jH hf
 have HN := jH hn
 have hlen : X.fs.length = l.length + 1 := by rw [hf];simp
 obtain ⟨g,cap,e,h2,h3,h4,h5,c0,c1,fz⟩ := h.fr hi
 obtain ⟨gv,cap2,e2,h6,h7,h8,h9,d0,d1,fz2⟩ := (h.rows.sls _ f hi).val hn
 have HE2 := jH e2
 have HH3 := jH h3
 have HH7 := jH h7
 rw [e2] at c1
 rw [hlen] at e h2
 have HE := jH e
 have c22 : w.cell? ⟨r,22,none⟩ = some (.slice (some ⟨g,0,none⟩) (l.length + 1) cap) := by rw [<- e];exact ja h.run 22 rfl
 have g1 : (n : Int) < (f.sl.length : Int) := by omega
 have g2 : decide ((f.sl.length : Int) <= (n : Int)) = false := by simp;omega
 have hk0 : κ w.heap.size = none := h.top _ jN
 have C1 : Hid (∀ W,Below w.heap.size w W -> Calls Tryz.prog 102 #[.pointer (some ⟨r,23,none⟩),.agg #[.bool (vb u0),.int .i64 (vi u0)],.int .i64 (-1)] W fun e w' => e = .returned (.tuple #[]) /\ RM s w' r κ { X with bs := jO X.bs u0 (-1) } /\ Fr0 κ κ W w') := fun W hW => jdl (H.out.on hW) u0 (-1) hu0 (by omega) (fun i b h => by have := hb i b h;omega)
 have C2 : Hid (∀ W,RM s W r κ { X with bs := jO X.bs u0 (-1) } -> Calls Tryz.prog 102 #[.pointer (some ⟨r,23,none⟩),.agg #[.bool (vb u),.int .i64 (vi u)],.int .i64 1] W fun e w' => e = .returned (.tuple #[]) /\ RM s w' r κ { X with bs := jO (jO X.bs u0 (-1)) u 1 } /\ Fr0 κ κ W w') := fun W hW => jdl hW u 1 (fun i e => by show i < (jO X.bs u0 (-1)).length;rw [jfa];exact hu i e) (by omega) (fun i b h => by
  obtain ⟨b0,h1,h2⟩ := jdn h
  have h3 := hb i b0 h1
  rw [h2]
  simp only
  split
  ·split <;> omega
  ·omega)
 clear h hi hf hn e e2 h3 h7 c0 fz fz2 hlen hu hu0 hb
 unfold av
 go_enter Tryz.func78,Tryz.ntmps78
 go_wp2_with fail
 go_region_with (first
  | (go_at_call 102;go_loud (refine (C1.out _ (jB.alloc jN _).drew).mono ?_;rintro _ w1 ⟨rfl,hm1,hf1⟩)))
 have hb0 : (w.alloc (.cells #[.bool (vb u),.int .i64 (vi u)] 78 (0,0))).drew.heap[w.heap.size]? = some (.cells #[.bool (vb u),.int .i64 (vi u)] 78 (0,0)) := jg w _
 have hA : Below w.heap.size w (w.alloc (.cells #[.bool (vb u),.int .i64 (vi u)] 78 (0,0))).drew := (jB.alloc jN _).drew
 have hx1 := hf1.blk hb0 hk0
 have F1 := jH (Fr0.trans (Fr.of hA) hf1)
 have e0 : w1.cell? ⟨w.heap.size,0,none⟩ = some (.bool (vb u)) := ja hx1 0 rfl
 have e1 : w1.cell? ⟨w.heap.size,1,none⟩ = some (.int .i64 (vi u)) := ja hx1 1 rfl
 have HX1 := jH hx1
 have HM1 := jH hm1
 clear hb0 hA hf1 hx1 hm1 C1 d0 d1
 rename_i Q' K hK
 refine hK _ _ ?_
 go_wp2_with fail
 go_region_with (first
  | (go_at_call 102;go_loud (refine (C2.out _ HM1.out.drew).mono ?_;rintro _ w2 ⟨rfl,hm2,hf2⟩)))
 obtain ⟨X2,hX2⟩ : ∃ X2 : St,X2 = { X with bs := jO (jO X.bs u0 (-1)) u 1 } := ⟨_,rfl⟩
 rw [<- hX2] at hm2
 have hx2 := hf2.blk HX1.out hk0
 have F2 := jH (Fr0.trans F1.out (Fr0.trans (Fr.drew (Fr.refl _ _ _)) hf2))
 have y0 : w2.cell? ⟨w.heap.size,0,none⟩ = some (.bool (vb u)) := ja hx2 0 rfl
 have y1 : w2.cell? ⟨w.heap.size,1,none⟩ = some (.int .i64 (vi u)) := ja hx2 1 rfl
 have hi2 : X2.fs[l.length]? = some f := by rw [hX2];exact HI.out
 obtain ⟨g',cap',e',h2',h3',h4',h5',c0',c1',fz'⟩ := hm2.fr hi2
 have he3 : X2.x.vfr = .slice (some ⟨g,0,none⟩) (l.length + 1) cap := by rw [hX2];exact HE.out
 have hlen2 : X2.fs.length = l.length + 1 := by rw [hX2,HFF.out];simp
 rw [he3,hlen2] at e'
 cases e'
 obtain ⟨gv',cap2',e2',h6',h7',h8',h9',d0',d1',fz2'⟩ := (hm2.rows.sls _ f hi2).val HN.out
 rw [HE2.out] at e2'
 cases e2'
 rw [HE2.out] at c1'
 have c22' : w2.cell? ⟨r,22,none⟩ = some (.slice (some ⟨g,0,none⟩) (l.length + 1) cap) := by rw [<- he3];exact ja hm2.run 22 rfl
 have z0 := fz2' (n * 2)
 have z1 := fz2' (n * 2 + 1)
 have HS := jH (hm2.setS (u := u) hi2 HE2.out h9')
 have HX2 := jH hX2
 have hrl := hm2.lt
 clear hX2 hm2 hf2 hx2 hi2 h3' c0' fz' he3 hlen2 h7' fz2' e0 e1 c1 c22 hK K h2' h5'
 rename_i K hK
 refine hK _ _ ?_
 clear hK K
 go_wp2_with fail
 go_region
 first | go_returns | (rename_i K hK;refine hK _ _ ?_;go_wp2;go_returns)
 have e5 : ({ X with fs := l ++ [{ f with sl := f.sl.set n u }],bs := jO (jO X.bs u0 (-1)) u 1 } : St) = { X2 with fs := X2.fs.set l.length { f with sl := f.sl.set n u } } := by
  rw [HX2.out]
  simp only [HFF.out]
  simp
 refine ⟨rfl,?_,?_⟩
 ·rw [e5];exact HS.out.1.drew
 ·exact Fr.drew (Fr0.trans F2.out HS.out.2.all)
def Jm (bs : List HB) (sl : List V) : List HB := sl.foldl (fun b u => jO b u (-1)) bs
theorem jjN (bs : List HB) (sl : List V) (u : V) : Jm bs (sl ++ [u]) = jO (Jm bs sl) u (-1) := by unfold Jm;rw [List.foldl_append];rfl
theorem jjO (bs : List HB) : ∀ sl : List V,(Jm bs sl).length = bs.length := by
 intro sl
 induction sl generalizing bs with
 | nil => rfl
 | cons u l ih => exact (ih (jO bs u (-1))).trans (jfa bs u (-1))
def nmb (sl : List V) (i : Nat) : Int := (sl.map fun u => match u with | .b j => if j = i then (1 : Int) else 0 | .n _ => 0).sum
theorem jjP {bs : List HB} : ∀ {sl : List V} {i : Nat} {b : HB},(Jm bs sl)[i]? = some b -> ∃ b0 : HB,bs[i]? = some b0 /\ b = { b0 with held := b0.held - nmb sl i } := by
 intro sl
 induction sl generalizing bs with
 | nil => intro i b h;exact ⟨b,h,by simp [nmb]⟩
 | cons u l ih =>
   intro i b h
   obtain ⟨b1,h1,h2⟩ := ih (bs := jO bs u (-1)) h
   obtain ⟨b0,h3,h4⟩ := jdn h1
   refine ⟨b0,h3,?_⟩
   rw [h2,h4]
   simp only [nmb,List.map_cons,List.sum_cons,HB.mk.injEq,true_and,and_true]
   cases u with
   | n z => simp only;omega
   | b j => simp only;split <;> omega
theorem jih (sl : List V) (i : Nat) : 0 <= nmb sl i /\ nmb sl i <= sl.length := by
 unfold nmb
 induction sl with
 | nil => simp
 | cons u l ih =>
   simp only [List.map_cons,List.sum_cons,List.length_cons]
   cases u with
   | n z => simp only;omega
   | b j => simp only;split <;> omega
set_option maxRecDepth 100000 in
theorem leave_any {X : St} (h : RM s w r κ X) {l : List FX} {f : FX} (hf : X.fs = l ++ [f]) (hl : l.length <= 1000) (hsl : f.sl.length <= 100000) (hu : ∀ u ∈ f.sl,∀ i,u = .b i -> i < X.bs.length) (hb : ∀ (i : Nat) (b : HB),X.bs[i]? = some b -> -100000 <= b.held /\ b.held <= 100000) :
 Calls Tryz.prog 90 #[.pointer (some ⟨r,0,none⟩)] w fun e w' => e = .returned (.int .i64 f.back) /\ Nw s κ w r (fun X' => ∃ vf,X' = { X with x := { X.x with vfr := vf },fs := l,bs := Jm X.bs f.sl }) w' := by
 have hlt := h.lt
 have H := jH h
 have hi : X.fs[l.length]? = some f := by rw [hf];exact last_at l f
 have HI := jH hi
 have HFF := jH hf
 have hlen : X.fs.length = l.length + 1 := by rw [hf];simp
 obtain ⟨g,cap,e,h2,h3,h4,h5,c0,c1,fz⟩ := h.fr hi
 rw [hlen] at e h2
 have HE := jH e
 have c22 : w.cell? ⟨r,22,none⟩ = some (.slice (some ⟨g,0,none⟩) (l.length + 1) cap) := by rw [<- e];exact ja h.run 22 rfl
 have hk0 : κ w.heap.size = none := h.top _ jN
 have HUU := jH hu
 have HBB := jH hb
 have g1 : (l.length : Int) < (l.length : Int) + 1 := by omega
 obtain ⟨av,cv,ev,hcv⟩ := (h.rows.sls _ f hi).any
 rw [ev] at c1
 have HEV := jH ev
 clear h hi hf e h3 fz hlen hu hb ev
 go_enter Tryz.func90,Tryz.ntmps90
 go_wp2_with fail
 go_loopg [5] f.sl.length (fun gh s5 (wr : World) => ∃ i : Nat,i <= f.sl.length /\ gh = f.sl.length - i /\ s5 = .int .i64 i /\ RM s wr r κ { X with bs := Jm X.bs (f.sl.take i) } /\ Fr0 κ κ w wr /\ wr.heap[w.heap.size]? = some (.cells #[.int .i64 f.back,.slice av f.sl.length cv] 135 (0,0)))
 case atStart =>
  have hA := (Below.refl w.heap.size w).alloc jN (.cells #[.int .i64 f.back,.slice av f.sl.length cv] 135 (0,0))
  exact ⟨0,Nat.zero_le _,rfl,rfl,H.out.on hA,Fr.of hA,jg _ _⟩
 case round =>
  obtain ⟨i,hi,hgi,rfl,hm,hfr,hx⟩ := hrel
  obtain ⟨X2,hX2⟩ : ∃ X2 : St,X2 = { X with bs := Jm X.bs (f.sl.take i) } := ⟨_,rfl⟩
  rw [<- hX2] at hm
  have HX2 := jH hX2
  have HM := jH hm
  have HF := jH hfr
  have HX := jH hx
  have e0 : wr.cell? ⟨w.heap.size,0,none⟩ = some (.int .i64 f.back) := ja hx 0 rfl
  have e1 : wr.cell? ⟨w.heap.size,1,none⟩ = some (.slice av f.sl.length cv) := ja hx 1 rfl
  have hi2 : X2.fs[l.length]? = some f := by rw [hX2];exact HI.out
  have hrl := hm.lt
  by_cases hl' : i < f.sl.length
  ·obtain ⟨u,hu⟩ : ∃ u,f.sl[i]? = some u := ⟨_,List.getElem?_eq_getElem hl'⟩
   have g3 : decide ((i : Int) < (f.sl.length : Int)) = true := by simp;omega
   have g4 : (i : Int) < (f.sl.length : Int) := by omega
   obtain ⟨gv,cap2,e2,h6,h7,h8,h9,d0,d1,fz2⟩ := (hm.rows.sls _ f hi2).val hu
   rw [HEV.out] at e2
   cases e2
   have C1 : Hid (∀ W,Below wr.heap.size wr W -> Calls Tryz.prog 102 #[.pointer (some ⟨r,23,none⟩),.agg #[.bool (vb u),.int .i64 (vi u)],.int .i64 (-1)] W fun e w' => e = .returned (.tuple #[]) /\ RM s w' r κ { X2 with bs := jO X2.bs u (-1) } /\ Fr0 κ κ W w') := fun W hW => jdl (HM.out.on hW) u (-1) (fun j e => by rw [HX2.out];show j < (Jm X.bs (f.sl.take i)).length;rw [jjO];exact HUU.out u (List.mem_of_getElem? hu) j e) (by omega) (fun j b hb => by
    rw [HX2.out] at hb
    obtain ⟨b0,h1,h2⟩ := jjP hb
    have h3 := HBB.out j b0 h1
    have h4 := jih (f.sl.take i) j
    have h5 : (f.sl.take i).length <= 100000 := by rw [List.length_take];omega
    rw [h2]
    simp only
    omega)
   have HTK : Hid (Jm X.bs (f.sl.take (i + 1)) = jO (Jm X.bs (f.sl.take i)) u (-1)) := by show _ = _;rw [List.take_add_one,hu];exact jjN _ _ _
   clear hm hfr hx hX2 hi2 h7 fz2 hu
   go_wp2_with fail
   go_region_with (first
    | (go_at_call 102;go_loud (refine (C1.out _ jB.drew).mono ?_;rintro _ w1 ⟨rfl,hm1,hf1⟩)))
   rename_i K hK
   refine hK _ _ ?_
   clear hK K
   go_wp2_with fail
   go_roundg (f.sl.length - (i + 1))
   case measure => omega
   case rel =>
    refine ⟨i + 1,by omega,rfl,by simp,?_,HF.out.trans (Fr0.trans (Fr.drew (Fr.refl _ _ _)) hf1),hf1.blk HX.out hk0⟩
    rw [HTK.out]
    rw [HX2.out] at hm1
    exact hm1
  ·have hin : i = f.sl.length := by omega
   subst hin
   have g3 : decide ((f.sl.length : Int) < (f.sl.length : Int)) = false := by simp
   obtain ⟨g',cap',e',h2',h3',h4',h5',c0',c1',fz'⟩ := hm.fr hi2
   have he3 : X2.x.vfr = .slice (some ⟨g,0,none⟩) (l.length + 1) cap := by rw [hX2];exact HE.out
   have hlen2 : X2.fs.length = l.length + 1 := by rw [hX2,HFF.out];simp
   rw [he3,hlen2] at e'
   cases e'
   have hf2 : X2.fs = l ++ [f] := by rw [hX2];exact HFF.out
   have c22' : wr.cell? ⟨r,22,none⟩ = some (.slice (some ⟨g,0,none⟩) (l.length + 1) cap) := by rw [<- he3];exact ja hm.run 22 rfl
   have z22 := je hm.run 22
   have z0 := fz' (l.length * 2)
   have z1 := fz' (l.length * 2 + 1)
   have hne : r ≠ g := by
    intro e;subst e
    have := hm.self;rw [h3'] at this;cases this
   have hne' : g ≠ r := Ne.symm hne
   have hgw : g ≠ w.heap.size := by
    have := H.out.fr HI.out
    omega
   have HPO := jH (hm.popF hf2 he3 (u0 := .int .i64 0) (u1 := .slice none 0 0))
   clear hm hfr hx hX2 hi2 h3' fz' hf2 he3 hlen2 c22 c0 c1 h2' h5'
   go_wp2_with fail
   first | go_returns | go_ret
   refine ⟨rfl,κ,_,⟨.slice (some ⟨g,0,none⟩) l.length cap,rfl⟩,?_,HF.out.trans HPO.out.2.all⟩
   have hm9 := HPO.out.1
   rw [HX2.out] at hm9
   simp only [List.take_length] at hm9
   exact hm9
end Ko
end Go.Proofs.YtjmgolahkgalbaaGreatDoor
namespace Go.Proofs.YtjmgolahkgalbaaGreatDoor
open Go.RowKit Li
variable {w : World}
theorem Tryz.infI : (Tryz.prog.info? 3).map (fun i => (i.zero,i.size,i.bytes)) = some (some (.int .i64 0),1,8) := by kernel_rfl
theorem Tryz.undI : Tryz.prog.underlying 22 = some (.slice 3) := by kernel_rfl
def inV (l : List Nat) : List Value := l.map fun x => .int .i64 ((x : Nat) : Int)
theorem jcl (l m : List Nat) : inV (l ++ m) = inV l ++ inV m := by simp [inV]
theorem je8 (l : List Nat) : (inV l).length = l.length := by simp [inV]
theorem jdp {B : Nat} {a w w' : World} {base n size : Nat} {e : TypeId} {v : Value} {xs : List Value} (h : Below B a w) (hown : w.ownsRow base e size v n xs) (hg : w.grownBy w' v.ownBlock) (hB : B <= w.heap.size) (hb : B <= base) : Below B a w' := h.grown hg hB (fun k hk => by have := (hown.lt k hk).1;omega)
set_option maxRecDepth 100000 in
theorem jdU {s : ByteArray} {p k : Nat} {vF vN vL : Value} (hat : J1 s w p vF vN vL) (hk : k < hF s) (hr1 : r1 s k <= 4) :
 Calls Tryz.prog 74 #[.pointer (some ⟨p,0,none⟩),.int .i64 k] w fun e w' => ∃ v,e = .returned v /\ w'.ownsRow w.heap.size 3 1 v (tkF s k).length (inV (tkF s k)) /\ Below w.heap.size w w' := by
 have hFl : hF s < 65536 := ju _ _
 have hlt := lt_of_block hat.blk
 obtain ⟨g,cap,rfl,hg1,hg2,hg3,hg4⟩ := jaf hat.funs (by omega)
 have HBK := jH hat.blk
 have HC : Hid (∀ W,Below w.heap.size w W -> W.cell? ⟨p,0,none⟩ = some (.slice (some ⟨g,0,none⟩) (hF s) cap) /\ W.cell? ⟨g,k * 5 + 1,none⟩ = some (.int .i64 (r1 s k)) /\ W.cell? ⟨g,k * 5 + 2,none⟩ = some (.int .i64 (r2 s k))) := fun W hW => by
  refine ⟨(ja (jc hat.blk hW hlt) 0 rfl),?_,?_⟩
  ·rw [hW.cell (p := ⟨g,k * 5 + 1,none⟩) hg2,hat.funs.cellAt (k * 5 + 1) (by omega)]
   exact Jq (jai s _) (i := k) (o := 1) (by omega) (hF s) hk
  ·rw [hW.cell (p := ⟨g,k * 5 + 2,none⟩) hg2,hat.funs.cellAt (k * 5 + 2) (by omega)]
   exact Jq (jai s _) (i := k) (o := 2) (by omega) (hF s) hk
 obtain ⟨P,hP⟩ : ∃ P,r1 s k = P := ⟨_,rfl⟩
 obtain ⟨N,hN⟩ : ∃ N,r2 s k = N := ⟨_,rfl⟩
 have HT : Hid (tkF s k = List.range P ++ (if N = 1 then [7] else [])) := by show _ = _;rw [<- hP,<- hN];rfl
 rw [hP] at HC hr1
 rw [hN] at HC
 rw [HT.out]
 clear hat HT hP hN
 obtain ⟨i0,hi0,hz0,hz1,hz2⟩ := info_parts Tryz.infI
 have hkF : (k : Int) < ((hF s : Nat) : Int) := by omega
 generalize hF s = F at *
 go_enter Tryz.func74,Tryz.ntmps74
 go_wp2
 go_loopg [5,6] P (fun gh v s6 (wr : World) => ∃ j : Nat,j <= P /\ gh = P - j /\ s6 = .int .i64 j /\ wr.ownsRow w.heap.size 3 1 v j (inV (List.range j)) /\ Below w.heap.size w wr)
 case atStart => exact ⟨0,by omega,rfl,rfl,World.ownsRow_nil _ _ _ _,jB⟩
 case round =>
  obtain ⟨j,hj,hgj,rfl,hown,hbw⟩ := hrel
  obtain ⟨c0,c1,c2⟩ := HC.out _ hbw
  have HOW := jH hown
  have HBW := jH hbw
  have hsw := hbw.size
  clear hown hbw
  by_cases hlt2 : j < P
  ·go_wp2_with (at_builtin;refine JO _ rfl (.tmp 19) (.tmp 21) 22 rfl w.heap.size 3 i0 _ 1 8 Tryz.undI hi0 hz0 hz1 hz2 rfl (by decide) _ _ _ rfl (HOW.out.alloc _) _ 1 1 [.int .i64 (j : Int)] rfl rfl (Ja _ _ _ _ (by simp)) ?_ ?_ ?_ ?_ ?_;(intro u hu;simp at hu;subst hu;rfl);(unfold maxLen;omega);omega;(simp;omega);intro v' w4 hown4 hg4' hrow4)
   go_roundg (P - (j + 1))
   case measure => omega
   case rel =>
    refine ⟨j + 1,by omega,rfl,by go_num,?_,jdp (HBW.out.alloc (by omega) _) (HOW.out.alloc _) hg4' (by rw [World.size_alloc];omega) jN⟩
    rw [List.range_succ,jcl]
    exact hown4
  ·have hjP : j = P := by omega
   subst hjP
   by_cases hN1 : N = 1
   ·subst hN1
    go_wp2_with (at_builtin;refine JO _ rfl (.tmp 32) (.tmp 33) 22 rfl w.heap.size 3 i0 _ 1 8 Tryz.undI hi0 hz0 hz1 hz2 rfl (by decide) _ _ _ rfl (HOW.out.alloc _) _ 1 1 [.int .i64 7] rfl rfl (Ja _ _ _ _ (by simp)) ?_ ?_ ?_ ?_ ?_;(intro u hu;simp at hu;subst hu;rfl);(unfold maxLen;omega);omega;(simp;omega);intro v' w4 hown4 hg4' hrow4)
    go_ret
    refine ⟨_,rfl,?_,jdp (HBW.out.alloc (by omega) _) (HOW.out.alloc _) hg4' (by rw [World.size_alloc];omega) jN⟩
    first
     | (rw [jcl];exact hown4)
     | (rw [if_pos rfl,jcl,List.length_append,List.length_range];exact hown4)
   ·have hNb : ((N : Int) == 1) = false := by simp;omega
    go_wp2_with fail
    go_ret
    refine ⟨_,rfl,?_,HBW.out⟩
    first
     | exact HOW.out
     | (rw [if_neg hN1,List.append_nil,List.length_range];exact HOW.out)
     | (simp only [hN1,if_false,List.append_nil,List.length_range];exact HOW.out)
def lyI (op r x : Nat) : Int := if op = 5 then ((8 + x : Nat) : Int) else if op = 29 \/ op = 30 then 0 else if op = 6 \/ op = 17 \/ op = 18 \/ op = 21 \/ op = 25 \/ op = 27 \/ op = 31 \/ op = 32 \/ op = 33 then -1 else (r : Int)
theorem jiM {op r x i : Nat} : ((i : Int) == lyI op r x) = lyO op r x i := by
 unfold lyI lyO
 by_cases h1 : op = 5
 ·rw [if_pos h1,if_pos h1,Bool.eq_iff_iff];simp;omega
 ·rw [if_neg h1,if_neg h1]
  by_cases h2 : op = 29 \/ op = 30
  ·rw [if_pos h2,if_pos h2,Bool.eq_iff_iff];simp
  ·rw [if_neg h2,if_neg h2]
   by_cases h3 : op = 6 \/ op = 17 \/ op = 18 \/ op = 21 \/ op = 25 \/ op = 27 \/ op = 31 \/ op = 32 \/ op = 33
   ·rw [if_pos h3,if_pos h3];simp
   ·rw [if_neg h3,if_neg h3,Bool.eq_iff_iff];simp;omega
set_option maxRecDepth 100000 in
theorem jjs {op r x y p : Nat} (hop : op < 256) (hx : x < 65536) :
 Calls Tryz.prog 98 #[.agg #[.int .i64 op,.int .i64 r,.int .i64 x,.int .i64 y,.int .i64 p]] w fun e w' => e = .returned (.int .i64 (lyI op r x)) /\ Below w.heap.size w w' := by
 have HB : Hid (∀ o : Obj,Below w.heap.size w (w.alloc o)) := fun o => jB.alloc jN _
 have HL := jH (show ∀ z,z = lyI op r x -> Ending.returned (.int .i64 z) = .returned (.int .i64 (lyI op r x)) from fun z h => by rw [h])
 unfold lyI at HL ⊢
 generalize hR : (if op = 5 then ((8 + x : Nat) : Int) else if op = 29 \/ op = 30 then 0 else if op = 6 \/ op = 17 \/ op = 18 \/ op = 21 \/ op = 25 \/ op = 27 \/ op = 31 \/ op = 32 \/ op = 33 then -1 else (r : Int)) = R at *
 have HR := jH hR
 clear hR HL
 go_enter Tryz.func98,Tryz.ntmps98
 go_wp2
 all_goals
  go_ret
  refine ⟨jR ?_,HB.out _⟩
  rw [<- HR.out]
  simp only [beq_iff_eq,beq_eq_false_iff_ne,ne_eq] at *
  first
   | (rw [if_pos (by omega)];omega)
   | (rw [if_neg (by omega),if_pos (by omega)])
   | (rw [if_neg (by omega),if_neg (by omega),if_pos (by omega)])
   | (rw [if_neg (by omega),if_neg (by omega),if_neg (by omega)])
set_option maxRecDepth 100000 in
theorem jiO {op r x y p i : Nat} (hop : op < 256) (hx : x < 65536) (hi : i < 65536) :
 Calls Tryz.prog 99 #[.agg #[.int .i64 op,.int .i64 r,.int .i64 x,.int .i64 y,.int .i64 p],.int .i64 i] w fun e w' => e = .returned (.bool (loO op x i)) /\ Below w.heap.size w w' := by
 have HB : Hid (∀ o : Obj,Below w.heap.size w (w.alloc o)) := fun o => jB.alloc jN _
 by_cases h1 : op = 29 \/ op = 30 \/ op = 19 \/ op = 20 \/ op = 23
 ·have HR : Hid (loO op x i = decide (i < 8)) := by show _ = _;unfold loO;rw [if_pos h1]
  rw [HR.out]
  clear HR
  rcases h1 with rfl | rfl | rfl | rfl | rfl
  all_goals
   go_enter Tryz.func99,Tryz.ntmps99
   go_wp2
   all_goals
    go_ret
    refine ⟨JQ ?_,HB.out _⟩
    rw [Bool.eq_iff_iff];simp;try omega
 ·by_cases h2 : op = 4 \/ op = 6
  ·have HR : Hid (loO op x i = (i == 8 + x)) := by show _ = _;unfold loO;rw [if_neg h1,if_pos h2]
   rw [HR.out]
   clear HR h1
   rcases h2 with rfl | rfl
   all_goals
    go_enter Tryz.func99,Tryz.ntmps99
    go_wp2
    all_goals
     go_ret
     refine ⟨JQ ?_,HB.out _⟩
     rw [Bool.eq_iff_iff];simp;try omega
  ·have HR : Hid (loO op x i = false) := by show _ = _;unfold loO;rw [if_neg h1,if_neg h2]
   rw [HR.out]
   have g1 : ((op : Int) == 29) = false := by simp;omega
   have g2 : ((op : Int) == 30) = false := by simp;omega
   have g3 : ((op : Int) == 19) = false := by simp;omega
   have g4 : ((op : Int) == 20) = false := by simp;omega
   have g5 : ((op : Int) == 23) = false := by simp;omega
   have g6 : ((op : Int) == 4) = false := by simp;omega
   have g7 : ((op : Int) == 6) = false := by simp;omega
   clear HR h1 h2
   go_enter Tryz.func99,Tryz.ntmps99
   go_wp2
   go_ret
   exact ⟨rfl,HB.out _⟩
end Go.Proofs.YtjmgolahkgalbaaGreatDoor
namespace Go.Proofs.YtjmgolahkgalbaaGreatDoor
namespace Ko
open Go.RowKit Li
variable {s : ByteArray}
def bl (l : List V) : List Nat := l.filterMap fun u => match u with
 | .b i => some i
 | .n _ => none
theorem jdc {l : List V} {i : Nat} (h : .b i ∈ l) : i ∈ bl l := List.mem_filterMap.2 ⟨.b i,h,rfl⟩
theorem jgW (ds : List DB) (fr : List Fm) (v : V) : ∃ u,jaP ds fr v u := by
 let C : List Nat := bl [v] ++ (fr.flatMap fun f => bl f.sl) ++ ds.flatMap fun b => bl b.fs
 have hC : ∀ j,Rch (bkD ds) fr v j -> j ∈ C := by
  intro j hj
  cases hj with
  | more e => exact List.mem_append_left _ (List.mem_append_left _ (jdc (by rw [e];simp)))
  | slot h1 h2 => exact List.mem_append_left _ (List.mem_append_right _ (List.mem_flatMap.2 ⟨_,h1,jdc h2⟩))
  | @kid i _ h1 h2 =>
    refine List.mem_append_right _ ?_
    unfold bkD at h2
    cases hb : ds[i]? with
    | none => rw [hb] at h2;cases h2
    | some b =>
      rw [hb] at h2
      exact List.mem_flatMap.2 ⟨b,List.mem_of_getElem? hb,jdc h2⟩
 haveI : DecidablePred (Rch (bkD ds) fr v) := fun j => Classical.propDecidable _
 refine ⟨_,(List.range (C.sum + 1)).filter (fun j => decide (Rch (bkD ds) fr v j)),List.nodup_range.filter _,fun j => ?_,rfl⟩
 rw [List.mem_filter,List.mem_range,decide_eq_true_eq]
 constructor
 ·exact fun h => h.2
 ·intro h
  have := jcj (hC j h)
  exact ⟨by omega,h⟩
theorem jgo (s : ByteArray) (half depth : Nat) (ins : List Int) (d : Mc) (ds : List DB) (u : Nat) : ∃ d' ds' u',JN s half depth ins d ds u d' ds' u' := by
 unfold JN
 cases ef s (bkD ds) ins d with
 | make r n f v =>
   have key : ∃ u1 g,(half < u + n + 1 -> jaP ds d.fr v u1 /\ g = d.gcs + 1) /\ (u + n + 1 <= half -> u1 = u /\ g = d.gcs) := by
    by_cases h : half < u + n + 1
    ·obtain ⟨u1,h1⟩ := jgW ds d.fr v
     exact ⟨u1,d.gcs + 1,fun _ => ⟨h1,rfl⟩,fun h2 => by omega⟩
    ·exact ⟨u,d.gcs,fun h2 => absurd h2 h,fun _ => ⟨rfl,rfl⟩⟩
   obtain ⟨u1,g,h1,h2⟩ := key
   by_cases h : half < u1 + n + 1
   ·exact ⟨_,_,_,u1,g,h1,h2,.inl ⟨h,rfl,rfl,rfl⟩⟩
   ·exact ⟨_,_,_,u1,g,h1,h2,.inr ⟨by omega,rfl,rfl,rfl⟩⟩
 | fld i a v => exact ⟨_,_,_,rfl,rfl,rfl⟩
 | reg r v => exact ⟨_,_,_,rfl,rfl,rfl⟩
 | slot x v => exact ⟨_,_,_,rfl,rfl,rfl⟩
 | both x r v => exact ⟨_,_,_,rfl,rfl,rfl⟩
 | jump pc => exact ⟨_,_,_,rfl,rfl,rfl⟩
 | skip => exact ⟨_,_,_,rfl,rfl,rfl⟩
 | stop e p => exact ⟨_,_,_,rfl,rfl,rfl⟩
 | prn z => exact ⟨_,_,_,rfl,rfl,rfl⟩
 | inp r z => exact ⟨_,_,_,rfl,rfl,rfl⟩
 | call f t => exact ⟨_,_,_,rfl,rfl,rfl⟩
 | ret => exact ⟨_,_,_,rfl,rfl,rfl⟩
 | done z => exact ⟨_,_,_,rfl,rfl,rfl⟩
theorem Jb (s : ByteArray) (depth : Nat) (m : Mc) (e : Ef) : (ap s depth m e).steps = m.steps + 1 := by
 cases e with
 | call f t =>
   cases t with
   | true => rfl
   | false =>
     rw [ja1]
     split <;> rfl
 | _ => rfl
theorem jgp {half depth : Nat} {ins : List Int} {m m' : Mc} {bs bs' : List CB} (h : Ju s half depth ins m bs m' bs') : m'.steps = m.steps + 1 := by
 unfold Ju at h
 generalize ef s (bkC bs) ins m = e at h
 cases e with
 | make r n f v =>
   obtain ⟨bs1,g,_,_,⟨_,rfl,_⟩ | ⟨_,a,_,rfl⟩⟩ := h <;> rfl
 | fld i a v => obtain ⟨rfl,_⟩ := h;rfl
 | reg r v => obtain ⟨rfl,_⟩ := h;exact Jb ..
 | slot x v => obtain ⟨rfl,_⟩ := h;exact Jb ..
 | both x r v => obtain ⟨rfl,_⟩ := h;exact Jb ..
 | jump pc => obtain ⟨rfl,_⟩ := h;exact Jb ..
 | skip => obtain ⟨rfl,_⟩ := h;exact Jb ..
 | stop e p => obtain ⟨rfl,_⟩ := h;exact Jb ..
 | prn z => obtain ⟨rfl,_⟩ := h;exact Jb ..
 | inp r z => obtain ⟨rfl,_⟩ := h;exact Jb ..
 | call f t => obtain ⟨rfl,_⟩ := h;exact Jb ..
 | ret => obtain ⟨rfl,_⟩ := h;exact Jb ..
 | done z => obtain ⟨rfl,_⟩ := h;exact Jb ..
theorem jgn {half depth : Nat} {ins : List Int} {m m' : Mc} {bs bs' : List DB} {u u' : Nat} (h : JN s half depth ins m bs u m' bs' u') : m'.steps = m.steps + 1 := by
 unfold JN at h
 generalize ef s (bkD bs) ins m = e at h
 cases e with
 | make r n f v =>
   obtain ⟨bs1,g,_,_,⟨_,rfl,_⟩ | ⟨_,_,_,rfl⟩⟩ := h <;> rfl
 | fld i a v => obtain ⟨rfl,_⟩ := h;rfl
 | reg r v => obtain ⟨rfl,_⟩ := h;exact Jb ..
 | slot x v => obtain ⟨rfl,_⟩ := h;exact Jb ..
 | both x r v => obtain ⟨rfl,_⟩ := h;exact Jb ..
 | jump pc => obtain ⟨rfl,_⟩ := h;exact Jb ..
 | skip => obtain ⟨rfl,_⟩ := h;exact Jb ..
 | stop e p => obtain ⟨rfl,_⟩ := h;exact Jb ..
 | prn z => obtain ⟨rfl,_⟩ := h;exact Jb ..
 | inp r z => obtain ⟨rfl,_⟩ := h;exact Jb ..
 | call f t => obtain ⟨rfl,_⟩ := h;exact Jb ..
 | ret => obtain ⟨rfl,_⟩ := h;exact Jb ..
 | done z => obtain ⟨rfl,_⟩ := h;exact Jb ..
inductive PC (s : ByteArray) (half depth : Nat) (ins : List Int) (gr : Nat) (m : Mc) (bs : List CB) : Nat -> Mc -> List CB -> Prop where
 | nil : PC s half depth ins gr m bs 0 m bs
 | snoc {j : Nat} {m1 m2 : Mc} {bs1 bs2 : List CB} : PC s half depth ins gr m bs j m1 bs1 -> m1.err = 42 -> m1.steps < gr -> Ju s half depth ins m1 bs1 m2 bs2 -> PC s half depth ins gr m bs (j + 1) m2 bs2
inductive PD (s : ByteArray) (half depth : Nat) (ins : List Int) (gr : Nat) (d : Mc) (ds : List DB) (u : Nat) : Nat -> Mc -> List DB -> Nat -> Prop where
 | nil : PD s half depth ins gr d ds u 0 d ds u
 | snoc {j : Nat} {d1 d2 : Mc} {ds1 ds2 : List DB} {u1 u2 : Nat} : PD s half depth ins gr d ds u j d1 ds1 u1 -> d1.err = 42 -> d1.steps < gr -> JN s half depth ins d1 ds1 u1 d2 ds2 u2 -> PD s half depth ins gr d ds u (j + 1) d2 ds2 u2
theorem pair (hck : Ck s) {half depth gr : Nat} {ins : List Int} (hh : half <= 4096) {m : Mc} {bs : List CB} {d : Mc} {ds : List DB} {u : Nat} (h0 : Nx s m bs d ds u) : ∀ {j : Nat} {m1 : Mc} {bs1 : List CB} {d1 : Mc} {ds1 : List DB} {u1 : Nat},PC s half depth ins gr m bs j m1 bs1 -> PD s half depth ins gr d ds u j d1 ds1 u1 -> Nx s m1 bs1 d1 ds1 u1 := by
 intro j
 induction j with
 | zero =>
   intro m1 bs1 d1 ds1 u1 h1 h2
   cases h1
   cases h2
   exact h0
 | succ j ih =>
   intro m1 bs1 d1 ds1 u1 h1 h2
   cases h1 with
   | snoc a1 a2 a3 a4 =>
     cases h2 with
     | snoc b1 b2 b3 b4 =>
       obtain ⟨_,hS⟩ := ih a1 b1
       obtain ⟨β,k,A,S⟩ := hS a2
       exact jgk hck hh S a2 a4 b4
theorem jh6 {half depth gr : Nat} {ins : List Int} {m : Mc} {bs : List CB} : ∀ {J : Nat} {mJ : Mc} {bsJ : List CB},PC s half depth ins gr m bs J mJ bsJ -> ∀ j,j <= J -> ∃ mj bsj,PC s half depth ins gr m bs j mj bsj /\ (j = J -> mj = mJ /\ bsj = bsJ) /\ (j < J -> mj.err = 42 /\ mj.steps < gr) := by
 intro J
 induction J with
 | zero =>
   intro mJ bsJ h j hj
   have : j = 0 := by omega
   subst this
   exact ⟨mJ,bsJ,h,fun _ => ⟨rfl,rfl⟩,fun h => absurd h (Nat.lt_irrefl _)⟩
 | succ J ih =>
   intro mJ bsJ h j hj
   by_cases e : j = J + 1
   ·subst e
    exact ⟨mJ,bsJ,h,fun _ => ⟨rfl,rfl⟩,fun h => absurd h (Nat.lt_irrefl _)⟩
   ·cases h with
    | snoc a1 a2 a3 a4 =>
      obtain ⟨mj,bsj,h1,h2,h3⟩ := ih a1 j (by omega)
      refine ⟨mj,bsj,h1,fun h => absurd h e,fun _ => ?_⟩
      by_cases e2 : j = J
      ·obtain ⟨rfl,rfl⟩ := h2 e2
       exact ⟨a2,a3⟩
      ·exact h3 (by omega)
theorem jh5 (hck : Ck s) {half depth gr : Nat} {ins : List Int} (hh : half <= 4096) {m : Mc} {bs : List CB} {d : Mc} {ds : List DB} {u : Nat} (h0 : Nx s m bs d ds u) {J : Nat} {mJ : Mc} {bsJ : List CB} (hp : PC s half depth ins gr m bs J mJ bsJ) (hend : ¬ (mJ.err = 42 /\ mJ.steps < gr)) {j : Nat} {d1 : Mc} {ds1 : List DB} {u1 : Nat} (hd : PD s half depth ins gr d ds u j d1 ds1 u1) (hj : j <= J) :
 (d1.err = 42 /\ d1.steps < gr -> j < J /\ ∃ m1 bs1 β k A,Sim s β m1 bs1 d1 ds1 u1 k A) /\ (¬ (d1.err = 42 /\ d1.steps < gr) -> Nx s mJ bsJ d1 ds1 u1) := by
 obtain ⟨mj,bsj,h1,h2,h3⟩ := jh6 hp j hj
 have hn := pair hck hh h0 h1 hd
 have he := hn.1.err
 have hs := hn.1.steps
 refine ⟨fun h => ?_,fun h => ?_⟩
 ·have hlt : j < J := by
   rcases Nat.lt_or_ge j J with h4 | h4
   ·exact h4
   ·obtain ⟨rfl,rfl⟩ := h2 (by omega)
    exact absurd ⟨he.trans h.1,by rw [hs];exact h.2⟩ hend
  obtain ⟨β,k,A,S⟩ := hn.2 (he.trans h.1)
  exact ⟨hlt,mj,bsj,β,k,A,S⟩
 ·have hJ : j = J := by
   rcases Nat.lt_or_ge j J with h4 | h4
   ·obtain ⟨h5,h6⟩ := h3 h4
    exact absurd ⟨he.symm.trans h5,by rw [<- hs];exact h6⟩ h
   ·omega
  obtain ⟨rfl,rfl⟩ := h2 hJ
  exact hn
end Ko
end Go.Proofs.YtjmgolahkgalbaaGreatDoor
