import Derived.Test.YtjmgolahkgalbaaGreatDoorS30
import Derived.Deep.MidRow
import Derived.Deep.LoopGhost
set_option linter.unusedVariables false
set_option linter.unusedSimpArgs false
set_option maxHeartbeats 20000000
namespace Go.Proofs.YtjmgolahkgalbaaGreatDoor
open Go.RowKit Li Ro
variable {w : World}
def cv (c : Option Pl) (i : Nat) : Value :=
 match c with
 | none => if i = 0 then .bool false else if i = 1 then .int .i64 0 else .int .u64 0
 | some A => if i = 0 then .bool true else if i = 1 then .int .i64 ((jh A 8 : Nat) : Int) else .int .u64 ((jh (fun j => A (8 + 64 * (i - 2) + j)) 64 : Nat) : Int)
def jk (w : World) (b o : Nat) (c : Option Pl) : Prop := ∀ i,i < 18 -> w.cell? ⟨b,o + i,none⟩ = some (cv c i)
structure Ch (b o : Nat) (w w' : World) : Prop where
 lone : Lone b w w'
 blk : ∀ arr t,w.heap[b]? = some (.cells arr t (0,0)) -> ∃ arr',w'.heap[b]? = some (.cells arr' t (0,0)) /\ arr'.size = arr.size /\ ∀ j,(j < o \/ o + 18 <= j) -> arr'[j]? = arr[j]?
theorem Ch.refl (b o : Nat) (w : World) : Ch b o w w := ⟨Lone.refl _ _,fun arr t h => ⟨arr,h,rfl,fun _ _ => rfl⟩⟩
theorem Ch.trans {b o : Nat} {w w1 w2 : World} (h : Ch b o w w1) (h2 : Ch b o w1 w2) : Ch b o w w2 :=
 ⟨h.lone.trans h2.lone,fun arr t hb => by
  obtain ⟨a1,e1,s1,j1⟩ := h.blk arr t hb
  obtain ⟨a2,e2,s2,j2⟩ := h2.blk a1 t e1
  exact ⟨a2,e2,s2.trans s1,fun j hj => (j2 j hj).trans (j1 j hj)⟩⟩
theorem Ch.drew {b o : Nat} {w w1 : World} (h : Ch b o w w1) : Ch b o w w1.drew := ⟨h.lone.drew,h.blk⟩
theorem Ch.set {b o : Nat} {w w1 : World} (h : Ch b o w w1) (i : Nat) (u : Value) (h1 : o <= i) (h2 : i < o + 18) : Ch b o w (w1.setCell ⟨b,i,none⟩ u) :=
 ⟨h.lone.set i u,fun arr t hb => by
  obtain ⟨a1,e1,s1,j1⟩ := h.blk arr t hb
  refine ⟨_,jf e1 i u,by rw [Array.size_setIfInBounds,s1],fun j hj => ?_⟩
  rw [Array.getElem?_setIfInBounds_ne (by omega)]
  exact j1 j hj⟩
theorem Ch.of {b o : Nat} {w w1 : World} (h : Below w.heap.size w w1) (hb : b < w.heap.size) : Ch b o w w1 :=
 ⟨Lone.of h (Nat.le_of_lt hb),fun arr t he => ⟨arr,jc he h hb,rfl,fun _ _ => rfl⟩⟩
theorem Ch.cell {b o : Nat} {w w1 : World} (h : Ch b o w w1) {g i : Nat} {arr : Array Value} {t : TypeId} (hb : w.heap[b]? = some (.cells arr t (0,0))) (hg : g < w.heap.size) (hne : g ≠ b \/ i < o \/ o + 18 <= i) : w1.cell? ⟨g,i,none⟩ = w.cell? ⟨g,i,none⟩ := by
 by_cases e : g = b
 ·subst e
  obtain ⟨a1,e1,s1,j1⟩ := h.blk arr t hb
  rw [(JY e1 i).1,(JY hb i).1]
  exact j1 i (hne.resolve_left (fun h => h rfl))
 ·exact World.cell?_of_block (w := w) (a := ⟨g,i,none⟩) (h.lone.rest g hg e)
theorem jbK {w : World} {b i j : Nat} {u v : Value} {arr : Array Value} {t : TypeId} (hb : w.heap[b]? = some (.cells arr t (0,0))) (hc : w.cell? ⟨b,i,none⟩ = some v) : (w.setCell ⟨b,i,none⟩ u).cell? ⟨b,j,none⟩ = if i = j then some u else w.cell? ⟨b,j,none⟩ := by
 rw [(JY (jf hb i u) j).1,(JY hb j).1]
 rw [(JY hb i).1] at hc
 have hi : i < arr.size := by
  rcases Nat.lt_or_ge i arr.size with h | h
  ·exact h
  ·rw [Array.getElem?_eq_none h] at hc;cases hc
 by_cases e : i = j
 ·subst e;rw [if_pos rfl,Array.getElem?_setIfInBounds_self_of_lt hi]
 ·rw [if_neg e,Array.getElem?_setIfInBounds_ne e]
theorem Ch.sets {b o : Nat} {w w1 : World} : ∀ (vs : List Value) (i : Nat) (w1 : World),Ch b o w w1 -> o <= i -> i + vs.length <= o + 18 -> Ch b o w (w1.setCells b i vs)
 | [],_,_,h,_,_ => h
 | v :: r,i,w1,h,h1,h2 => by
   rw [World.setCells]
   simp only [List.length_cons] at h2
   exact Ch.sets (w1 := w1) r (i + 1) _ (h.set i v h1 (by omega)) (by omega) (by omega)
def cvs (c : Option Pl) : List Value := (List.range 18).map (cv c)
theorem jbR (c : Option Pl) : (cvs c).length = 18 := by simp [cvs]
theorem jfs (c : Option Pl) {i : Nat} (h : i < 18) : (cvs c)[i]? = some (cv c i) := by simp [cvs,h]
theorem jk3 (c : Option Pl) (i : Nat) : (cv c i).oneCell' = true := by
 cases c <;> simp only [cv] <;> (repeat' split) <;> rfl
theorem jk.range {b o : Nat} {c : Option Pl} (h : jk w b o c) : w.rangeAt b o (cvs c) := fun j v hv => by
 have hj : j < 18 := by have := (jG hv).1;rw [jbR] at this;exact this
 rw [jfs c hj] at hv
 injection hv with hv
 rw [<- hv]
 exact h j hj
theorem jk.of_range {b o : Nat} {c : Option Pl} (h : w.rangeAt b o (cvs c)) : jk w b o c := fun i hi => h i _ (jfs c hi)
theorem jk.there {b o : Nat} {c : Option Pl} {arr : Array Value} {t : TypeId} (hb : w.heap[b]? = some (.cells arr t (0,0))) (h : jk w b o c) : w.there b o 18 := fun j hj => ⟨by rw [h j hj];rfl,je hb _⟩
theorem Tryz.infoL : (Tryz.prog.info? 165).map (·.size) = some 18 := by kernel_rfl
theorem Tryz.undL' : (Tryz.prog.underlying 165).map (·.isRow) = some true := by kernel_rfl
theorem Tryz.undL : ∃ d,Tryz.prog.underlying 165 = some d /\ d.isRow = true := by
 have h := Tryz.undL'
 cases hd : Tryz.prog.underlying 165 with
 | none => rw [hd] at h;cases h
 | some d => rw [hd] at h;injection h with h;exact ⟨d,rfl,h⟩
set_option maxRecDepth 100000 in
theorem jiy {b o b2 o2 : Nat} {A : Pl} {arr : Array Value} {t : TypeId} (hb : w.heap[b]? = some (.cells arr t (0,0))) (h1 : jk w b o none) (h2 : jk w b2 o2 (some A)) :
 Calls Tryz.prog 110 #[.pointer (some ⟨b,o,none⟩),.pointer (some ⟨b2,o2,none⟩)] w fun e w' => e = .returned (.tuple #[]) /\ jk w' b o (some A) /\ Ch b o w w' := by
 have c0 : w.cell? ⟨b,o,none⟩ = some (.bool false) := h1 0 (by omega)
 obtain ⟨d,hd1,hd2⟩ := Tryz.undL
 have hth := h1.there hb
 have hrg := h2.range
 have hif : (Tryz.prog.info? 165).map (·.size) = some (cvs (some A)).length := by rw [jbR];exact Tryz.infoL
 have hone : ∀ v ∈ cvs (some A),v.oneCell' = true := fun v hv => by obtain ⟨i,_,rfl⟩ := List.mem_map.1 hv;exact jk3 _ _
 have hcl := jbR (some A)
 have HL : Hid (jk (w.setCells b o (cvs (some A))) b o (some A)) := jk.of_range (w.rangeAt_setCells_same b o _ (by rw [jbR];exact hth))
 have HC : Hid (Ch b o w (w.setCells b o (cvs (some A)))) := Ch.sets (w1 := w) _ _ _ (Ch.refl _ _ _) jN (by rw [jbR];omega)
 clear h1 h2 hb
 generalize cvs (some A) = cs at *
 go_enter Tryz.func110,Tryz.ntmps110
 go_wp2_with (first
  | (refine wpList_load_mid (op := ⟨some 13,Op.load 165 (.tmp 12),_,_,_,_⟩) rfl 165 (.tmp 12) rfl b2 o2 rfl cs d hrg hd1 hd2 hif ?_)
  | (refine wpList_store_mid (op := ⟨none,Op.store 165 (.tmp 14) (.tmp 13),_,_,_,_⟩) rfl 165 (.tmp 14) (.tmp 13) rfl b o cs.toArray rfl rfl (by rw [List.size_toArray,hcl];exact hth) (by rw [List.size_toArray];exact hif) (all_oneCell_toArray hone) ?_))
 go_returns
 exact ⟨rfl,HL.out,HC.out⟩
def cvm (B A : Pl) (j i : Nat) : Value :=
 if i = 0 then .bool true else if i = 1 then .int .i64 ((jh (fun x => B x && A x) 8 : Nat) : Int)
 else if i < 2 + j then .int .u64 ((jh (fun x => B (8 + 64 * (i - 2) + x) && A (8 + 64 * (i - 2) + x)) 64 : Nat) : Int) else .int .u64 ((jh (fun x => B (8 + 64 * (i - 2) + x)) 64 : Nat) : Int)
theorem jk2 (B A : Pl) (i : Nat) (h : i < 18) : cvm B A 16 i = cv (some fun x => B x && A x) i := by
 unfold cvm cv
 by_cases h0 : i = 0
 ·rw [if_pos h0];simp [h0]
 ·by_cases h1 : i = 1
  ·subst h1;simp
  ·rw [if_neg h0,if_neg h1,if_pos (by omega)];simp [h0,h1]
set_option maxRecDepth 100000 in
theorem meet_some {b o b2 o2 : Nat} {A B : Pl} {arr : Array Value} {t : TypeId} (hb : w.heap[b]? = some (.cells arr t (0,0))) (hb2 : b2 < w.heap.size) (hne : b2 ≠ b \/ o2 + 18 <= o) (h1 : jk w b o (some B)) (h2 : jk w b2 o2 (some A)) :
 Calls Tryz.prog 110 #[.pointer (some ⟨b,o,none⟩),.pointer (some ⟨b2,o2,none⟩)] w fun e w' => e = .returned (.tuple #[]) /\ jk w' b o (some fun x => B x && A x) /\ Ch b o w w' := by
 have c0 : w.cell? ⟨b,o,none⟩ = some (.bool true) := h1 0 (by omega)
 have c1 : w.cell? ⟨b,o + 1,none⟩ = some (.int .i64 ((jh B 8 : Nat) : Int)) := h1 1 (by omega)
 have d1 : w.cell? ⟨b2,o2 + 1,none⟩ = some (.int .i64 ((jh A 8 : Nat) : Int)) := h2 1 (by omega)
 have f1 : w.frozen? ⟨b,o + 1,none⟩ = false := je hb _
 have hA8 := JK A 8
 have hB8 := JK B 8
 have hand : bits BinOp.and IntKind.i64 ((jh B 8 : Nat) : Int) ((jh A 8 : Nat) : Int) = ((jh (fun x => B x && A x) 8 : Nat) : Int) := by
  rw [i64_and _ _ (by omega) (by omega),jeL]
 have H1 := jH h1
 have H2 := jH h2
 have HB := jH hb
 have hz2 : w.heap.size <= w.heap.size := jN
 clear h1 h2 hA8 hB8
 have hcb := @jbK w b (o + 1)
 obtain ⟨m12,hm12⟩ : ∃ m,jh (fun x => B x && A x) 8 = m := ⟨_,rfl⟩
 rw [hm12] at hand
 have EM := jH hm12
 clear hm12 hcb hz2 hb
 go_enter Tryz.func110,Tryz.ntmps110
 go_wp2
 go_region
 rename_i K1 hK1
 refine hK1 _ _ ?_
 clear hK1
 have HC0 : Hid (Ch b o w (w.setCell ⟨b,o + 1,none⟩ (.int .i64 (m12 : Int))).drew) := ((Ch.refl b o w).set (o + 1) _ (by omega) (by omega)).drew
 have HV0 : Hid (∀ q,q < 18 -> (w.setCell ⟨b,o + 1,none⟩ (.int .i64 (m12 : Int))).drew.cell? ⟨b,o + q,none⟩ = some (cvm B A 0 q)) := fun q hq => by
  show (w.setCell ⟨b,o + 1,none⟩ (.int .i64 (m12 : Int))).cell? ⟨b,o + q,none⟩ = _
  rw [jbK HB.out c1,H1.out q hq]
  by_cases e : q = 1
  ·subst e
   rw [if_pos rfl]
   simp only [cvm,if_neg (show ¬ 1 = 0 by omega),if_true]
   rw [EM.out]
  ·rw [if_neg (by omega)]
   by_cases e0 : q = 0
   ·subst e0;rfl
   ·simp only [cv,cvm,if_neg e0,if_neg e,if_neg (show ¬ q < 2 + 0 by omega)]
 go_wp2
 go_loopg [4] 16 (fun gh i (wi : World) => ∃ j : Nat,j <= 16 /\ gh = 16 - j /\ i = .int .i64 j /\ (∀ q,q < 18 -> wi.cell? ⟨b,o + q,none⟩ = some (cvm B A j q)) /\ Ch b o w wi)
 case atStart => exact ⟨0,by omega,rfl,rfl,HV0.out,HC0.out⟩
 case round =>
  obtain ⟨j,hj,hgj,rfl,hv,hch⟩ := hrel
  have HV := jH hv
  have HCH := jH hch
  by_cases hlt : j < 16
  ·obtain ⟨arr',hb',hsz',_⟩ := hch.blk arr t HB.out
   have HB' := jH hb'
   have k1 : wr.cell? ⟨b,o + 2 + j,none⟩ = some (.int .u64 ((jh (fun x => B (8 + 64 * j + x)) 64 : Nat) : Int)) := by
    rw [show o + 2 + j = o + (2 + j) by omega,hv (2 + j) (by omega)]
    simp only [cvm,if_neg (show ¬ 2 + j = 0 by omega),if_neg (show ¬ 2 + j = 1 by omega),if_neg (show ¬ 2 + j < 2 + j by omega),Nat.add_sub_cancel_left]
   have k2 : wr.cell? ⟨b2,o2 + 2 + j,none⟩ = some (.int .u64 ((jh (fun x => A (8 + 64 * j + x)) 64 : Nat) : Int)) := by
    rw [hch.cell HB.out hb2 (hne.imp id (fun h => .inl (by omega))),show o2 + 2 + j = o2 + (2 + j) by omega,H2.out (2 + j) (by omega)]
    simp only [cv,if_neg (show ¬ 2 + j = 0 by omega),if_neg (show ¬ 2 + j = 1 by omega),Nat.add_sub_cancel_left]
   have k3 : wr.frozen? ⟨b,o + 2 + j,none⟩ = false := je hb' _
   have m1 := JK (fun x => B (8 + 64 * j + x)) 64
   have m2 := JK (fun x => A (8 + 64 * j + x)) 64
   have hand2 : bits BinOp.and IntKind.u64 ((jh (fun x => B (8 + 64 * j + x)) 64 : Nat) : Int) ((jh (fun x => A (8 + 64 * j + x)) 64 : Nat) : Int) = ((jh (fun x => B (8 + 64 * j + x) && A (8 + 64 * j + x)) 64 : Nat) : Int) := by
    rw [u64_and_nat _ _ m1 m2,jeL]
   have HV1 : Hid (∀ q,q < 18 -> (wr.setCell ⟨b,o + 2 + j,none⟩ (.int .u64 ((jh (fun x => B (8 + 64 * j + x) && A (8 + 64 * j + x)) 64 : Nat) : Int))).cell? ⟨b,o + q,none⟩ = some (cvm B A (j + 1) q)) := fun q hq => by
    rw [jbK hb' k1,hv q hq]
    by_cases e : q = 2 + j
    ·subst e
     rw [if_pos (by omega)]
     simp only [cvm,if_neg (show ¬ 2 + j = 0 by omega),if_neg (show ¬ 2 + j = 1 by omega),if_pos (show 2 + j < 2 + (j + 1) by omega),Nat.add_sub_cancel_left]
    ·rw [if_neg (by omega)]
     unfold cvm
     by_cases e0 : q = 0
     ·rw [if_pos e0,if_pos e0]
     ·rw [if_neg e0,if_neg e0]
      by_cases e1 : q = 1
      ·rw [if_pos e1,if_pos e1]
      ·rw [if_neg e1,if_neg e1]
       by_cases e2 : q < 2 + j
       ·rw [if_pos e2,if_pos (by omega)]
       ·rw [if_neg e2,if_neg (by omega)]
   have HC1 : Hid (Ch b o w (wr.setCell ⟨b,o + 2 + j,none⟩ (.int .u64 ((jh (fun x => B (8 + 64 * j + x) && A (8 + 64 * j + x)) 64 : Nat) : Int)))) := hch.set (o + 2 + j) _ (by omega) (by omega)
   clear hv hch hb' hsz' m1 m2
   generalize jh (fun x => B (8 + 64 * j + x) && A (8 + 64 * j + x)) 64 = mm at *
   generalize jh (fun x => B (8 + 64 * j + x)) 64 = mb at *
   generalize jh (fun x => A (8 + 64 * j + x)) 64 = ma at *
   go_wp2_with fail
   go_region
   rename_i K2 hK2
   refine hK2 _ _ ?_
   clear hK2
   go_wp2_with fail
   go_roundg (16 - (j + 1))
   case measure => omega
   case rel => exact ⟨j + 1,by omega,rfl,by go_num,HV1.out,HC1.out.drew⟩
  ·have hj16 : j = 16 := by omega
   subst hj16
   clear hv hch
   go_wp2_with fail
   go_returns
   exact ⟨rfl,fun q hq => by rw [HV.out q hq,jk2 B A q hq],HCH.out⟩
end Go.Proofs.YtjmgolahkgalbaaGreatDoor
