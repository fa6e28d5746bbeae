import Derived.Test.YtjmgolahkgalbaaGreatDoorS40
set_option linter.unusedVariables false
set_option linter.unusedSimpArgs false
set_option maxHeartbeats 20000000
namespace Go.Proofs.YtjmgolahkgalbaaGreatDoor
open Go.RowKit Li Ro
set_option maxRecDepth 100000 in
theorem jj5 {s : ByteArray} {w : World} {p k : Nat} {vF vN vL : Value} (hat : J1 s w p vF vN vL) (hrow : bad (jt s) (hF s) 0 = none) (hk : k < hF s) (hw : ∀ pc,r0 s k <= pc -> pc < en s k -> Wl s k pc) :
 Calls Tryz.prog 47 #[.pointer (some ⟨p,0,none⟩),.agg #[.int .i64 (r0 s k),.int .i64 (r1 s k),.int .i64 (r2 s k),.int .i64 (r3 s k),.int .i64 (en s k)],.int .i64 k] w fun e w' => e = .returned (.int .i64 (flI (r0 s k) (flR s k))) /\ Below w.heap.size w w' := by
 obtain ⟨he1,he2⟩ := jal hrow hk
 have hLl : hL s < 65536 := ju _ _
 have hr0 : r0 s k < 65536 := ju _ _
 obtain ⟨hr1,hr2,hr3,hr4⟩ := j7 hrow hk
 obtain ⟨gl,cl,rfl,hgl1,hgl2,hgl3,hgl4⟩ := jaf hat.lines (by omega)
 have HLN : Hid (∀ (W : World) (pc : Nat),Below w.heap.size w W -> pc < hL s -> W.cell? ⟨p,2,none⟩ = some (.slice (some ⟨gl,0,none⟩) (hL s) cl) /\ W.cell? ⟨gl,pc * 5,none⟩ = some (.int .i64 (l0 s pc)) /\ W.cell? ⟨gl,pc * 5 + 1,none⟩ = some (.int .i64 (l1 s pc)) /\ W.cell? ⟨gl,pc * 5 + 2,none⟩ = some (.int .i64 (l2 s pc)) /\ W.cell? ⟨gl,pc * 5 + 3,none⟩ = some (.int .i64 (l3 s pc)) /\ W.cell? ⟨gl,pc * 5 + 4,none⟩ = some (.int .i64 (l4 s pc))) := fun W pc hW hpc => by
  have hc : ∀ o v,o < 5 -> (dL s pc)[o]? = some v -> W.cell? ⟨gl,pc * 5 + o,none⟩ = some v := fun o v ho hv => by
   rw [hW.cell (p := ⟨gl,pc * 5 + o,none⟩) hgl2,hat.lines.cellAt (pc * 5 + o) (by omega)]
   exact (Jq (jfr s) ho (hL s) hpc).trans hv
  exact ⟨ja (jc hat.blk hW (lt_of_block hat.blk)) 2 rfl,hc 0 _ (by omega) rfl,hc 1 _ (by omega) rfl,hc 2 _ (by omega) rfl,hc 3 _ (by omega) rfl,hc 4 _ (by omega) rfl⟩
 have HAT := jH hat
 have HRW := jH hrow
 have HW := jH hw
 have HAH := jH (jfi hw)
 obtain ⟨cnt,hcnt⟩ : ∃ cnt,en s k - r0 s k = cnt := ⟨_,rfl⟩
 obtain ⟨wd,hwd⟩ : ∃ wd,8 + r3 s k = wd := ⟨_,rfl⟩
 have hc1 : 1 <= cnt := by omega
 have hc2 : cnt <= 65536 := by omega
 have hw1 : 8 <= wd := by omega
 have hw2 : wd <= 1032 := by omega
 have hpl := lt_of_block hat.blk
 have hmR := run_make_row' (P := Tryz.prog) 140 4 (.bool false) 1 Tryz.undB Tryz.infB rfl .i64 .i64 cnt (by omega) (by omega)
 have hmL := run_make_row' (P := Tryz.prog) 140 4 (.bool false) 1 Tryz.undB Tryz.infB rfl .i64 .i64 wd (by omega) (by omega)
 rw [show ((cnt : Nat) : Int) = (en s k : Int) - (r0 s k : Int) by omega,jfH] at hmR
 rw [show ((wd : Nat) : Int) = 8 + (r3 s k : Int) by omega,jfH] at hmL
 have HCN := jH hcnt
 have HWD := jH hwd
 obtain ⟨res,hres⟩ : ∃ res : Int,flI (r0 s k) (flR s k) = res := ⟨_,rfl⟩
 rw [hres]
 have HRES := jH hres
 have hce : r0 s k + cnt = en s k := by omega
 have HCE := jH hce
 have H0 : Hid (∀ o : Obj,Below w.heap.size w (w.alloc o)) := fun o => jB.alloc jN _
 have hce2 : r0 s k + cnt <= 65535 := by omega
 clear hat hrow hw hcnt hwd hres hce
 go_enter Tryz.func47,Tryz.ntmps47
 have hB2 : ∀ o : Obj,BR ((w.alloc o).alloc (.cells (Jn cnt fun _ => false) 4)) (w.heap.size + 1) cnt (fun _ => false) := fun o => by
  have h := jg (w.alloc o) (.cells (Jn cnt fun _ => false) 4)
  rw [World.size_alloc] at h
  exact h
 have k0 : ∀ o : Obj,((w.alloc o).alloc (.cells (Jn cnt fun _ => false) 4)).cell? ⟨w.heap.size + 1,0,none⟩ = some (.bool false) := fun o => (hB2 o).at hc1
 have f0 : ∀ o : Obj,((w.alloc o).alloc (.cells (Jn cnt fun _ => false) 4)).frozen? ⟨w.heap.size + 1,0,none⟩ = false := fun o => je (hB2 o) 0
 have HB2 := jH hB2
 clear hB2
 go_wp2
 clear k0 f0
 have g0 : Nat -> Nat := fun _ => 0
 go_loopg [7,9] cnt (fun gh v s9 (wr : World) => ∃ (j : Nat) (g : Nat -> Nat),j <= cnt /\ gh = cnt - j /\ s9 = .int .i64 ((r0 s k + j : Nat) : Int) /\ j6 wr (w.heap.size + 2) v j wd g (fun n _ => decide (0 < n)) /\ BR wr (w.heap.size + 1) cnt (fun n => decide (n = 0)) /\ wr.heap[w.heap.size]? = some (fuB s k) /\ Below w.heap.size w wr /\ w.heap.size + 2 <= wr.heap.size)
 case atStart =>
  refine ⟨0,g0,by omega,rfl,rfl,⟨World.ownsRow_nil _ _ _ _,fun j hj => absurd hj (Nat.not_lt_zero _),fun j hj => absurd hj (Nat.not_lt_zero _),fun i j hi => absurd hi (Nat.not_lt_zero _)⟩,?_,?_,?_,?_⟩
  ·have h := jg (w.alloc (fuB s k)) (.cells ((Jn cnt fun _ => false).setIfInBounds 0 (.bool true)) 4)
   rw [World.size_alloc] at h
   unfold BR
   refine h.trans ?_
   rw [jfG,jaJ]
   intro j _
   by_cases e : j = 0
   ·rw [if_pos e,decide_eq_true e]
   ·rw [if_neg e,decide_eq_false e]
  ·exact (Below.heap_alloc _ _ _ (by rw [World.size_alloc];omega)).trans (jg w _)
  ·exact (H0.out _).alloc (by rw [World.size_alloc];omega) _
  ·rw [World.size_alloc,World.size_alloc];omega
 case round =>
  obtain ⟨wo,rfl⟩ : ∃ wo,wo = wr := ⟨_,rfl⟩
  obtain ⟨j,g,hj,hgj,rfl,hLD,hBR,hbx,hbw,hsz⟩ := hrel
  have HLD := jH hLD
  have HBR := jH hBR
  have HBX := jH hbx
  have HBW := jH hbw
  have e0 := ja hbx 0 rfl
  have e3 := ja hbx 3 rfl
  have e4 := ja hbx 4 rfl
  simp only [List.getElem_toArray,List.getElem_cons_zero,List.getElem_cons_succ] at e0 e3 e4
  have hc1' : ((r0 s k + j : Nat) : Int) = (r0 s k : Int) + (j : Int) := by omega
  have hen : (en s k : Int) = (r0 s k : Int) + (cnt : Int) := by have := HCE.out;omega
  have HEN := jH hen
  clear hLD hBR hbx hbw hen
  by_cases hlt : j < cnt
  ·have hd1 : decide (((r0 s k + j : Nat) : Int) < (en s k : Int)) = true := by have := HEN.out;simp;omega
   have hd2 : ((r0 s k + j : Nat) : Int) < (en s k : Int) := by have := HEN.out;omega
   clear hc1'
   obtain ⟨pcI,hpcI⟩ : ∃ pcI : Int,((r0 s k + j : Nat) : Int) = pcI := ⟨_,rfl⟩
   have HPI := jH hpcI
   have hp1 : 0 <= pcI := by omega
   have hp2 : pcI <= 65536 := by omega
   rw [hpcI] at hd1 hd2 ⊢
   clear hpcI
   have HPC : Hid (decide ((r0 s k : Int) < pcI) = decide (0 < j)) := by show _ = _;have h1 := HPI.out;rw [Bool.eq_iff_iff];simp;omega
   have HO1 : Hid (Below wo.heap.size wo (wo.alloc (.cells (Jn wd fun _ => false) 4))) := jB.alloc jN _
   go_wp2
   go_loopg [11] wd (fun gh s11 (wi : World) => ∃ i : Nat,i <= wd /\ gh = wd - i /\ s11 = .int .i64 i /\ BR wi wo.heap.size wd (fun x => decide (x < i) && decide (0 < j)) /\ Lone wo.heap.size (wo.alloc (.cells (Jn wd fun _ => false) 4)) wi)
   case atStart =>
    refine ⟨0,by omega,rfl,rfl,?_,Lone.refl _ _⟩
    have h := jg wo (.cells (Jn wd fun _ => false) 4)
    unfold BR
    rw [h,jaJ (g := fun x => decide (x < 0) && decide (0 < j))]
    intro x _
    rw [decide_eq_false (by omega)];rfl
   case round =>
    obtain ⟨wi,rfl⟩ : ∃ wi,wi = wr := ⟨_,rfl⟩
    obtain ⟨i,hi,hgi,rfl,hBi,hLi⟩ := hrel
    have HBI := jH hBi
    have HLI := jH hLi
    have hsi := hLi.size
    have hx1 : wi.heap[w.heap.size]? = some (fuB s k) := (hLi.rest _ (by rw [World.size_alloc];omega) (by omega)).trans (jc HBX.out HO1.out (by omega))
    have HX1 := jH hx1
    have y0 := ja hx1 0 rfl
    simp only [List.getElem_toArray,List.getElem_cons_zero,List.getElem_cons_succ] at y0
    rw [World.size_alloc] at hsi
    clear hBi hLi hx1
    by_cases hlt2 : i < wd
    ·have z1 : (i : Int) < (wd : Int) := by omega
     have c1 := HBI.out.at hlt2
     have f1 : wi.frozen? ⟨wo.heap.size,i,none⟩ = false := je HBI.out i
     have HNB : Hid (∀ v,v = decide (0 < j) -> BR (wi.setCell ⟨wo.heap.size,i,none⟩ (.bool v)) wo.heap.size wd (fun x => decide (x < i + 1) && decide (0 < j))) := fun v hv => by
      have h := HBI.out.set i v
      unfold BR at *
      rw [h,jaJ]
      intro x _
      by_cases e : x = i
      ·rw [if_pos e,hv,decide_eq_true (show x < i + 1 by omega)];simp
      ·rw [if_neg e]
       by_cases e2 : x < i
       ·rw [decide_eq_true e2,decide_eq_true (show x < i + 1 by omega)]
       ·rw [decide_eq_false e2,decide_eq_false (show ¬ x < i + 1 by omega)]
     go_wp2_with fail
     go_roundg (wd - (i + 1))
     case measure => omega
     case rel => exact ⟨i + 1,by omega,rfl,by go_num,HNB.out _ HPC.out,HLI.out.set _ _⟩
    ·have hiw : i = wd := by omega
     subst hiw
     have hne : ∀ m,m < j -> g m ≠ wo.heap.size := fun m hm => by have := lt_of_block (HLD.out.row m hm);omega
     have hLDi := (HLD.out.on HO1.out).lone (b := wo.heap.size) (m := i) (f := fun _ => false) (jg wo _) HLI.out hne
     have HDI := jH hLDi
     obtain ⟨i1,hi1,ha0,ha1,ha2⟩ := info_parts Tryz.infBB
     clear hLDi
     go_wp2_with (at_builtin;refine JO _ rfl (.tmp 55) (.tmp 57) 139 rfl (w.heap.size + 2) 140 i1 _ 1 24 Tryz.undBB hi1 ha0 ha1 ha2 rfl (by decide) _ _ _ rfl (HDI.out.own.alloc _) _ 1 1 [.slice (some ⟨wo.heap.size,0,none⟩) i i] rfl rfl (Ja _ _ _ _ (by simp)) ?_ ?_ ?_ ?_ ?_;(intro u hu;simp at hu;subst hu;rfl);(unfold maxLen;omega);omega;(simp;omega);intro v' w4 hown4 hg4' hrow4)
     obtain ⟨hh4,hs4,hb4⟩ := jan HDI.out.own (jB.alloc jN _) (by omega) hg4'
     go_roundg (cnt - (j + 1))
     case measure => omega
     case rel =>
      have hpu := HDI.out.push HBI.out (by omega) hne hown4 hh4
      refine ⟨j + 1,_,by omega,rfl,?_,hpu.congr (fun m x hm hx => ?_),?_,?_,?_,by omega⟩
      ·have := HPI.out
       exact congrArg (Value.int .i64) (by omega)
      ·by_cases e : m = j
       ·subst e;rw [if_pos rfl,decide_eq_true hx];rfl
       ·rw [if_neg e]
      ·have h1 : BR wi (w.heap.size + 1) cnt (fun n => decide (n = 0)) := (HLI.out.rest _ (by rw [World.size_alloc];omega) (by omega)).trans (jc HBR.out HO1.out (by omega))
       exact (hh4 _ (by omega) (HDI.out.ne h1)).trans h1
      ·exact (hh4 _ (by omega) (fun e => by have := (HDI.out.own.lt _ e).1;omega)).trans HX1.out
      ·exact (HBW.out.trans ((HO1.out.mono HBW.out.size).trans (HLI.out.below.mono HBW.out.size))).trans (hb4.mono (by omega))
  ·have hjc : j = cnt := by omega
   subst hjc
   obtain ⟨gv,cap,rfl,hgv1,hgv2,hgv3,hgv4⟩ := jaf HLD.out.own (by omega)
   have CT := jH (jdU (HAT.out.on HBW.out) hk hr1)
   have hso := HBW.out.size
   have hd1 : decide (((r0 s k + j : Nat) : Int) < (en s k : Int)) = false := by have := HEN.out;simp;omega
   have hd2 : ¬ ((r0 s k + j : Nat) : Int) < (en s k : Int) := by have := HEN.out;omega
   clear hc1' hmL hmR
   go_wp2_with (go_at_call 74;refine CT.out.mono ?_;rintro _ w1 ⟨v12,rfl,hown12,hb1⟩;obtain ⟨a12,c12,rfl⟩ := j5 hown12;have HOW := jH hown12;have HD1 := jH (HLD.out.on hb1);have HX1 := jH (jc HBX.out hb1 (by omega));have HR1 := jH (jc HBR.out hb1 (by omega));have HB1 := jH (HBW.out.trans (hb1.mono HBW.out.size));have hs1 := hb1.size;clear hown12 hb1)
   have htk := jb5 HRW.out hk
   obtain ⟨l,hl⟩ : ∃ l,tkF s k = l := ⟨_,rfl⟩
   have HTK := jH hl
   rw [hl] at HOW htk ⊢
   have hln : l.length <= 5 := by rw [<- hl];unfold tkF;rw [List.length_append,List.length_range];split <;> simp <;> omega
   clear hl
   go_loopg [13] l.length (fun gh s13 (wi : World) => ∃ i : Nat,i <= l.length /\ gh = l.length - i /\ s13 = .int .i64 i /\ j6 wi (w.heap.size + 2) (.slice (some ⟨gv,0,none⟩) j cap) j wd g (fun n x => if n = 0 then (l.take i).contains x else true) /\ Lone (g 0) w1 wi)
   case atStart =>
    refine ⟨0,by omega,rfl,rfl,HD1.out.congr (fun n x _ _ => ?_),Lone.refl _ _⟩
    by_cases e : n = 0
    ·rw [if_pos e,decide_eq_false (by omega)];simp
    ·rw [if_neg e,decide_eq_true (by omega)]
   case round =>
    obtain ⟨wi,rfl⟩ : ∃ wi,wi = wr := ⟨_,rfl⟩
    obtain ⟨i,hi,hgi,rfl,hDi,hLi⟩ := hrel
    have HDI := jH hDi
    have HLI := jH hLi
    have hsi := hLi.size
    clear hDi hLi
    have hg0 := HD1.out.lo 0 (by omega)
    have hX : wi.heap[w.heap.size]? = some (fuB s k) := (HLI.out.rest _ (by omega) (by omega)).trans HX1.out
    have HX := jH hX
    clear hX
    by_cases hlt2 : i < l.length
    ·obtain ⟨go,cap2,hsl,ho1,ho2,ho3,ho4⟩ := jaf HOW.out (by omega)
     injection hsl with q1 q2 q3
     subst q1 q3
     have hli : l[i]? = some l[i] := List.getElem?_eq_getElem hlt2
     have hx8 := htk l[i] (List.getElem_mem hlt2)
     have c1 : w1.cell? ⟨go,i,none⟩ = some (.int .i64 (l[i] : Nat)) := by
      rw [HOW.out.cellAt i (by omega)]
      simp [inV,hli]
     have hgo : go ≠ g 0 := fun e => by
      have h1 := lt_of_block (HLD.out.row 0 (by omega))
      omega
     have c2 : wi.cell? ⟨go,i,none⟩ = some (.int .i64 (l[i] : Nat)) := (World.cell?_of_block (w := w1) (a := ⟨go,i,none⟩) (HLI.out.rest go ho2 hgo)).trans c1
     have hg0i := lt_of_block (HDI.out.row 0 (by omega))
     have hgvi : gv < wi.heap.size := by omega
     have hgoi : go < wi.heap.size := by omega
     have z0 : (0 : Int) < (j : Int) := by omega
     have z0' : 0 < j := by omega
     have z1 : (i : Int) < (l.length : Int) := by omega
     have z1' : i < l.length := hlt2
     have z2 : (l[i] : Int) < (wd : Int) := by omega
     have u1 : ∀ z : Wd wi.heap.size wi,z.v.cell? ⟨gv,0,none⟩ = some (.slice (some ⟨g 0,0,none⟩) wd wd) := fun z => (z.h.cell (p := ⟨gv,0,none⟩) hgvi).trans (HDI.out.cell (by omega))
     have u2 : ∀ z : Wd wi.heap.size wi,z.v.cell? ⟨go,i,none⟩ = some (.int .i64 (l[i] : Nat)) := fun z => (z.h.cell (p := ⟨go,i,none⟩) hgoi).trans c2
     have HZ : Hid (∀ z : Wd wi.heap.size wi,j6 (z.v.setCell ⟨g 0,l[i],none⟩ (.bool true)) (w.heap.size + 2) (.slice (some ⟨gv,0,none⟩) j cap) j wd g (fun n x => if n = 0 then (l.take (i + 1)).contains x else true) /\ Lone (g 0) w1 (z.v.setCell ⟨g 0,l[i],none⟩ (.bool true))) := fun z => by
      have hz := HDI.out.on z.h
      have hr := hz.row 0 (by omega)
      refine ⟨(hz.upd (by omega) ((Lone.refl (g 0) z.v).set l[i] (.bool true)) (hr.set l[i] true)).congr (fun n x _ _ => ?_),(HLI.out.trans (Lone.of z.h (by omega))).set _ _⟩
      by_cases e : n = 0
      ·subst e
       have key2 := jgf (x := x) hlt2
       rw [if_pos rfl,if_pos rfl,if_pos rfl,key2]
       by_cases e2 : x = l[i]
       ·rw [if_pos e2,e2];simp
       ·rw [if_neg e2,beq_eq_false_iff_ne.2 e2,Bool.or_false]
      ·rw [if_neg e,if_neg e,if_neg e]
     have f1 : ∀ z : Wd wi.heap.size wi,z.v.frozen? ⟨g 0,l[i],none⟩ = false := fun z => je ((HDI.out.on z.h).row 0 (by omega)) _
     have d1 : ∀ z : Wd wi.heap.size wi,∃ b,z.v.cell? ⟨g 0,l[i],none⟩ = some (.bool b) := fun z => ⟨_,((HDI.out.on z.h).row 0 (by omega)).at (by omega)⟩
     obtain ⟨li,hli'⟩ : ∃ li,l[i] = li := ⟨_,rfl⟩
     rw [hli'] at u2 HZ f1 d1 z2 c1 c2 hx8
     generalize g 0 = g0' at *
     clear hli hli' c1 c2
     go_wp2_with fail
     refine jP 8 9 (by kernel_rfl) (by kernel_rfl) (by decide) ?_
     simp only [TkD]
     refine jd (by decide) (by rfl) (v := ?v0) ?hv0 ?_
     case hv0 => (intro x;go_simp;all_goals with_reducible rfl)
     simp only [Act.put,SsT]
     refine jd (by decide) (by rfl) (v := ?v1) ?hv1 ?_
     case hv1 => (intro x;go_simp;all_goals with_reducible rfl)
     simp only [Act.put,SsT]
     refine jd (by decide) (by rfl) (v := ?v2) ?hv2 ?_
     case hv2 => (intro x;go_simp;all_goals with_reducible rfl)
     simp only [Act.put,SsT]
     refine jd (by decide) (by rfl) (v := ?v3) ?hv3 ?_
     case hv3 => (intro x;go_simp;all_goals with_reducible rfl)
     simp only [Act.put,SsT]
     refine jd (by decide) (by rfl) (v := ?v4) ?hv4 ?_
     case hv4 => (intro x;go_simp;all_goals with_reducible rfl)
     simp only [Act.put,SsT]
     refine jd (by decide) (by rfl) (v := ?v5) ?hv5 ?_
     case hv5 => (intro x;go_simp;all_goals with_reducible rfl)
     simp only [Act.put,SsT]
     refine jd (by decide) (by rfl) (v := ?v6) ?hv6 ?_
     case hv6 => (intro x;go_simp;all_goals with_reducible rfl)
     simp only [Act.put,SsT]
     refine jd (by decide) (by rfl) (v := ?v7) ?hv7 ?_
     case hv7 => (intro x;go_simp;all_goals with_reducible rfl)
     simp only [Act.put,SsT]
     refine js ?_
     intro z
     obtain ⟨b1,hb1⟩ := d1 z
     have hf1 := f1 z
     go_wp2_with fail
     go_roundg (l.length - (i + 1))
     case measure => omega
     case rel => exact ⟨i + 1,by omega,rfl,by go_num,(HZ.out z).1,(HZ.out z).2⟩
    ·have hil : i = l.length := by omega
     have hFS : FS s k w wi gv cap j wd g (fun n => decide (n = 0)) (fun n x => if n = 0 then (fnS s k).init x else true) := by
      have hx1 := HX1.out
      refine ⟨HDI.out.congr (fun n x _ _ => ?_),(HLI.out.rest _ (by omega) (by omega)).trans HR1.out,HX.out,HB1.out.trans (HLI.out.below.mono (by omega)),by omega⟩
      by_cases e : n = 0
      ·rw [if_pos e,if_pos e,hil,List.take_length]
       show _ = (tkF s k).contains x
       rw [HTK.out]
      ·rw [if_neg e,if_neg e]
     have hDn : Dn (fnS s k) wd (fun n => decide (n = 0)) (fun n x => if n = 0 then (fnS s k).init x else true) := by
      refine ⟨fun n hn => ?_,fun x _ hx => ?_,fun n x _ hx => ?_⟩
      ·have e : n = 0 := by simpa using hn
       subst e;exact ⟨_,rfl⟩
      ·rw [if_pos rfl] at hx;exact hx
      ·by_cases e : n = 0
       ·subst e;rw [if_pos rfl] at hx;exact ⟨_,rfl,hx⟩
       ·rw [if_neg e] at hx;cases hx
     have HFS := jH hFS
     have HDN := jH hDn
     clear hFS hDn hil
     go_wp2_with fail
     go_loopg [14] (1 + c2 (fun n x => if n = 0 then (fnS s k).init x else true) wd j) (fun gh s14 (wl : World) => ∃ (m : Bool) (re : Nat -> Bool) (la : Nat -> Nat -> Bool),s14 = .bool m /\ gh = (if m then 1 + c2 la wd j else 0) /\ FS s k w wl gv cap j wd g re la /\ Dn (fnS s k) wd re la /\ re 0 = true /\ (m = false -> ∃ la0,Ps (fnS s k) wd j j (fun _ => False) la0 false re la))
     case atStart => exact ⟨true,_,_,rfl,rfl,HFS.out,HDN.out,rfl,fun h => by cases h⟩
     case round =>
      obtain ⟨wl,rfl⟩ : ∃ wl,wl = wr := ⟨_,rfl⟩
      obtain ⟨m,re,la,rfl,hgm,hFS,hDn,hre,hfin⟩ := hrel
      have HFS1 := jH hFS
      have HDN1 := jH hDn
      have HRE := jH hre
      have HFIN := jH hfin
      have x0 := ja hFS.bx 0 rfl
      have x4 := ja hFS.bx 4 rfl
      simp only [List.getElem_toArray,List.getElem_cons_zero,List.getElem_cons_succ] at x0 x4
      have HGM := jH hgm
      clear hFS hDn hre hfin hgm
      cases m with
      | true =>
        go_wp2_with fail
        go_loopg [14,15] j (fun gh s14 s15 (wp : World) => ∃ (i : Nat) (m : Bool) (re' : Nat -> Bool) (la' : Nat -> Nat -> Bool),i <= j /\ gh = j - i /\ s14 = .bool m /\ s15 = .int .i64 ((r0 s k + i : Nat) : Int) /\ FS s k w wp gv cap j wd g re' la' /\ Ps (fnS s k) wd j i (fun _ => False) la m re' la' /\ re' 0 = true)
        case atStart => exact ⟨0,false,re,la,by omega,rfl,rfl,rfl,HFS1.out,Ps.start HDN1.out HRE.out,HRE.out⟩
        case round =>
         obtain ⟨wp,rfl⟩ : ∃ wp,wp = wr := ⟨_,rfl⟩
         obtain ⟨i,m,re',la',hi,hgi,rfl,rfl,hFS,hPs,hre'⟩ := hrel
         have HFS2 := jH hFS
         have HPS := jH hPs
         have HRE2 := jH hre'
         have y0 := ja hFS.bx 0 rfl
         have y4 := ja hFS.bx 4 rfl
         simp only [List.getElem_toArray,List.getElem_cons_zero,List.getElem_cons_succ] at y0 y4
         clear hFS hPs hre'
         by_cases hlt3 : i < j
         ·have hpcL : r0 s k + i < hL s := by have := HCE.out;omega
          obtain ⟨q0,q1,q2,q3,q4,q5⟩ := HLN.out wp (r0 s k + i) HFS2.out.bl hpcL
          have hwl := HW.out (r0 s k + i) (by omega) (by have := HCE.out;omega)
          have hJ : (fnS s k).jmp i = jmB (l0 s (r0 s k + i)) := by
           show (decide (i < en s k - r0 s k) && jmB (l0 s (r0 s k + i))) = _
           rw [decide_eq_true (by have := HCE.out;omega),Bool.true_and]
          have hG : (fnS s k).goes i = !jx (l0 s (r0 s k + i)) := rfl
          have hT : (fnS s k).tgt i = l2 s (r0 s k + i) - r0 s k := rfl
          have hjt : jmB (l0 s (r0 s k + i)) = true -> r0 s k + i < l2 s (r0 s k + i) /\ l2 s (r0 s k + i) < en s k := fun h => hwl.jump h
          have hgt : jx (l0 s (r0 s k + i)) = false -> i + 1 < j := fun h => by
           rcases hwl.on with h1 | h1
           ·rw [h1] at h;cases h
           ·have := HCE.out;omega
          have CS : Hid (∀ (W : World) (reX : Nat -> Bool) (laX : Nat -> Nat -> Bool) (n0 : Nat) (b : Bool),FS s k w W gv cap j wd g reX laX -> i < n0 -> n0 < j -> Jw (laX n0) ((fnS s k).aft i (laX i)) wd = b -> Calls Tryz.prog 75 #[.agg #[.int .i64 (l0 s (r0 s k + i)),.int .i64 (l1 s (r0 s k + i)),.int .i64 (l2 s (r0 s k + i)),.int .i64 (l3 s (r0 s k + i)),.int .i64 (l4 s (r0 s k + i))],.slice (some ⟨g i,0,none⟩) wd wd,.slice (some ⟨g n0,0,none⟩) wd wd] W fun e w' => e = .returned (.bool b) /\ FS s k w w' gv cap j wd g reX (stk (fnS s k) i n0 laX) /\ Lone (g n0) W w') := fun W reX laX n0 b hF h1 h2 hb => by
           have hop : l0 s (r0 s k + i) < 256 := jbi _ _
           have hx : l2 s (r0 s k + i) < 65536 := ju _ _
           refine (jgi hop hx (by omega) (fun e => by have := hF.ld.inj i n0 hlt3 h2 e;omega) (hF.ld.row i hlt3) (hF.ld.row n0 h2) jN jN).mono ?_
           rintro e w' ⟨rfl,h3,h4⟩
           refine ⟨by rw [<- hb];rfl,(hF.struck h2 h4 h3).la_eq (fun m x _ _ => ?_),h4⟩
           unfold stk
           by_cases e : m = n0
           ·rw [if_pos e,if_pos e];rfl
           ·rw [if_neg e,if_neg e]
          have HJ := jH hJ
          have HG := jH hG
          have HT := jH hT
          have HAFT := jH (show True from trivial)
          have CO : Hid (∀ W : World,Calls Tryz.prog 73 #[.int .i64 (l0 s (r0 s k + i))] W fun e w' => e = .returned (.bool (jx (l0 s (r0 s k + i)))) /\ w' = W) := fun W => je3
          clear hwl hJ hG hT
          obtain ⟨pc,hpc⟩ : ∃ pc,r0 s k + i = pc := ⟨_,rfl⟩
          have HPC := jH hpc
          rw [hpc] at q1 q2 q3 q4 q5 CS HJ HG HT CO hjt hgt hpcL ⊢
          obtain ⟨op,hop⟩ : ∃ op,l0 s pc = op := ⟨_,rfl⟩
          obtain ⟨x,hx⟩ : ∃ x,l2 s pc = x := ⟨_,rfl⟩
          have hx16 : x < 65536 := by rw [<- hx];exact ju _ _
          rw [hop] at q1 CS HJ HG CO hjt hgt
          rw [hx] at q3 CS HT hjt
          generalize (l1 s pc : Int) = rI at *
          generalize (l3 s pc : Int) = yI at *
          generalize (l4 s pc : Int) = pI at *
          have t1 : decide ((pc : Int) < (en s k : Int)) = true := by have := HEN.out;simp;omega
          have t2 : (pc : Int) < (en s k : Int) := by have := HEN.out;omega
          have t3 : (pc : Int) < ((hL s : Nat) : Int) := by omega
          have t4 : (pc : Int) - (r0 s k : Int) = (i : Int) := by omega
          have t5 : IntKind.i64.wrap ((pc : Int) - (r0 s k : Int)) = (i : Int) := by rw [t4,IntKind.wrap_i64];omega
          have t7 : (i : Int) < (j : Int) := by omega
          have t10 : IntKind.i64.wrap ((i : Int) + 1) = (i : Int) + 1 := by rw [IntKind.wrap_i64];omega
          obtain ⟨rei,hrei⟩ : ∃ b,re' i = b := ⟨_,rfl⟩
          have c1 := HFS2.out.br.at hlt3
          rw [hrei] at c1
          have HREI := jH hrei
          have hszp := HFS2.out.sz
          have HAL : Hid (∀ o : Obj,FS s k w (wp.alloc o) gv cap j wd g re' la') := fun o => HFS2.out.on (jB.alloc jN _)
          have hgwp : ∀ n,n < j -> g n < wp.heap.size := fun n hn => lt_of_block (HFS2.out.ld.row n hn)
          have c1' : ∀ o : Obj,(wp.alloc o).cell? ⟨w.heap.size + 1,i,none⟩ = some (.bool rei) := fun o => by have := (HAL.out o).br.at hlt3;rw [hrei] at this;exact this
          have y0' : ∀ o : Obj,(wp.alloc o).cell? ⟨w.heap.size,0,none⟩ = some (.int .i64 (r0 s k)) := fun o => ja (HAL.out o).bx 0 rfl
          clear hpc hop hx hrei
          cases rei with
          | false =>
            have HNX := jH (HPS.out.next HAH.out hlt3 (fun h => by rw [HREI.out] at h;cases h))
            go_wp2_with (go_at_call 73;refine (CO.out _).mono ?_;rintro _ w3 ⟨rfl,hw3⟩;have hw4 := hw3.symm;subst hw4)
            go_roundg (j - (i + 1))
            case measure => omega
            case rel => exact ⟨i + 1,m,re',la',by omega,rfl,rfl,by rw [show r0 s k + (i + 1) = pc + 1 by have := HPC.out;omega];go_num,HAL.out _,HNX.out,HRE2.out⟩
          | true =>
            obtain ⟨ov,hov⟩ : ∃ ov,jx op = ov := ⟨_,rfl⟩
            obtain ⟨jm,hjm⟩ : ∃ jm,jmB op = jm := ⟨_,rfl⟩
            rw [hov] at HG CO hgt
            rw [hjm] at HJ hjt
            have HPR : Hid (∀ n,(fnS s k).pr i n ↔ ((!ov) = true /\ n = i + 1) \/ (jm = true /\ n = x - r0 s k)) := fun n => by unfold Ro.Fn.pr;rw [HG.out,HJ.out,HT.out]
            obtain ⟨n1,hn1⟩ : ∃ n1,x - r0 s k = n1 := ⟨_,rfl⟩
            rw [hn1] at HPR
            have hO0 : (wp.alloc (.cells #[.int .i64 op,.int .i64 rI,.int .i64 x,.int .i64 yI,.int .i64 pI] 60 (0,0) : Obj)).heap[wp.heap.size]? = some (.cells #[.int .i64 op,.int .i64 rI,.int .i64 x,.int .i64 yI,.int .i64 pI] 60 (0,0) : Obj) := jg wp _
            have HO0 := jH hO0
            clear hO0
            cases jm with
            | false =>
              have e17 : ((op : Int) == 17) = false := by unfold jmB at hjm;simp at hjm ⊢;omega
              have e18 : ((op : Int) == 18) = false := by unfold jmB at hjm;simp at hjm ⊢;omega
              clear hjm hjt hn1
              cases ov with
              | true =>
                have HNX := jH (HPS.out.next HAH.out hlt3 (fun _ n _ hp => by rw [HPR.out] at hp;simp at hp))
                clear hov hgt
                go_wp2_with (go_at_call 73;refine (CO.out _).mono ?_;rintro _ w3 ⟨rfl,hw3⟩;have hw4 := hw3.symm;subst hw4)
                go_roundg (j - (i + 1))
                case measure => omega
                case rel => exact ⟨i + 1,m,re',la',by omega,rfl,by simp,by rw [show r0 s k + (i + 1) = pc + 1 by have := HPC.out;omega];go_num,HAL.out _,HNX.out,by simp [HRE2.out]⟩
              | false =>
                have hg1 := hgt rfl
                clear hov hgt
                obtain ⟨ms,hms⟩ : ∃ ms,Jw (la' (i + 1)) ((fnS s k).aft i (la' i)) wd = ms := ⟨_,rfl⟩
                have HMSa := jH hms
                have HP1 := jH (HPS.out.road HAH.out (n0 := i + 1) HREI.out ((HPR.out (i + 1)).2 (.inl ⟨rfl,rfl⟩)) hg1 (ms := ms) (fun h => jb8 (by rw [hms,h])) (fun h => jb7 (by rw [hms,h])))
                have HNX := jH (HP1.out.next HAH.out hlt3 (fun _ n _ hp => by rw [HPR.out] at hp;rcases hp with ⟨_,hp⟩ | ⟨hp,_⟩;exact .inr hp;cases hp))
                have u1 : ∀ o : Obj,(wp.alloc o).cell? ⟨w.heap.size + 1,i + 1,none⟩ = some (.bool (re' (i + 1))) := fun o => (HAL.out o).br.at hg1
                have u2 : ∀ o : Obj,(wp.alloc o).frozen? ⟨w.heap.size + 1,i + 1,none⟩ = false := fun o => je (HAL.out o).br _
                have t11 : (i : Int) + 1 < (j : Int) := by omega
                have t11a : 0 <= (i : Int) + 1 := by omega
                have t11b : 0 <= (i : Int) + 1 /\ (i : Int) + 1 < (j : Int) := by omega
                have t11c : ((i : Int) + 1).toNat = i + 1 := by omega
                clear hms
                go_wp2_with (go_at_call 73;refine (CO.out _).mono ?_;rintro _ w3 ⟨rfl,hw3⟩;have hw4 := hw3.symm;subst hw4)
                clear u1 u2
                obtain ⟨Wa,hWa⟩ : ∃ W,W = World.setCell (wp.alloc (.cells #[.int .i64 op,.int .i64 rI,.int .i64 x,.int .i64 yI,.int .i64 pI] 60 (0,0) : Obj)) ⟨w.heap.size + 1,i + 1,none⟩ (.bool true) := ⟨_,rfl⟩
                have hFa : FS s k w Wa gv cap j wd g (fun n => if n = i + 1 then true else re' n) la' := by rw [hWa];exact (HAL.out _).reach (i + 1)
                have hOa : Wa.heap[wp.heap.size]? = some (.cells #[.int .i64 op,.int .i64 rI,.int .i64 x,.int .i64 yI,.int .i64 pI] 60 (0,0) : Obj) := by rw [hWa];exact (Below.heap_setCell _ _ _ _ (show wp.heap.size ≠ w.heap.size + 1 by omega)).trans (HO0.out)
                rw [<- hWa]
                have HFa := jH hFa
                have HOa := jH hOa
                have hla := lt_of_block hOa
                have o0a : ∀ z : Wd Wa.heap.size Wa,z.v.cell? ⟨wp.heap.size,0,none⟩ = some (.int .i64 op) := fun z => Wd.at HOa.out hla 0 rfl z
                have o1a : ∀ z : Wd Wa.heap.size Wa,z.v.cell? ⟨wp.heap.size,1,none⟩ = some (.int .i64 rI) := fun z => Wd.at HOa.out hla 1 rfl z
                have o2a : ∀ z : Wd Wa.heap.size Wa,z.v.cell? ⟨wp.heap.size,2,none⟩ = some (.int .i64 x) := fun z => Wd.at HOa.out hla 2 rfl z
                have o3a : ∀ z : Wd Wa.heap.size Wa,z.v.cell? ⟨wp.heap.size,3,none⟩ = some (.int .i64 yI) := fun z => Wd.at HOa.out hla 3 rfl z
                have o4a : ∀ z : Wd Wa.heap.size Wa,z.v.cell? ⟨wp.heap.size,4,none⟩ = some (.int .i64 pI) := fun z => Wd.at HOa.out hla 4 rfl z
                have gvla : gv < Wa.heap.size := (HFa.out.ld.own.lt gv rfl).2
                have r1a : ∀ z : Wd Wa.heap.size Wa,z.v.cell? ⟨gv,i,none⟩ = some (.slice (some ⟨g i,0,none⟩) wd wd) := fun z => (z.h.cell (p := ⟨gv,i,none⟩) gvla).trans (HFa.out.ld.cell hlt3)
                have r2a : ∀ z : Wd Wa.heap.size Wa,z.v.cell? ⟨gv,i + 1,none⟩ = some (.slice (some ⟨g (i + 1),0,none⟩) wd wd) := fun z => (z.h.cell (p := ⟨gv,i + 1,none⟩) gvla).trans (HFa.out.ld.cell (by omega))
                have b0a : ∀ z : Wd Wa.heap.size Wa,z.v.cell? ⟨w.heap.size,0,none⟩ = some (.int .i64 (r0 s k)) := fun z => Wd.at HFa.out.bx (lt_of_block HFa.out.bx) 0 rfl z
                clear hWa hFa hOa
                refine jP 10 15 (by kernel_rfl) (by kernel_rfl) (by decide) ?_
                simp only [TkD]
                refine jd (by decide) (by rfl) (v := ?va0) ?hva0 ?_
                case hva0 => (intro x;go_simp;all_goals with_reducible rfl)
                simp only [Act.put,SsT]
                refine jd (by decide) (by rfl) (v := ?va1) ?hva1 ?_
                case hva1 => (intro x;go_simp;all_goals with_reducible rfl)
                simp only [Act.put,SsT]
                refine jd (by decide) (by rfl) (v := ?va2) ?hva2 ?_
                case hva2 => (intro x;go_simp;all_goals with_reducible rfl)
                simp only [Act.put,SsT]
                refine jd (by decide) (by rfl) (v := ?va3) ?hva3 ?_
                case hva3 => (intro x;go_simp;all_goals with_reducible rfl)
                simp only [Act.put,SsT]
                refine jd (by decide) (by rfl) (v := ?va4) ?hva4 ?_
                case hva4 => (intro x;go_simp;all_goals with_reducible rfl)
                simp only [Act.put,SsT]
                refine jd (by decide) (by rfl) (v := ?va5) ?hva5 ?_
                case hva5 => (intro x;go_simp;all_goals with_reducible rfl)
                simp only [Act.put,SsT]
                refine jd (by decide) (by rfl) (v := ?va6) ?hva6 ?_
                case hva6 => (intro x;go_simp;all_goals with_reducible rfl)
                simp only [Act.put,SsT]
                refine jd (by decide) (by rfl) (v := ?va7) ?hva7 ?_
                case hva7 => (intro x;go_simp;all_goals with_reducible rfl)
                simp only [Act.put,SsT]
                refine jd (by decide) (by rfl) (v := ?va8) ?hva8 ?_
                case hva8 => (intro x;go_simp;all_goals with_reducible rfl)
                simp only [Act.put,SsT]
                refine jd (by decide) (by rfl) (v := ?va9) ?hva9 ?_
                case hva9 => (intro x;go_simp;all_goals with_reducible rfl)
                simp only [Act.put,SsT]
                refine js ?_
                intro za
                have HZa := jH (HFa.out.on za.h)
                have HZOa := jH (jc HOa.out za.h hla)
                have gna := hgwp (i + 1) (by omega)
                have zla := lt_of_block HZOa.out
                clear o0a o1a o2a o3a o4a r1a r2a b0a
                cases ms
                all_goals
                 go_wp2_with (go_at_call 75;refine (CS.out _ _ _ (i + 1) _ HZa.out (by omega) (by omega) HMSa.out).mono ?_;rintro _ w5a ⟨rfl,hSa,hLoa⟩;have HSa := jH hSa;have HKa := jH ((hLoa.rest wp.heap.size zla (by omega)).trans HZOa.out);have k0a := ja HKa.out 0 rfl;have k2a := ja HKa.out 2 rfl;have kra := HSa.out.br.at hlt3;have kba := ja HSa.out.bx 0 rfl;rw [if_neg (show ¬ i = i + 1 by omega),HREI.out] at kra;simp only [List.getElem_toArray,List.getElem_cons_zero,List.getElem_cons_succ] at k0a k2a kba;clear hSa)
                 go_roundg (j - (i + 1))
                 case measure => omega
                 case rel => exact ⟨i + 1,_,_,_,by omega,rfl,by simp,by rw [show r0 s k + (i + 1) = pc + 1 by have := HPC.out;omega];go_num,HSa.out,HNX.out,by simp [HRE2.out]⟩
            | true =>
              obtain ⟨hj1,hj2⟩ := hjt rfl
              have hn2 : n1 < j := by have := HCE.out;omega
              have hn3 : i < n1 := by omega
              have t12 : (x : Int) - (r0 s k : Int) = (n1 : Int) := by omega
              have t13 : IntKind.i64.wrap ((x : Int) - (r0 s k : Int)) = (n1 : Int) := by rw [t12,IntKind.wrap_i64];omega
              have t14 : (n1 : Int) < (j : Int) := by omega
              have t15 : IntKind.i64.wrap (n1 : Int) = (n1 : Int) := by rw [IntKind.wrap_i64];omega
              cases ov with
              | true =>
                have hop17 : op = 17 := by unfold jmB at hjm;unfold jx at hov;simp at hjm hov;omega
                clear hov hgt hjm hjt hn1
                obtain ⟨ms,hms⟩ : ∃ ms,Jw (la' n1) ((fnS s k).aft i (la' i)) wd = ms := ⟨_,rfl⟩
                have HMSc := jH hms
                have HP1 := jH (HPS.out.road HAH.out (n0 := n1) HREI.out ((HPR.out n1).2 (.inr ⟨rfl,rfl⟩)) hn2 (ms := ms) (fun h => jb8 (by rw [hms,h])) (fun h => jb7 (by rw [hms,h])))
                have HNX := jH (HP1.out.next HAH.out hlt3 (fun _ n _ hp => by rw [HPR.out] at hp;rcases hp with ⟨hp,_⟩ | ⟨_,hp⟩;cases hp;exact .inr hp))
                have u1 : ∀ o : Obj,(wp.alloc o).cell? ⟨w.heap.size + 1,n1,none⟩ = some (.bool (re' n1)) := fun o => (HAL.out o).br.at hn2
                have u2 : ∀ o : Obj,(wp.alloc o).frozen? ⟨w.heap.size + 1,n1,none⟩ = false := fun o => je (HAL.out o).br _
                subst hop17
                clear hms
                go_wp2_with (go_at_call 73;refine (CO.out _).mono ?_;rintro _ w3 ⟨rfl,hw3⟩;have hw4 := hw3.symm;subst hw4)
                clear u1 u2
                obtain ⟨Wc,hWc⟩ : ∃ W,W = World.setCell (wp.alloc (.cells #[.int .i64 17,.int .i64 rI,.int .i64 x,.int .i64 yI,.int .i64 pI] 60 (0,0) : Obj)) ⟨w.heap.size + 1,n1,none⟩ (.bool true) := ⟨_,rfl⟩
                have hFc : FS s k w Wc gv cap j wd g (fun n => if n = n1 then true else re' n) la' := by rw [hWc];exact (HAL.out _).reach (n1)
                have hOc : Wc.heap[wp.heap.size]? = some (.cells #[.int .i64 17,.int .i64 rI,.int .i64 x,.int .i64 yI,.int .i64 pI] 60 (0,0) : Obj) := by rw [hWc];exact (Below.heap_setCell _ _ _ _ (show wp.heap.size ≠ w.heap.size + 1 by omega)).trans (HO0.out)
                rw [<- hWc]
                have HFc := jH hFc
                have HOc := jH hOc
                have hlc := lt_of_block hOc
                have o0c : ∀ z : Wd Wc.heap.size Wc,z.v.cell? ⟨wp.heap.size,0,none⟩ = some (.int .i64 17) := fun z => Wd.at HOc.out hlc 0 rfl z
                have o1c : ∀ z : Wd Wc.heap.size Wc,z.v.cell? ⟨wp.heap.size,1,none⟩ = some (.int .i64 rI) := fun z => Wd.at HOc.out hlc 1 rfl z
                have o2c : ∀ z : Wd Wc.heap.size Wc,z.v.cell? ⟨wp.heap.size,2,none⟩ = some (.int .i64 x) := fun z => Wd.at HOc.out hlc 2 rfl z
                have o3c : ∀ z : Wd Wc.heap.size Wc,z.v.cell? ⟨wp.heap.size,3,none⟩ = some (.int .i64 yI) := fun z => Wd.at HOc.out hlc 3 rfl z
                have o4c : ∀ z : Wd Wc.heap.size Wc,z.v.cell? ⟨wp.heap.size,4,none⟩ = some (.int .i64 pI) := fun z => Wd.at HOc.out hlc 4 rfl z
                have gvlc : gv < Wc.heap.size := (HFc.out.ld.own.lt gv rfl).2
                have r1c : ∀ z : Wd Wc.heap.size Wc,z.v.cell? ⟨gv,i,none⟩ = some (.slice (some ⟨g i,0,none⟩) wd wd) := fun z => (z.h.cell (p := ⟨gv,i,none⟩) gvlc).trans (HFc.out.ld.cell hlt3)
                have r2c : ∀ z : Wd Wc.heap.size Wc,z.v.cell? ⟨gv,n1,none⟩ = some (.slice (some ⟨g (n1),0,none⟩) wd wd) := fun z => (z.h.cell (p := ⟨gv,n1,none⟩) gvlc).trans (HFc.out.ld.cell (by omega))
                have b0c : ∀ z : Wd Wc.heap.size Wc,z.v.cell? ⟨w.heap.size,0,none⟩ = some (.int .i64 (r0 s k)) := fun z => Wd.at HFc.out.bx (lt_of_block HFc.out.bx) 0 rfl z
                clear hWc hFc hOc
                refine jP 13 18 (by kernel_rfl) (by kernel_rfl) (by decide) ?_
                simp only [TkD]
                refine jd (by decide) (by rfl) (v := ?vc0) ?hvc0 ?_
                case hvc0 => (intro x;go_simp;all_goals with_reducible rfl)
                simp only [Act.put,SsT]
                refine jd (by decide) (by rfl) (v := ?vc1) ?hvc1 ?_
                case hvc1 => (intro x;go_simp;all_goals with_reducible rfl)
                simp only [Act.put,SsT]
                refine jd (by decide) (by rfl) (v := ?vc2) ?hvc2 ?_
                case hvc2 => (intro x;go_simp;all_goals with_reducible rfl)
                simp only [Act.put,SsT]
                refine jd (by decide) (by rfl) (v := ?vc3) ?hvc3 ?_
                case hvc3 => (intro x;go_simp;all_goals with_reducible rfl)
                simp only [Act.put,SsT]
                refine jd (by decide) (by rfl) (v := ?vc4) ?hvc4 ?_
                case hvc4 => (intro x;go_simp;all_goals with_reducible rfl)
                simp only [Act.put,SsT]
                refine jd (by decide) (by rfl) (v := ?vc5) ?hvc5 ?_
                case hvc5 => (intro x;go_simp;all_goals with_reducible rfl)
                simp only [Act.put,SsT]
                refine jd (by decide) (by rfl) (v := ?vc6) ?hvc6 ?_
                case hvc6 => (intro x;go_simp;all_goals with_reducible rfl)
                simp only [Act.put,SsT]
                refine jd (by decide) (by rfl) (v := ?vc7) ?hvc7 ?_
                case hvc7 => (intro x;go_simp;all_goals with_reducible rfl)
                simp only [Act.put,SsT]
                refine jd (by decide) (by rfl) (v := ?vc8) ?hvc8 ?_
                case hvc8 => (intro x;go_simp;all_goals with_reducible rfl)
                simp only [Act.put,SsT]
                refine jd (by decide) (by rfl) (v := ?vc9) ?hvc9 ?_
                case hvc9 => (intro x;go_simp;all_goals with_reducible rfl)
                simp only [Act.put,SsT]
                refine jd (by decide) (by rfl) (v := ?vc10) ?hvc10 ?_
                case hvc10 => (intro x;go_simp;all_goals with_reducible rfl)
                simp only [Act.put,SsT]
                refine jd (by decide) (by rfl) (v := ?vc11) ?hvc11 ?_
                case hvc11 => (intro x;go_simp;all_goals with_reducible rfl)
                simp only [Act.put,SsT]
                refine jd (by decide) (by rfl) (v := ?vc12) ?hvc12 ?_
                case hvc12 => (intro x;go_simp;all_goals with_reducible rfl)
                simp only [Act.put,SsT]
                refine js ?_
                intro zc
                have HZc := jH (HFc.out.on zc.h)
                have HZOc := jH (jc HOc.out zc.h hlc)
                have gnc := hgwp (n1) (by omega)
                have zlc := lt_of_block HZOc.out
                clear o0c o1c o2c o3c o4c r1c r2c b0c
                cases ms
                all_goals
                 go_wp2_with (go_at_call 75;refine (CS.out _ _ _ (n1) _ HZc.out (by omega) (by omega) HMSc.out).mono ?_;rintro _ w5c ⟨rfl,hSc,hLoc⟩;have HSc := jH hSc;clear hSc hLoc)
                 go_roundg (j - (i + 1))
                 case measure => omega
                 case rel => exact ⟨i + 1,_,_,_,by omega,rfl,by simp,by rw [show r0 s k + (i + 1) = pc + 1 by have := HPC.out;omega];go_num,HSc.out,HNX.out,by simp [HRE2.out]⟩
              | false =>
                have hop18 : op = 18 := by unfold jmB at hjm;unfold jx at hov;simp at hjm hov;omega
                have hg1 := hgt rfl
                clear hov hgt hjm hjt hn1
                obtain ⟨ms,hms⟩ : ∃ ms,Jw (la' (i + 1)) ((fnS s k).aft i (la' i)) wd = ms := ⟨_,rfl⟩
                obtain ⟨ms2,hms2⟩ : ∃ ms,Jw (stk (fnS s k) i (i + 1) la' n1) ((fnS s k).aft i (stk (fnS s k) i (i + 1) la' i)) wd = ms := ⟨_,rfl⟩
                have HMSe := jH hms
                have HMSb := jH hms2
                have HP1 := jH (HPS.out.road HAH.out (n0 := i + 1) HREI.out ((HPR.out (i + 1)).2 (.inl ⟨rfl,rfl⟩)) hg1 (ms := ms) (fun h => jb8 (by rw [hms,h])) (fun h => jb7 (by rw [hms,h])))
                have HP2 := jH (HP1.out.road HAH.out (n0 := n1) (by rw [if_neg (by omega)];exact HREI.out) ((HPR.out n1).2 (.inr ⟨rfl,rfl⟩)) hn2 (ms := ms2) (fun h => jb8 (by rw [hms2,h])) (fun h => jb7 (by rw [hms2,h])))
                have HNX := jH (HP2.out.next HAH.out hlt3 (fun _ n _ hp => by rw [HPR.out] at hp;rcases hp with ⟨_,hp⟩ | ⟨_,hp⟩;exact .inl (.inr hp);exact .inr hp))
                have u1 : ∀ o : Obj,(wp.alloc o).cell? ⟨w.heap.size + 1,i + 1,none⟩ = some (.bool (re' (i + 1))) := fun o => (HAL.out o).br.at hg1
                have u2 : ∀ o : Obj,(wp.alloc o).frozen? ⟨w.heap.size + 1,i + 1,none⟩ = false := fun o => je (HAL.out o).br _
                have t11 : (i : Int) + 1 < (j : Int) := by omega
                have t11a : 0 <= (i : Int) + 1 := by omega
                have t11b : 0 <= (i : Int) + 1 /\ (i : Int) + 1 < (j : Int) := by omega
                have t11c : ((i : Int) + 1).toNat = i + 1 := by omega
                subst hop18
                clear hms hms2
                go_wp2_with (go_at_call 73;refine (CO.out _).mono ?_;rintro _ w3 ⟨rfl,hw3⟩;have hw4 := hw3.symm;subst hw4)
                clear u1 u2
                obtain ⟨We,hWe⟩ : ∃ W,W = World.setCell (wp.alloc (.cells #[.int .i64 18,.int .i64 rI,.int .i64 x,.int .i64 yI,.int .i64 pI] 60 (0,0) : Obj)) ⟨w.heap.size + 1,i + 1,none⟩ (.bool true) := ⟨_,rfl⟩
                have hFe : FS s k w We gv cap j wd g (fun n => if n = i + 1 then true else re' n) la' := by rw [hWe];exact (HAL.out _).reach (i + 1)
                have hOe : We.heap[wp.heap.size]? = some (.cells #[.int .i64 18,.int .i64 rI,.int .i64 x,.int .i64 yI,.int .i64 pI] 60 (0,0) : Obj) := by rw [hWe];exact (Below.heap_setCell _ _ _ _ (show wp.heap.size ≠ w.heap.size + 1 by omega)).trans (HO0.out)
                rw [<- hWe]
                have HFe := jH hFe
                have HOe := jH hOe
                have hle := lt_of_block hOe
                have o0e : ∀ z : Wd We.heap.size We,z.v.cell? ⟨wp.heap.size,0,none⟩ = some (.int .i64 18) := fun z => Wd.at HOe.out hle 0 rfl z
                have o1e : ∀ z : Wd We.heap.size We,z.v.cell? ⟨wp.heap.size,1,none⟩ = some (.int .i64 rI) := fun z => Wd.at HOe.out hle 1 rfl z
                have o2e : ∀ z : Wd We.heap.size We,z.v.cell? ⟨wp.heap.size,2,none⟩ = some (.int .i64 x) := fun z => Wd.at HOe.out hle 2 rfl z
                have o3e : ∀ z : Wd We.heap.size We,z.v.cell? ⟨wp.heap.size,3,none⟩ = some (.int .i64 yI) := fun z => Wd.at HOe.out hle 3 rfl z
                have o4e : ∀ z : Wd We.heap.size We,z.v.cell? ⟨wp.heap.size,4,none⟩ = some (.int .i64 pI) := fun z => Wd.at HOe.out hle 4 rfl z
                have gvle : gv < We.heap.size := (HFe.out.ld.own.lt gv rfl).2
                have r1e : ∀ z : Wd We.heap.size We,z.v.cell? ⟨gv,i,none⟩ = some (.slice (some ⟨g i,0,none⟩) wd wd) := fun z => (z.h.cell (p := ⟨gv,i,none⟩) gvle).trans (HFe.out.ld.cell hlt3)
                have r2e : ∀ z : Wd We.heap.size We,z.v.cell? ⟨gv,i + 1,none⟩ = some (.slice (some ⟨g (i + 1),0,none⟩) wd wd) := fun z => (z.h.cell (p := ⟨gv,i + 1,none⟩) gvle).trans (HFe.out.ld.cell (by omega))
                have b0e : ∀ z : Wd We.heap.size We,z.v.cell? ⟨w.heap.size,0,none⟩ = some (.int .i64 (r0 s k)) := fun z => Wd.at HFe.out.bx (lt_of_block HFe.out.bx) 0 rfl z
                clear hWe hFe hOe
                refine jP 10 15 (by kernel_rfl) (by kernel_rfl) (by decide) ?_
                simp only [TkD]
                refine jd (by decide) (by rfl) (v := ?ve0) ?hve0 ?_
                case hve0 => (intro x;go_simp;all_goals with_reducible rfl)
                simp only [Act.put,SsT]
                refine jd (by decide) (by rfl) (v := ?ve1) ?hve1 ?_
                case hve1 => (intro x;go_simp;all_goals with_reducible rfl)
                simp only [Act.put,SsT]
                refine jd (by decide) (by rfl) (v := ?ve2) ?hve2 ?_
                case hve2 => (intro x;go_simp;all_goals with_reducible rfl)
                simp only [Act.put,SsT]
                refine jd (by decide) (by rfl) (v := ?ve3) ?hve3 ?_
                case hve3 => (intro x;go_simp;all_goals with_reducible rfl)
                simp only [Act.put,SsT]
                refine jd (by decide) (by rfl) (v := ?ve4) ?hve4 ?_
                case hve4 => (intro x;go_simp;all_goals with_reducible rfl)
                simp only [Act.put,SsT]
                refine jd (by decide) (by rfl) (v := ?ve5) ?hve5 ?_
                case hve5 => (intro x;go_simp;all_goals with_reducible rfl)
                simp only [Act.put,SsT]
                refine jd (by decide) (by rfl) (v := ?ve6) ?hve6 ?_
                case hve6 => (intro x;go_simp;all_goals with_reducible rfl)
                simp only [Act.put,SsT]
                refine jd (by decide) (by rfl) (v := ?ve7) ?hve7 ?_
                case hve7 => (intro x;go_simp;all_goals with_reducible rfl)
                simp only [Act.put,SsT]
                refine jd (by decide) (by rfl) (v := ?ve8) ?hve8 ?_
                case hve8 => (intro x;go_simp;all_goals with_reducible rfl)
                simp only [Act.put,SsT]
                refine jd (by decide) (by rfl) (v := ?ve9) ?hve9 ?_
                case hve9 => (intro x;go_simp;all_goals with_reducible rfl)
                simp only [Act.put,SsT]
                refine js ?_
                intro ze
                have HZe := jH (HFe.out.on ze.h)
                have HZOe := jH (jc HOe.out ze.h hle)
                have gne := hgwp (i + 1) (by omega)
                have zle := lt_of_block HZOe.out
                clear o0e o1e o2e o3e o4e r1e r2e b0e
                cases ms
                all_goals
                 go_wp2_with (go_at_call 75;refine (CS.out _ _ _ (i + 1) _ HZe.out (by omega) (by omega) HMSe.out).mono ?_;rintro _ w5e ⟨rfl,hSe,hLoe⟩;have HSe := jH hSe;have HKe := jH ((hLoe.rest wp.heap.size zle (by omega)).trans HZOe.out);have k0e := ja HKe.out 0 rfl;have k2e := ja HKe.out 2 rfl;have kre := HSe.out.br.at hlt3;have kbe := ja HSe.out.bx 0 rfl;rw [if_neg (show ¬ i = i + 1 by omega),HREI.out] at kre;simp only [List.getElem_toArray,List.getElem_cons_zero,List.getElem_cons_succ] at k0e k2e kbe;have kue := HSe.out.br.at hn2;have kfe : w5e.frozen? ⟨w.heap.size + 1,n1,none⟩ = false := je HSe.out.br n1;clear hSe)
                 obtain ⟨Wb,hWb⟩ : ∃ W,W = World.setCell w5e ⟨w.heap.size + 1,n1,none⟩ (.bool true) := ⟨_,rfl⟩
                 have hFb : FS s k w Wb gv cap j wd g (fun n => if n = n1 then true else (fun n => if n = i + 1 then true else re' n) n) (stk (fnS s k) i (i + 1) la') := by rw [hWb];exact (HSe.out).reach (n1)
                 have hOb : Wb.heap[wp.heap.size]? = some (.cells #[.int .i64 18,.int .i64 rI,.int .i64 x,.int .i64 yI,.int .i64 pI] 60 (0,0) : Obj) := by rw [hWb];exact (Below.heap_setCell _ _ _ _ (show wp.heap.size ≠ w.heap.size + 1 by omega)).trans (HKe.out)
                 rw [<- hWb]
                 have HFb := jH hFb
                 have HOb := jH hOb
                 have hlb := lt_of_block hOb
                 have o0b : ∀ z : Wd Wb.heap.size Wb,z.v.cell? ⟨wp.heap.size,0,none⟩ = some (.int .i64 18) := fun z => Wd.at HOb.out hlb 0 rfl z
                 have o1b : ∀ z : Wd Wb.heap.size Wb,z.v.cell? ⟨wp.heap.size,1,none⟩ = some (.int .i64 rI) := fun z => Wd.at HOb.out hlb 1 rfl z
                 have o2b : ∀ z : Wd Wb.heap.size Wb,z.v.cell? ⟨wp.heap.size,2,none⟩ = some (.int .i64 x) := fun z => Wd.at HOb.out hlb 2 rfl z
                 have o3b : ∀ z : Wd Wb.heap.size Wb,z.v.cell? ⟨wp.heap.size,3,none⟩ = some (.int .i64 yI) := fun z => Wd.at HOb.out hlb 3 rfl z
                 have o4b : ∀ z : Wd Wb.heap.size Wb,z.v.cell? ⟨wp.heap.size,4,none⟩ = some (.int .i64 pI) := fun z => Wd.at HOb.out hlb 4 rfl z
                 have gvlb : gv < Wb.heap.size := (HFb.out.ld.own.lt gv rfl).2
                 have r1b : ∀ z : Wd Wb.heap.size Wb,z.v.cell? ⟨gv,i,none⟩ = some (.slice (some ⟨g i,0,none⟩) wd wd) := fun z => (z.h.cell (p := ⟨gv,i,none⟩) gvlb).trans (HFb.out.ld.cell hlt3)
                 have r2b : ∀ z : Wd Wb.heap.size Wb,z.v.cell? ⟨gv,n1,none⟩ = some (.slice (some ⟨g (n1),0,none⟩) wd wd) := fun z => (z.h.cell (p := ⟨gv,n1,none⟩) gvlb).trans (HFb.out.ld.cell (by omega))
                 have b0b : ∀ z : Wd Wb.heap.size Wb,z.v.cell? ⟨w.heap.size,0,none⟩ = some (.int .i64 (r0 s k)) := fun z => Wd.at HFb.out.bx (lt_of_block HFb.out.bx) 0 rfl z
                 clear hWb hFb hOb
                 refine jP 13 18 (by kernel_rfl) (by kernel_rfl) (by decide) ?_
                 simp only [TkD]
                 refine jd (by decide) (by rfl) (v := ?vb0) ?hvb0 ?_
                 case hvb0 => (intro x;go_simp;all_goals with_reducible rfl)
                 simp only [Act.put,SsT]
                 refine jd (by decide) (by rfl) (v := ?vb1) ?hvb1 ?_
                 case hvb1 => (intro x;go_simp;all_goals with_reducible rfl)
                 simp only [Act.put,SsT]
                 refine jd (by decide) (by rfl) (v := ?vb2) ?hvb2 ?_
                 case hvb2 => (intro x;go_simp;all_goals with_reducible rfl)
                 simp only [Act.put,SsT]
                 refine jd (by decide) (by rfl) (v := ?vb3) ?hvb3 ?_
                 case hvb3 => (intro x;go_simp;all_goals with_reducible rfl)
                 simp only [Act.put,SsT]
                 refine jd (by decide) (by rfl) (v := ?vb4) ?hvb4 ?_
                 case hvb4 => (intro x;go_simp;all_goals with_reducible rfl)
                 simp only [Act.put,SsT]
                 refine jd (by decide) (by rfl) (v := ?vb5) ?hvb5 ?_
                 case hvb5 => (intro x;go_simp;all_goals with_reducible rfl)
                 simp only [Act.put,SsT]
                 refine jd (by decide) (by rfl) (v := ?vb6) ?hvb6 ?_
                 case hvb6 => (intro x;go_simp;all_goals with_reducible rfl)
                 simp only [Act.put,SsT]
                 refine jd (by decide) (by rfl) (v := ?vb7) ?hvb7 ?_
                 case hvb7 => (intro x;go_simp;all_goals with_reducible rfl)
                 simp only [Act.put,SsT]
                 refine jd (by decide) (by rfl) (v := ?vb8) ?hvb8 ?_
                 case hvb8 => (intro x;go_simp;all_goals with_reducible rfl)
                 simp only [Act.put,SsT]
                 refine jd (by decide) (by rfl) (v := ?vb9) ?hvb9 ?_
                 case hvb9 => (intro x;go_simp;all_goals with_reducible rfl)
                 simp only [Act.put,SsT]
                 refine jd (by decide) (by rfl) (v := ?vb10) ?hvb10 ?_
                 case hvb10 => (intro x;go_simp;all_goals with_reducible rfl)
                 simp only [Act.put,SsT]
                 refine jd (by decide) (by rfl) (v := ?vb11) ?hvb11 ?_
                 case hvb11 => (intro x;go_simp;all_goals with_reducible rfl)
                 simp only [Act.put,SsT]
                 refine jd (by decide) (by rfl) (v := ?vb12) ?hvb12 ?_
                 case hvb12 => (intro x;go_simp;all_goals with_reducible rfl)
                 simp only [Act.put,SsT]
                 refine js ?_
                 intro zb
                 have HZb := jH (HFb.out.on zb.h)
                 have HZOb := jH (jc HOb.out zb.h hlb)
                 have gnb := hgwp (n1) (by omega)
                 have zlb := lt_of_block HZOb.out
                 clear o0b o1b o2b o3b o4b r1b r2b b0b
                 cases ms2
                 all_goals
                  go_wp2_with (go_at_call 75;refine (CS.out _ _ _ (n1) _ HZb.out (by omega) (by omega) HMSb.out).mono ?_;rintro _ w5b ⟨rfl,hSb,hLob⟩;have HSb := jH hSb;clear hSb hLob)
                  go_roundg (j - (i + 1))
                  case measure => omega
                  case rel => exact ⟨i + 1,_,_,_,by omega,rfl,by simp,by rw [show r0 s k + (i + 1) = pc + 1 by have := HPC.out;omega];go_num,HSb.out,HNX.out,by simp [HRE2.out]⟩
         ·have hij : i = j := by omega
          have t1 : decide (((r0 s k + i : Nat) : Int) < (en s k : Int)) = false := by have := HEN.out;simp;omega
          have t2 : ¬ ((r0 s k + i : Nat) : Int) < (en s k : Int) := by have := HEN.out;omega
          go_wp2_with fail
          go_roundg (if m then 1 + c2 la' wd j else 0)
          case measure =>
           have h1 := HGM.out
           have h2 := HPS.out.c
           cases m with
           | true => have := h2 rfl;simp at h1 ⊢;omega
           | false => simp at h1 ⊢;omega
          case rel => exact ⟨m,re',la',rfl,rfl,HFS2.out,HPS.out.d,HRE2.out,fun hm => ⟨la,by subst hm;rw [hij] at HPS;exact HPS.out⟩⟩
      | false =>
        obtain ⟨la0,hPs⟩ := HFIN.out rfl
        have HPS := jH hPs
        have HFL : Hid (∀ i,i < j -> (rdL s (r0 s k + i)).all (la i) = (fnS s k).ok (fun i => rdL s (r0 s k + i)) i) := fun i hi => hPs.ok HAH.out (rd := fun i => rdL s (r0 s k + i)) hi (fun x hx => by
         have h1 := (HW.out (r0 s k + i) (by omega) (by have := HCE.out;omega)).reads HRW.out x hx
         have := HWD.out
         omega)
        clear hPs
        go_wp2_with fail
        go_loopg [19] j (fun gh s19 (wq : World) => ∃ i : Nat,i <= j /\ gh = j - i /\ s19 = .int .i64 ((r0 s k + i : Nat) : Int) /\ bad ((fnS s k).ok fun i => rdL s (r0 s k + i)) (j - i) i = flR s k /\ FS s k w wq gv cap j wd g re la)
        case atStart => exact ⟨0,by omega,rfl,rfl,by rw [Nat.sub_zero];unfold flR;rw [HCN.out],HFS1.out⟩
        case round =>
         obtain ⟨wq,rfl⟩ : ∃ wq,wq = wr := ⟨_,rfl⟩
         obtain ⟨i,hi,hgi,rfl,hbd,hFS⟩ := hrel
         have HFS2 := jH hFS
         have HBD := jH hbd
         have y0 := ja hFS.bx 0 rfl
         have y4 := ja hFS.bx 4 rfl
         simp only [List.getElem_toArray,List.getElem_cons_zero,List.getElem_cons_succ] at y0 y4
         clear hFS hbd
         by_cases hlt3 : i < j
         ·have hpcL : r0 s k + i < hL s := by have := HCE.out;omega
          obtain ⟨q0,q1,q2,q3,q4,q5⟩ := HLN.out wq (r0 s k + i) HFS2.out.bl hpcL
          have CR := jH (jhv (HAT.out.on HFS2.out.bl) HRW.out (HW.out (r0 s k + i) (by omega) (by have := HCE.out;omega)))
          obtain ⟨pc,hpc⟩ : ∃ pc,r0 s k + i = pc := ⟨_,rfl⟩
          have HPC := jH hpc
          have HFLi := jH (HFL.out i hlt3)
          have hrd := jH (fun x hx => (HW.out (r0 s k + i) (by omega) (by have := HCE.out;omega)).reads HRW.out x hx)
          rw [hpc] at q1 q2 q3 q4 q5 CR HFLi hrd hpcL ⊢
          have t1 : decide ((pc : Int) < (en s k : Int)) = true := by have := HEN.out;simp;omega
          have t2 : (pc : Int) < (en s k : Int) := by have := HEN.out;omega
          have t3 : (pc : Int) < ((hL s : Nat) : Int) := by omega
          have t4 : (pc : Int) - (r0 s k : Int) = (i : Int) := by omega
          have t5 : IntKind.i64.wrap ((pc : Int) - (r0 s k : Int)) = (i : Int) := by rw [t4,IntKind.wrap_i64];omega
          clear hpc
          go_wp2_with (go_at_call 76;refine CR.out.mono ?_;rintro _ w2 ⟨v20,rfl,hown2,hb2⟩;obtain ⟨a20,c20,rfl⟩ := j5 hown2;have HOW2 := jH hown2;have HFS3 := jH (HFS2.out.on hb2);clear hown2 hb2)
          go_loopg [21] (rdL s pc).length (fun gh s21 (wx : World) => ∃ q : Nat,q <= (rdL s pc).length /\ gh = (rdL s pc).length - q /\ s21 = .int .i64 q /\ (∀ t,t < q -> ∀ y,(rdL s pc)[t]? = some y -> la i y = true) /\ Below w2.heap.size w2 wx)
          case atStart => exact ⟨0,by omega,rfl,rfl,fun t ht => absurd ht (Nat.not_lt_zero _),jB⟩
          case round =>
           obtain ⟨wx,rfl⟩ : ∃ wx,wx = wr := ⟨_,rfl⟩
           obtain ⟨q,hq,hgq,rfl,hal,hbx⟩ := hrel
           have HAL := jH hal
           have HBX2 := jH hbx
           have HFX := jH (HFS3.out.on hbx)
           have w0 := ja HFX.out.bx 0 rfl
           simp only [List.getElem_toArray,List.getElem_cons_zero,List.getElem_cons_succ] at w0
           have hln2 : (rdL s pc).length <= 10 := by rw [<- HPC.out];exact jhO HRW.out (HW.out (r0 s k + i) (by omega) (by have := HCE.out;omega))
           by_cases hlt4 : q < (rdL s pc).length
           ·obtain ⟨go2,cap3,hsl,ho1,ho2,ho3,ho4⟩ := jaf HOW2.out (by omega)
            injection hsl with k1 k2 k3
            subst k1 k3
            obtain ⟨y,hy⟩ : ∃ y,(rdL s pc)[q]? = some y := ⟨_,List.getElem?_eq_getElem hlt4⟩
            have hyw := hrd.out y (List.mem_of_getElem? hy)
            have hyw2 : y < wd := by have := HWD.out;omega
            have d1 : wx.cell? ⟨go2,q,none⟩ = some (.int .i64 y) := by
             rw [hbx.cell (p := ⟨go2,q,none⟩) ho2,HOW2.out.cellAt q (by omega)]
             simp [inV,hy]
            have d2 : wx.cell? ⟨gv,i,none⟩ = some (.slice (some ⟨g i,0,none⟩) wd wd) := HFX.out.ld.cell hlt3
            have d3 := (HFX.out.ld.row i hlt3).at hyw2
            have t6 : (q : Int) < ((rdL s pc).length : Int) := by omega
            have t7 : (i : Int) < (j : Int) := by omega
            have t8 : (y : Int) < (wd : Int) := by omega
            have HY := jH hy
            clear hal hbx hy hyw
            generalize (rdL s pc).length = ln at *
            cases hv : la i y with
            | true =>
              rw [hv] at d3
              have HV := jH hv
              clear hv
              go_wp2_with fail
              go_quiet (fail)
              go_wp2_with fail
              go_roundg (ln - (q + 1))
              case measure => omega
              case rel =>
               refine ⟨q + 1,by omega,rfl,by go_num,fun t ht y' hy' => ?_,below_drewN HBX2.out _⟩
               by_cases e : t = q
               ·subst e;rw [HY.out] at hy';injection hy' with hy';rw [<- hy'];exact HV.out
               ·exact HAL.out t (by omega) y' hy'
            | false =>
              rw [hv] at d3
              have HRS : Hid (res = (pc : Int)) := by
               show _ = _
               have h := HBD.out
               have hno : (fnS s k).ok (fun i => rdL s (r0 s k + i)) i = false := by
                rw [<- HFLi.out,List.all_eq_false]
                exact ⟨y,List.mem_of_getElem? HY.out,by rw [hv];decide⟩
               rw [show j - i = (j - (i + 1)) + 1 by omega,bad,if_neg (by rw [hno];decide)] at h
               rw [<- HRES.out,<- h]
               show ((r0 s k + i : Nat) : Int) = _
               rw [HPC.out]
              clear hv
              go_wp2_with fail
              go_quiet (fail)
              go_wp2_with fail
              go_ret
              exact ⟨jR HRS.out.symm,below_drewN (HFX.out.bl) _⟩
           ·have HNX : Hid (bad ((fnS s k).ok fun i => rdL s (r0 s k + i)) (j - (i + 1)) (i + 1) = flR s k) := by
             have h := HBD.out
             have hyes : (fnS s k).ok (fun i => rdL s (r0 s k + i)) i = true := by
              rw [<- HFLi.out,List.all_eq_true]
              intro y hy
              obtain ⟨t,ht⟩ := List.getElem?_of_mem hy
              exact HAL.out t (by have := (jG ht).1;omega) y ht
             rw [show j - i = (j - (i + 1)) + 1 by omega,bad,if_pos hyes] at h
             exact h
            have t9 : ¬ (q : Int) < ((rdL s pc).length : Int) := by omega
            clear hal hbx
            generalize (rdL s pc).length = ln at *
            go_wp2_with fail
            go_roundg (j - (i + 1))
            case measure => omega
            case rel => exact ⟨i + 1,by omega,rfl,by rw [show r0 s k + (i + 1) = pc + 1 by have := HPC.out;omega];go_num,HNX.out,HFX.out⟩
         ·have hij : i = j := by omega
          have t1 : decide (((r0 s k + i : Nat) : Int) < (en s k : Int)) = false := by have := HEN.out;simp;omega
          have t2 : ¬ ((r0 s k + i : Nat) : Int) < (en s k : Int) := by have := HEN.out;omega
          have HRS : Hid (res = -1) := by
           show _ = _
           have h := HBD.out
           rw [show j - i = 0 by omega] at h
           rw [<- HRES.out,<- h];rfl
          go_wp2_with fail
          go_ret
          exact ⟨jR HRS.out.symm,HFS2.out.bl⟩
end Go.Proofs.YtjmgolahkgalbaaGreatDoor
