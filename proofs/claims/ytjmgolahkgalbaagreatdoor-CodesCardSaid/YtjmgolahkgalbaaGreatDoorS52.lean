import Derived.Test.YtjmgolahkgalbaaGreatDoorS51
set_option linter.unusedVariables false
set_option linter.unusedSimpArgs false
set_option maxHeartbeats 20000000
namespace Go.Proofs.YtjmgolahkgalbaaGreatDoor
namespace Ko
open Go.RowKit Li
variable {s : ByteArray} {w : World} {m : Nat} {r : Nat}
def GoD (s : ByteArray) (half depth gr : Nat) (ins : List Int) (w : World) (m : Nat) (κ : Kp) (c : Mc) (bs : List CB) (e : Ending) (w' : World) : Prop :=
 ∃ d ds u κ' v,Nx s c bs d ds u /\ DR s half depth gr ins w' m κ' d ds u /\ Fr0 κ κ' w w' /\ e = .returned (.agg (jaq d u v)) /\ TR w' κ' (19,0) 3 1 v d.out.length (iV d.out) /\ d.out.length <= 16
structure Lq (s : ByteArray) (half depth G : Nat) (ins : List Int) (w : World) (m : Nat) (κ : Kp) (d : Mc) (ds : List DB) (u J : Nat) (d1 : Mc) (wr : World) : Prop where
 ex : ∃ j ds1 u1 κ1,j <= J /\ PD s half depth ins G d ds u j d1 ds1 u1 /\ DR s half depth G ins wr m κ1 d1 ds1 u1 /\ Fr0 κ κ1 w wr /\ κ1 w.heap.size = none
 box : wr.heap[w.heap.size]? = some (.cells (jW 0) 30 (0,0))
variable {κ : Kp} {Y : Dt}
theorem DM.ln {s : ByteArray} {p : Nat} (h : DM s w p κ Y) {k : Nat} (hk : k < hL s) : ∃ g c,hL s <= c /\ g < w.heap.size /\ Y.x.q < w.heap.size /\ ∀ W,Below w.heap.size w W -> W.cell? ⟨p,0,none⟩ = some (.pointer (some ⟨Y.x.q,0,none⟩)) /\ W.cell? ⟨Y.x.q,2,none⟩ = some (.slice (some ⟨g,0,none⟩) (hL s) c) /\ W.cell? ⟨g,k * 5,none⟩ = some (.int .i64 (l0 s k : Nat)) /\ W.cell? ⟨g,k * 5 + 1,none⟩ = some (.int .i64 (l1 s k : Nat)) /\ W.cell? ⟨g,k * 5 + 2,none⟩ = some (.int .i64 (l2 s k : Nat)) /\ W.cell? ⟨g,k * 5 + 3,none⟩ = some (.int .i64 (l3 s k : Nat)) /\ W.cell? ⟨g,k * 5 + 4,none⟩ = some (.int .i64 (l4 s k : Nat)) := by
 obtain ⟨g,c,e,h1,_,h3⟩ := h.rows.cL.at (by omega)
 refine ⟨g,c,h1,h3,jb h.rows.prg.blk,fun W hW => ?_⟩
 have hT := (h.on hW).rows.cL
 rw [e] at hT
 have hc : ∀ o,o < 5 -> W.cell? ⟨g,k * 5 + o,none⟩ = (dL s k)[o]? := fun o ho => by
  rw [hT.own.cellAt _ (by omega)]
  exact Jq (f := dL s) (w := 5) (fun _ => rfl) ho (hL s) hk
 refine ⟨ja (h.on hW).mac 0 rfl,?_,hc 0 (by omega),hc 1 (by omega),hc 2 (by omega),hc 3 (by omega),hc 4 (by omega)⟩
 have := ja (h.on hW).rows.prg.blk 2 rfl
 rw [e] at this
 exact this
set_option maxRecDepth 100000 in
theorem jkV (hck : Ck s) {half depth gr : Nat} {ins : List Int} (hi : ∀ z ∈ ins,-9223372036854775808 <= z /\ z <= 9223372036854775807) (hil : ins.length <= 16) (hh : half <= 2048) {d : Mc} {ds : List DB} {u : Nat} (h : DR s half depth gr ins w m κ d ds u) {n : Nat} (hn : gr + n <= 65536) {c : Mc} {bs : List CB} (h0 : Nx s c bs d ds u) {J : Nat} {cJ : Mc} {bsJ : List CB} (hp : PC s half depth ins (gr + n) c bs J cJ bsJ) (hend : ¬ (cJ.err = 42 /\ cJ.steps < gr + n)) :
 Calls Tryz.prog 13 #[.pointer (some ⟨m,0,none⟩),.int .i64 n] w (GoD s half depth (gr + n) ins w m κ cJ bsJ) := by
 obtain ⟨Y,hY,_,_,_,hfu,_⟩ := id h
 have c8 : w.cell? ⟨m,8,none⟩ = some (.int .i64 gr) := by rw [<- hfu];exact ja hY.mac 8 rfl
 have c0 : w.cell? ⟨m,0,none⟩ = some (.pointer (some ⟨Y.x.q,0,none⟩)) := ja hY.mac 0 rfl
 have z8 := je hY.mac 8
 have hlt := hY.lt
 have u1 : decide (((n : Nat) : Int) < (0 : Int)) = false := by simp
 have u2 : decide ((65536 : Int) - (gr : Int) < ((n : Nat) : Int)) = false := by simp;omega
 have htop := hY.top _ jN
 have hC0 : DR s half depth (gr + n) ins ((w.setCell ⟨m,8,none⟩ (.int .i64 ((gr : Int) + (n : Int)))).alloc (.cells (jW 0) 30 (0,0))) m κ d ds u /\ Fr0 κ κ w ((w.setCell ⟨m,8,none⟩ (.int .i64 ((gr : Int) + (n : Int)))).alloc (.cells (jW 0) 30 (0,0))) := by
  have h1 := h.give (gr + n)
  rw [show ((gr + n : Nat) : Int) = (gr : Int) + (n : Int) by omega] at h1
  exact ⟨h1.1.on (jr _ _),Fr0.trans h1.2 (Fr.of (jr _ _))⟩
 have hb0 : ((w.setCell ⟨m,8,none⟩ (.int .i64 ((gr : Int) + (n : Int)))).alloc (.cells (jW 0) 30 (0,0))).heap[w.heap.size]? = some (.cells (jW 0) 30 (0,0)) := j9 (by simp)
 have HL0 : Hid (Lq s half depth (gr + n) ins w m κ d ds u J d ((w.setCell ⟨m,8,none⟩ (.int .i64 ((gr : Int) + (n : Int)))).alloc (.cells (jW 0) 30 (0,0)))) := ⟨⟨0,ds,u,κ,Nat.zero_le _,.nil,hC0.1,hC0.2,htop⟩,hb0⟩
 have H0 := jH h0
 have HCK := jH hck
 have HI := jH hi
 have HP := jH hp
 have HEND := jH hend
 obtain ⟨G,hG⟩ : ∃ G,gr + n = G := ⟨_,rfl⟩
 rw [hG] at HL0 hn HP HEND ⊢
 clear hY h hC0 hb0 htop h0 hck hi hp hend hfu
 unfold jW at HL0
 go_enter Tryz.func13,Tryz.ntmps13
 go_wp2
 have hL0 := HL0.out
 clear HL0 c8 z8 c0
 generalize ((w.setCell ⟨m,8,none⟩ (.int .i64 ((gr : Int) + (n : Int)))).alloc (.cells #[.int .i64 0,.int .i64 0,.int .i64 0,.slice none 0 0,.int .i64 0,.int .i64 0,.int .i64 0,.int .i64 0] 30 (0,0))) = W0 at hL0 ⊢
 have HL0 := jH hL0
 clear hL0
 go_loopg [] (G - d.steps) (fun gh (wr : World) => ∃ d1 : Mc,gh = G - d1.steps /\ G - d1.steps <= G - d.steps /\ Lq s half depth G ins w m κ d ds u J d1 wr)
 case atStart => exact ⟨d,rfl,jN,HL0.out⟩
 case round =>
  obtain ⟨d1,hgi,hle,hLq⟩ := hrel
  obtain ⟨wi,rfl⟩ : ∃ wi,wi = wr := ⟨_,rfl⟩
  obtain ⟨⟨j,ds1,u1',κ1,hj,hPD,hDR,hFr,hk1⟩,hbox⟩ := hLq
  have HDR := jH hDR
  obtain ⟨Y1,hY1,rfl,rfl,rfl,hfu,hol,hDI⟩ := hDR
  have e8 : wi.cell? ⟨m,8,none⟩ = some (.int .i64 G) := by rw [<- hfu];exact ja hY1.mac 8 rfl
  have e10 : wi.cell? ⟨m,10,none⟩ = some (.int .i64 Y1.x.err) := ja hY1.mac 10 rfl
  have e14 : wi.cell? ⟨m,14,none⟩ = some (.int .i64 Y1.x.steps) := ja hY1.mac 14 rfl
  have hmi := hY1.lt
  have hwi := jb hbox
  have HPD := jH hPD
  have HFR := jH hFr
  have HBX := jH hbox
  have HY1 := jH hY1
  obtain ⟨hgo,hstop⟩ := jh5 HCK.out (by omega) H0.out HP.out HEND.out hPD hj
  by_cases hst : Y1.x.err = 42 /\ Y1.x.steps < G
  ·obtain ⟨hJ,m1,bs1,β,k,A,S⟩ := hgo hst
   obtain ⟨hE,hS⟩ := hst
   have hI1 := hDI hE
   rw [hE,show ((42 : Nat) : Int) = 42 from rfl] at e10
   have g1 : decide ((Y1.x.steps : Int) < (G : Int)) = true := by simp;omega
   have g2 : decide (Y1.x.steps < G) = true := by simp;omega
   have hpc : m1.pc = Y1.x.pc := S.pc
   have hpcl : Y1.x.pc < hL s := by
    have h1 := S.al.hi
    have h2 := (jal HCK.out.row S.al.kl).2
    omega
   have hLl : hL s < 65536 := ju _ _
   have CS : Hid (∀ W,DM s W m κ1 (stD Y1) -> Calls Tryz.prog 19 #[.pointer (some ⟨m,0,none⟩),.agg #[.int .i64 (l0 s Y1.x.pc : Nat),.int .i64 (l1 s Y1.x.pc : Nat),.int .i64 (l2 s Y1.x.pc : Nat),.int .i64 (l3 s Y1.x.pc : Nat),.int .i64 (l4 s Y1.x.pc : Nat)]] W (DP s half depth G ins κ1 m Y1 W)) := fun W hW => jkU HCK.out HI.out hil hW hI1 (by omega) hE S
   have HEE := jH hE
   have HSS := jH hS
   have hLs : Lone m wi (wi.setCell ⟨m,14,none⟩ (.int .i64 ((Y1.x.steps : Int) + 1))) := (Lone.refl _ _).set 14 _
   have hD2 : DM s (wi.setCell ⟨m,14,none⟩ (.int .i64 ((Y1.x.steps : Int) + 1))).drew m κ1 (stD Y1) := by
    have h9 := hY1.upd (x' := { Y1.x with steps := Y1.x.steps + 1 }) (jf hY1.mac 14 (.int .i64 ((Y1.x.steps + 1 : Nat) : Int))) ((Lone.refl _ _).set 14 _) rfl
    rw [show ((Y1.x.steps + 1 : Nat) : Int) = (Y1.x.steps : Int) + 1 by omega] at h9
    exact h9.drew
   have hF2 := Fr.drew (Fr0.trans hFr (hY1.low hLs))
   have hbx2 : (wi.setCell ⟨m,14,none⟩ (.int .i64 ((Y1.x.steps : Int) + 1))).drew.heap[w.heap.size]? = some (.cells (jW 0) 30 (0,0)) := (hY1.low hLs).blk hbox hk1
   have z14 := je hY1.mac 14
   have hsb : Y1.x.steps <= 65536 := hI1.sm
   obtain ⟨pcv,hpcv⟩ : ∃ pcv,Y1.x.pc = pcv := ⟨_,rfl⟩
   clear hPD hFr hbox hY1 hgo hstop S hI1 hDI hE hS hLs hpc
   go_wp2
   go_region
   go_upto_region 8 with fail
   generalize (wi.setCell ⟨m,14,none⟩ (.int .i64 ((Y1.x.steps : Int) + 1))).drew = W2 at hD2 hF2 hbx2 ⊢
   obtain ⟨gL,cL,t1,t2,t3,t4⟩ := hD2.ln (k := Y1.x.pc) hpcl
   rw [show (stD Y1).x.q = Y1.x.q from rfl] at t3 t4
   haveI := Wd.ne
   have hm2 := hD2.lt
   have HD2 : Hid (∀ yy : Wd W2.heap.size W2,DM s yy.v m κ1 (stD Y1)) := fun yy => hD2.on yy.h
   have HF2 : Hid (∀ yy : Wd W2.heap.size W2,Fr0 κ κ1 w yy.v) := fun yy => Fr0.trans hF2 (Fr.of yy.h)
   have HB2 : Hid (∀ yy : Wd W2.heap.size W2,yy.v.heap[w.heap.size]? = some (.cells (jW 0) 30 (0,0))) := fun yy => jc hbx2 yy.h (jb hbx2)
   rw [hpcv] at t4 CS hpcl
   have gpc : (pcv : Int) < (hL s : Int) := by omega
   generalize hl0 : l0 s pcv = L0 at t4 CS
   generalize hl1 : l1 s pcv = L1 at t4 CS
   generalize hl2 : l2 s pcv = L2 at t4 CS
   generalize hl3 : l3 s pcv = L3 at t4 CS
   generalize hl4 : l4 s pcv = L4 at t4 CS
   have f0 : ∀ yy : Wd W2.heap.size W2,yy.v.cell? ⟨m,0,none⟩ = some (.pointer (some ⟨Y1.x.q,0,none⟩)) := fun yy => (t4 _ yy.h).1
   have f1 : ∀ yy : Wd W2.heap.size W2,yy.v.cell? ⟨Y1.x.q,2,none⟩ = some (.slice (some ⟨gL,0,none⟩) (hL s) cL) := fun yy => (t4 _ yy.h).2.1
   have f2 : ∀ yy : Wd W2.heap.size W2,yy.v.cell? ⟨m,7,none⟩ = some (.int .i64 pcv) := fun yy => by rw [<- hpcv];exact ja (HD2.out yy).mac 7 rfl
   have f3 : ∀ yy : Wd W2.heap.size W2,yy.v.cell? ⟨gL,pcv * 5,none⟩ = some (.int .i64 L0) := fun yy => (t4 _ yy.h).2.2.1
   have f4 : ∀ yy : Wd W2.heap.size W2,yy.v.cell? ⟨gL,pcv * 5 + 1,none⟩ = some (.int .i64 L1) := fun yy => (t4 _ yy.h).2.2.2.1
   have f5 : ∀ yy : Wd W2.heap.size W2,yy.v.cell? ⟨gL,pcv * 5 + 2,none⟩ = some (.int .i64 L2) := fun yy => (t4 _ yy.h).2.2.2.2.1
   have f6 : ∀ yy : Wd W2.heap.size W2,yy.v.cell? ⟨gL,pcv * 5 + 3,none⟩ = some (.int .i64 L3) := fun yy => (t4 _ yy.h).2.2.2.2.2.1
   have f7 : ∀ yy : Wd W2.heap.size W2,yy.v.cell? ⟨gL,pcv * 5 + 4,none⟩ = some (.int .i64 L4) := fun yy => (t4 _ yy.h).2.2.2.2.2.2
   clear hD2 hF2 hbx2 t4 e8 e10 e14 z14 hl0 hl1 hl2 hl3 hl4
   refine jP 14 15 (by kernel_rfl) (by kernel_rfl) (by decide) ?_
   simp only [TkD]
   iterate 14
    apply jd (by decide) (by rfl)
    ·intro yy;go_simp;all_goals with_reducible rfl
    simp only [Act.put,SsT]
   refine js ?_
   intro yy
   have HW2 : Hid (W2.heap.size <= yy.v.heap.size) := yy.h.size
   clear f0 f1 f2 f3 f4 f5 f6 f7
   go_wp2_with (first
    | (go_at_call 19;refine (CS.out _ (HD2.out yy)).mono ?_;rintro _ w3 ⟨rfl,κ3,Y3,f3,hD3,hs3,hf3,ho3,hi3⟩))
   have hst2 := jgn hs3
   go_roundg (G - Y3.x.steps)
   case measure =>
    have h1 : Y3.x.steps = Y1.x.steps + 1 := hst2
    have h4 : gk = G - Y1.x.steps := hgi
    have h5 := HSS.out
    omega
   case rel =>
    have h1 : Y3.x.steps = Y1.x.steps + 1 := hst2
    have h2 := HSS.out
    have hl1 : G - (jl Y1).steps <= G - d.steps := hle
    exact ⟨jl Y3,rfl,by show G - Y3.x.steps <= G - d.steps;have h3 : G - Y1.x.steps <= G - d.steps := hle;omega,⟨⟨j + 1,_,_,κ3,hJ,HPD.out.snoc HEE.out h2 hs3,⟨Y3,hD3,rfl,rfl,rfl,hf3,ho3,hi3⟩,Fr0.trans (HF2.out yy) f3,(f3.old _ (jb (HB2.out yy))).trans hk1⟩,Fr.blk f3 (HB2.out yy) hk1⟩⟩
  ·have HNX := jH (hstop hst)
   have e9 : wi.cell? ⟨m,9,none⟩ = some (.int .i64 Y1.x.used) := ja hY1.mac 9 rfl
   have e11 : wi.cell? ⟨m,11,none⟩ = some (.int .i64 Y1.x.pos) := ja hY1.mac 11 rfl
   have e12 : wi.cell? ⟨m,12,none⟩ = some (.int .i64 Y1.x.val) := ja hY1.mac 12 rfl
   have e13 : wi.cell? ⟨m,13,none⟩ = some Y1.x.vout := ja hY1.mac 13 rfl
   have e15 : wi.cell? ⟨m,15,none⟩ = some (.int .i64 Y1.x.read) := ja hY1.mac 15 rfl
   have e16 : wi.cell? ⟨m,16,none⟩ = some (.int .i64 Y1.x.gcs) := ja hY1.mac 16 rfl
   have e17 : wi.cell? ⟨m,17,none⟩ = some (.int .i64 0) := ja hY1.mac 17 rfl
   obtain ⟨av,cv,ev,hcv⟩ := hY1.rows.out.any
   rw [ev] at e13
   have HEV := jH ev
   clear hPD hFr hbox hY1 hgo hstop hDI ev
   have HST := jH hst
   by_cases hE : Y1.x.err = 42
   ·rw [hE,show ((42 : Nat) : Int) = 42 from rfl] at e10
    have hS : ¬ Y1.x.steps < G := fun h => hst ⟨hE,h⟩
    have g1 : decide ((Y1.x.steps : Int) < (G : Int)) = false := by simp;omega
    have g2 : decide (Y1.x.steps < G) = false := by simp;omega
    clear hst hS
    have HEE := jH hE
    clear hE
    go_wp2
    go_region
    go_upto_region 11 with fail
    have hB5 := (jr wi (.cells #[.int .i64 42,.int .i64 Y1.x.pos,.int .i64 Y1.x.val,.slice av Y1.out.length cv,.int .i64 Y1.x.steps,.int .i64 Y1.x.read,.int .i64 Y1.x.gcs,.int .i64 Y1.x.used] 30 (0,0))).drew
    have hb5 : ((wi.alloc (.cells #[.int .i64 42,.int .i64 Y1.x.pos,.int .i64 Y1.x.val,.slice av Y1.out.length cv,.int .i64 Y1.x.steps,.int .i64 Y1.x.read,.int .i64 Y1.x.gcs,.int .i64 Y1.x.used] 30 (0,0))).drew).heap[wi.heap.size]? = _ := jg wi (.cells #[.int .i64 42,.int .i64 Y1.x.pos,.int .i64 Y1.x.val,.slice av Y1.out.length cv,.int .i64 Y1.x.steps,.int .i64 Y1.x.read,.int .i64 Y1.x.gcs,.int .i64 Y1.x.used] 30 (0,0))
    obtain ⟨qb,hqb⟩ : ∃ qb,wi.heap.size = qb := ⟨_,rfl⟩
    rw [hqb] at hb5
    generalize (wi.alloc (.cells #[.int .i64 42,.int .i64 Y1.x.pos,.int .i64 Y1.x.val,.slice av Y1.out.length cv,.int .i64 Y1.x.steps,.int .i64 Y1.x.read,.int .i64 Y1.x.gcs,.int .i64 Y1.x.used] 30 (0,0))).drew = W5 at hB5 hb5 ⊢
    rw [hqb]
    have y0 := ja hb5 0 rfl
    have y1 := ja hb5 1 rfl
    have y2 := ja hb5 2 rfl
    have y3 := ja hb5 3 rfl
    have y4 := ja hb5 4 rfl
    have y5 := ja hb5 5 rfl
    have y6 := ja hb5 6 rfl
    have y7 := ja hb5 7 rfl
    simp only [List.getElem_toArray,List.getElem_cons_zero,List.getElem_cons_succ] at y0 y1 y2 y3 y4 y5 y6 y7
    have hbx5 := jc HBX.out hB5 hwi
    have HBX5 := jH hbx5
    have HB5 := jH hB5
    have hq5 := jb hb5
    have hw5 := jb hbx5
    clear hbx5 hB5 hb5 e8 e9 e10 e11 e12 e13 e14 e15 e16 e17
    go_wp2_with (first
     | (show wpList _ _ _ (Oper.mk none (Op.store 30 (.tmp 4) (.tmp 84)) _ _ _ _ :: _) _ _;refine Jv HBX5.out rfl 30 (.tmp 4) (.tmp 84) rfl #[.int .i64 42,.int .i64 Y1.x.pos,.int .i64 Y1.x.val,.slice av Y1.out.length cv,.int .i64 Y1.x.steps,.int .i64 Y1.x.read,.int .i64 Y1.x.gcs,.int .i64 Y1.x.used] rfl rfl rfl Tryz.kiRs (by simp only [List.all_toArray];rfl) ?_;intro w6 hb6 hl6))
    have hF6 := Fr.new (Fr0.trans HFR.out (Fr.of HB5.out)) jN hl6
    have hT6 := ((HY1.out.on HB5.out).other hk1 hl6).rows.out
    rw [HEV.out] at hT6
    exact jcy rfl hb6 ⟨jl Y1,dsD Y1,Y1.x.used,κ1,.slice av Y1.out.length cv,HNX.out,(HDR.out.on HB5.out).other hk1 hl6,hF6,by unfold jaq;rw [show (jl Y1).err = 42 from HEE.out];rfl,hT6,hol⟩
   ·have g1 : ((Y1.x.err : Int) == 42) = false := by rw [beq_eq_false_iff_ne];intro h;exact hE (by omega)
    clear hst hE
    go_wp2
    go_region
    go_upto_region 11 with fail
    have hB5 := (jr wi (.cells #[.int .i64 Y1.x.err,.int .i64 Y1.x.pos,.int .i64 Y1.x.val,.slice av Y1.out.length cv,.int .i64 Y1.x.steps,.int .i64 Y1.x.read,.int .i64 Y1.x.gcs,.int .i64 Y1.x.used] 30 (0,0))).drew
    have hb5 : ((wi.alloc (.cells #[.int .i64 Y1.x.err,.int .i64 Y1.x.pos,.int .i64 Y1.x.val,.slice av Y1.out.length cv,.int .i64 Y1.x.steps,.int .i64 Y1.x.read,.int .i64 Y1.x.gcs,.int .i64 Y1.x.used] 30 (0,0))).drew).heap[wi.heap.size]? = _ := jg wi (.cells #[.int .i64 Y1.x.err,.int .i64 Y1.x.pos,.int .i64 Y1.x.val,.slice av Y1.out.length cv,.int .i64 Y1.x.steps,.int .i64 Y1.x.read,.int .i64 Y1.x.gcs,.int .i64 Y1.x.used] 30 (0,0))
    obtain ⟨qb,hqb⟩ : ∃ qb,wi.heap.size = qb := ⟨_,rfl⟩
    rw [hqb] at hb5
    generalize (wi.alloc (.cells #[.int .i64 Y1.x.err,.int .i64 Y1.x.pos,.int .i64 Y1.x.val,.slice av Y1.out.length cv,.int .i64 Y1.x.steps,.int .i64 Y1.x.read,.int .i64 Y1.x.gcs,.int .i64 Y1.x.used] 30 (0,0))).drew = W5 at hB5 hb5 ⊢
    rw [hqb]
    have y0 := ja hb5 0 rfl
    have y1 := ja hb5 1 rfl
    have y2 := ja hb5 2 rfl
    have y3 := ja hb5 3 rfl
    have y4 := ja hb5 4 rfl
    have y5 := ja hb5 5 rfl
    have y6 := ja hb5 6 rfl
    have y7 := ja hb5 7 rfl
    simp only [List.getElem_toArray,List.getElem_cons_zero,List.getElem_cons_succ] at y0 y1 y2 y3 y4 y5 y6 y7
    have hbx5 := jc HBX.out hB5 hwi
    have HBX5 := jH hbx5
    have HB5 := jH hB5
    have hq5 := jb hb5
    have hw5 := jb hbx5
    clear hbx5 hB5 hb5 e8 e9 e10 e11 e12 e13 e14 e15 e16 e17
    go_wp2_with (first
     | (show wpList _ _ _ (Oper.mk none (Op.store 30 (.tmp 4) (.tmp 84)) _ _ _ _ :: _) _ _;refine Jv HBX5.out rfl 30 (.tmp 4) (.tmp 84) rfl #[.int .i64 Y1.x.err,.int .i64 Y1.x.pos,.int .i64 Y1.x.val,.slice av Y1.out.length cv,.int .i64 Y1.x.steps,.int .i64 Y1.x.read,.int .i64 Y1.x.gcs,.int .i64 Y1.x.used] rfl rfl rfl Tryz.kiRs (by simp only [List.all_toArray];rfl) ?_;intro w6 hb6 hl6))
    have hF6 := Fr.new (Fr0.trans HFR.out (Fr.of HB5.out)) jN hl6
    have hT6 := ((HY1.out.on HB5.out).other hk1 hl6).rows.out
    rw [HEV.out] at hT6
    exact jcy rfl hb6 ⟨jl Y1,dsD Y1,Y1.x.used,κ1,.slice av Y1.out.length cv,HNX.out,(HDR.out.on HB5.out).other hk1 hl6,hF6,rfl,hT6,hol⟩
def mz : Array Value := #[.pointer none,.int .i64 0,.int .i64 0,.slice none 0 0,.slice none 0 0,.slice none 0 0,.slice none 0 0,.int .i64 0,.int .i64 0,.int .i64 0,.int .i64 0,.int .i64 0,.int .i64 0,.slice none 0 0,.int .i64 0,.int .i64 0,.int .i64 0,.int .i64 0]
theorem jij (w : World) : Calls Tryz.prog 8 #[] w fun e w' => e = .returned (.pointer (some ⟨w.heap.size,0,none⟩)) /\ w' = w.alloc (.cells mz 55 (0,0)) := by
 unfold mz
 go_enter Tryz.func8,Tryz.ntmps8
 go_wp2
 go_ret
 exact ⟨rfl,rfl⟩
set_option maxRecDepth 100000 in
theorem jkr {b n ci : Nat} {a : Option Addr} {words depth : Int} (hl : ¬ (0 <= words /\ words <= 4096 /\ 1 <= depth /\ depth <= 64 /\ n <= 16)) (hn : n <= 1073741824) :
 Calls Tryz.prog 17 #[.pointer (some ⟨b,0,none⟩),.string s,.int .i64 words,.int .i64 depth,.slice a n ci] w fun e w' => e = .returned (.tuple #[.int .i64 ((stR s words depth n).1 : Nat),.int .i64 ((stR s words depth n).2 : Nat)]) /\ w' = w := by
 by_cases h1 : words < 0
 ·have e : stR s words depth n = (21,0) := by unfold stR;rw [if_pos (.inl h1)]
  rw [e]
  have g1 : decide (words < (0 : Int)) = true := by simpa using h1
  clear hl h1 e
  go_enter Tryz.func17,Tryz.ntmps17
  go_wp2
  go_ret2
  exact ⟨rfl,rfl⟩
 ·have g1 : decide (words < (0 : Int)) = false := by simpa using h1
  by_cases h2 : 4096 < words
  ·have e : stR s words depth n = (21,0) := by unfold stR;rw [if_pos (.inr h2)]
   rw [e]
   have g2 : decide ((4096 : Int) < words) = true := by simpa using h2
   clear hl h1 h2 e
   go_enter Tryz.func17,Tryz.ntmps17
   go_wp2
   go_ret2
   exact ⟨rfl,rfl⟩
  ·have g2 : decide ((4096 : Int) < words) = false := by simpa using h2
   by_cases h3 : depth < 1
   ·have e : stR s words depth n = (22,0) := by unfold stR;rw [if_neg (by omega),if_pos (.inl h3)]
    rw [e]
    have g3 : decide (depth < (1 : Int)) = true := by simpa using h3
    clear hl h1 h2 h3 e
    go_enter Tryz.func17,Tryz.ntmps17
    go_wp2
    go_ret2
    exact ⟨rfl,rfl⟩
   ·have g3 : decide (depth < (1 : Int)) = false := by simp;omega
    by_cases h4 : 64 < depth
    ·have e : stR s words depth n = (22,0) := by unfold stR;rw [if_neg (by omega),if_pos (.inr h4)]
     rw [e]
     have g4 : decide ((64 : Int) < depth) = true := by simpa using h4
     clear hl h1 h2 h3 h4 e
     go_enter Tryz.func17,Tryz.ntmps17
     go_wp2
     go_ret2
     exact ⟨rfl,rfl⟩
    ·have g4 : decide ((64 : Int) < depth) = false := by simpa using h4
     have h5 : 16 < n := by omega
     have e : stR s words depth n = (23,0) := by unfold stR;rw [if_neg (by omega),if_neg (by omega),if_pos h5]
     rw [e]
     have g5 : decide ((16 : Int) < (n : Int)) = true := by simp;omega
     clear hl h1 h2 h3 h4 h5 e
     go_enter Tryz.func17,Tryz.ntmps17
     go_wp2
     go_ret2
     exact ⟨rfl,rfl⟩
set_option maxRecDepth 100000 in
theorem jks {b n ci : Nat} {a : Option Addr} {words depth er at' : Nat} (hs : s.size <= 1073741824) (hf : Fit words depth n) (hR : ckR s = (er,at')) (hne : er ≠ 0) :
 Calls Tryz.prog 17 #[.pointer (some ⟨b,0,none⟩),.string s,.int .i64 words,.int .i64 depth,.slice a n ci] w fun e w' => e = .returned (.tuple #[.int .i64 er,.int .i64 at']) /\ Below w.heap.size w w' := by
 have f1 := hf.w0
 have f2 := hf.d0
 have f3 := hf.n0
 have g1 : decide ((words : Int) < (0 : Int)) = false := by simp
 have g2 : decide ((4096 : Int) < (words : Int)) = false := by simp;omega
 have g3 : decide ((depth : Int) < (1 : Int)) = false := by simp;omega
 have g4 : decide ((64 : Int) < (depth : Int)) = false := by simp;omega
 have g5 : decide ((16 : Int) < (n : Int)) = false := by simp;omega
 have g6 : ((er : Int) != 0) = true := by simp;omega
 have HD := jfq hs w
 rw [hR] at HD
 have HD := jH HD
 clear hf f1 f2 f3 hne hR
 go_enter Tryz.func17,Tryz.ntmps17
 go_wp2_with (go_at_call 23;refine HD.out.mono ?_;rintro _ w1 ⟨rfl,hb1⟩)
 go_ret2
 exact ⟨rfl,hb1⟩
def dx0 (q half depth : Nat) (vin vrg : Value) (err : Nat) : DX := ⟨q,half,depth,vin,.slice none 0 0,.slice none 0 0,vrg,0,0,0,err,0,0,.slice none 0 0,0,0,0⟩
theorem mb3 {m q words depth : Nat} (h : w.heap[m]? = some (.cells mz 55 (0,0))) :
 MB ((((w.setCell ⟨m,0,none⟩ (.pointer (some ⟨q,0,none⟩))).setCell ⟨m,1,none⟩ (.int .i64 ((words : Int) / 2))).setCell ⟨m,2,none⟩ (.int .i64 depth)).setCell ⟨m,3,none⟩ (.slice none 0 0)) m (dx0 q (words / 2) depth (.slice none 0 0) (.slice none 0 0) 0) := by
 have h1 := jf (jf (jf (jf h 0 (.pointer (some ⟨q,0,none⟩))) 1 (.int .i64 ((words / 2 : Nat) : Int))) 2 (.int .i64 depth)) 3 (.slice none 0 0)
 rw [show ((words / 2 : Nat) : Int) = (words : Int) / 2 by omega] at h1
 unfold MB
 rw [h1]
 unfold dx0
 rw [show (words : Int) / 2 = ((words / 2 : Nat) : Int) by omega]
 rfl
theorem jiE (w : World) : (Instr.makeSlice 53 (.int .i64 8) (.int .i64 8)).run Tryz.prog w = .ok (.slice (some ⟨w.heap.size,0,none⟩) 8 8) (w.alloc (.cells (mdV 8) 89)) := jeM 8 (by omega) w
theorem mb5 {m q half depth : Nat} {vin vrg : Value} (h : MB w m (dx0 q half depth (.slice none 0 0) (.slice none 0 0) 0)) : MB ((((((((((((((w.setCell ⟨m,3,none⟩ vin).setCell ⟨m,4,none⟩ (.slice none 0 0)).setCell ⟨m,5,none⟩ (.slice none 0 0)).setCell ⟨m,6,none⟩ vrg).setCell ⟨m,8,none⟩ (.int .i64 0)).setCell ⟨m,9,none⟩ (.int .i64 0)).setCell ⟨m,10,none⟩ (.int .i64 42)).setCell ⟨m,11,none⟩ (.int .i64 0)).setCell ⟨m,12,none⟩ (.int .i64 0)).setCell ⟨m,13,none⟩ (.slice none 0 0)).setCell ⟨m,14,none⟩ (.int .i64 0)).setCell ⟨m,15,none⟩ (.int .i64 0)).setCell ⟨m,16,none⟩ (.int .i64 0)).setCell ⟨m,17,none⟩ (.int .i64 0)) m (dx0 q half depth vin vrg 42) /\ Lone m w ((((((((((((((w.setCell ⟨m,3,none⟩ vin).setCell ⟨m,4,none⟩ (.slice none 0 0)).setCell ⟨m,5,none⟩ (.slice none 0 0)).setCell ⟨m,6,none⟩ vrg).setCell ⟨m,8,none⟩ (.int .i64 0)).setCell ⟨m,9,none⟩ (.int .i64 0)).setCell ⟨m,10,none⟩ (.int .i64 42)).setCell ⟨m,11,none⟩ (.int .i64 0)).setCell ⟨m,12,none⟩ (.int .i64 0)).setCell ⟨m,13,none⟩ (.slice none 0 0)).setCell ⟨m,14,none⟩ (.int .i64 0)).setCell ⟨m,15,none⟩ (.int .i64 0)).setCell ⟨m,16,none⟩ (.int .i64 0)).setCell ⟨m,17,none⟩ (.int .i64 0)) := by
 refine ⟨?_,(((((((((((((((Lone.refl m w).set _ _).set _ _).set _ _).set _ _).set _ _).set _ _).set _ _).set _ _).set _ _).set _ _).set _ _).set _ _).set _ _).set _ _)⟩
 have h3 : MB _ m (dx0 q half depth vin (.slice none 0 0) 0) := jf h 3 vin
 have h4 : MB _ m (dx0 q half depth vin (.slice none 0 0) 0) := jf h3 4 (.slice none 0 0)
 have h5 : MB _ m (dx0 q half depth vin (.slice none 0 0) 0) := jf h4 5 (.slice none 0 0)
 have h6 : MB _ m (dx0 q half depth vin vrg 0) := jf h5 6 vrg
 have h8 : MB _ m (dx0 q half depth vin vrg 0) := jf h6 8 (.int .i64 0)
 have h9 : MB _ m (dx0 q half depth vin vrg 0) := jf h8 9 (.int .i64 0)
 have h10 : MB _ m (dx0 q half depth vin vrg 42) := jf h9 10 (.int .i64 42)
 have h11 : MB _ m (dx0 q half depth vin vrg 42) := jf h10 11 (.int .i64 0)
 have h12 : MB _ m (dx0 q half depth vin vrg 42) := jf h11 12 (.int .i64 0)
 have h13 : MB _ m (dx0 q half depth vin vrg 42) := jf h12 13 (.slice none 0 0)
 have h14 : MB _ m (dx0 q half depth vin vrg 42) := jf h13 14 (.int .i64 0)
 have h15 : MB _ m (dx0 q half depth vin vrg 42) := jf h14 15 (.int .i64 0)
 have h16 : MB _ m (dx0 q half depth vin vrg 42) := jf h15 16 (.int .i64 0)
 have h17 : MB _ m (dx0 q half depth vin vrg 42) := jf h16 17 (.int .i64 0)
 exact h17
def jag (m q g : Nat) (vi vF vN vL : Value) : Kp := fun b => if b = m then some (10,0) else if vi.ownBlock = some b then some (18,0) else if b = g then some (17,0) else if b = q \/ vF.ownBlock = some b \/ vN.ownBlock = some b \/ vL.ownBlock = some b then some (20,0) else none
structure D6 (s : ByteArray) (w : World) (m q g B0 B2 : Nat) (vin vF vN vL : Value) (ins : List Int) : Prop where
 rd : J1 s w q vF vN vL
 ii : w.ownsRow B2 3 1 vin ins.length (iV ins)
 rg : w.ownsRow 0 89 2 (.slice (some ⟨g,0,none⟩) 8 8) 8 (jv (List.replicate 8 z0))
 mq : m < B0
 bq : B0 <= q
 qb : q < B2
 fb : ∀ b,vF.ownBlock = some b \/ vN.ownBlock = some b \/ vL.ownBlock = some b -> b < B2
 ig : ∀ b,vin.ownBlock = some b -> b < g
 bg : B2 <= g
 gs : g < w.heap.size
theorem dm0 {m q g B0 B2 half depth : Nat} {vin vF vN vL : Value} {ins : List Int} (hM : MB w m (dx0 q half depth vin (.slice (some ⟨g,0,none⟩) 8 8) 42)) (h : D6 s w m q g B0 B2 vin vF vN vL ins) :
 DM s w m (jag m q g vin vF vN vL) ⟨dx0 q half depth vin (.slice (some ⟨g,0,none⟩) 8 8) 42,[],[],List.replicate 8 z0,[],ins,vF,vN,vL⟩ := by
 have a1 := h.mq
 have a2 := h.bq
 have a3 := h.qb
 have a4 := h.bg
 have tF : ∀ b,(b = q \/ vF.ownBlock = some b \/ vN.ownBlock = some b \/ vL.ownBlock = some b) -> jag m q g vin vF vN vL b = some (20,0) := fun b hb => by
  have hlt : b < B2 /\ q <= b := by
   rcases hb with e | e | e | e
   ·omega
   ·exact ⟨h.fb b (.inl e),by have := (h.rd.funs.lt b e).1;omega⟩
   ·exact ⟨h.fb b (.inr (.inl e)),by have := (h.rd.nums.lt b e).1;omega⟩
   ·exact ⟨h.fb b (.inr (.inr e)),by have := (h.rd.lines.lt b e).1;omega⟩
  unfold jag
  rw [if_neg (by omega),if_neg (fun e => by have := (h.ii.lt b e).1;omega),if_neg (by omega),if_pos hb]
 have tI : ∀ b,vin.ownBlock = some b -> jag m q g vin vF vN vL b = some (18,0) := fun b hb => by
  have := (h.ii.lt b hb).1
  unfold jag
  rw [if_neg (by omega),if_pos hb]
 have tG : jag m q g vin vF vN vL g = some (17,0) := by
  unfold jag
  rw [if_neg (by omega),if_neg (fun e => by have := h.ig g e;omega),if_pos rfl]
 refine ⟨hM,by unfold jag;rw [if_pos rfl],⟨?_,TR.nil _ _ _ _ _,fun i f hf => by simp at hf,fun i f hf => by simp at hf,TR.nil _ _ _ _ _,fun i f hf => by simp at hf,fun i f hf => by simp at hf,TR.nil _ _ _ _ _,⟨Js h.ii (Nat.zero_le _),fun b hb => tI b hb⟩,⟨h.rd.blk,tF q (.inl rfl)⟩,⟨Js h.rd.funs (Nat.zero_le _),fun b hb => tF b (.inr (.inl hb))⟩,⟨Js h.rd.nums (Nat.zero_le _),fun b hb => tF b (.inr (.inr (.inl hb)))⟩,⟨Js h.rd.lines (Nat.zero_le _),fun b hb => tF b (.inr (.inr (.inr hb)))⟩⟩,fun b hb => ?_⟩
 ·refine ⟨h.rg,fun b hb => ?_⟩
  have : b = g := by cases hb;rfl
  rw [this];exact tG
 ·have hm := jb hM
  have hq := jb h.rd.blk
  have hg := h.gs
  unfold jag
  rw [if_neg (by omega),if_neg (fun e => by have := (h.ii.lt b e).2;omega),if_neg (by omega),if_neg]
  rintro (e | e | e | e)
  ·omega
  ·have := (h.rd.funs.lt b e).2;omega
  ·have := (h.rd.nums.lt b e).2;omega
  ·have := (h.rd.lines.lt b e).2;omega
theorem je4 {m q g B0 B2 : Nat} {vin vF vN vL : Value} {ins : List Int} (h : D6 s w m q g B0 B2 vin vF vN vL ins) {b : Nat} (hb : b < B0) (hne : b ≠ m) : jag m q g vin vF vN vL b = none := by
 have a2 := h.bq
 have a3 := h.qb
 have a4 := h.bg
 unfold jag
 rw [if_neg hne,if_neg (fun e => by have := (h.ii.lt b e).1;omega),if_neg (by omega),if_neg]
 rintro (e | e | e | e)
 ·omega
 ·have := (h.rd.funs.lt b e).1;omega
 ·have := (h.rd.nums.lt b e).1;omega
 ·have := (h.rd.lines.lt b e).1;omega
def DsP (s : ByteArray) (half depth : Nat) (ins : List Int) (w : World) (m : Nat) (e : Ending) (w' : World) : Prop :=
 e = .returned (.tuple #[.int .i64 0,.int .i64 0]) /\ ∃ κ Y,DM s w' m κ Y /\ D0 s half depth ins Y /\ (∀ k,k < w.heap.size -> k ≠ m -> κ k = none) /\ Lone m w w'
set_option maxRecDepth 100000 in
theorem jkq {m gi ci : Nat} {ins : List Int} {words depth : Nat} (hs : s.size <= 1073741824) (hck : ckR s = (0,0)) (hf : Fit words depth ins.length) (hb : w.heap[m]? = some (.cells mz 55 (0,0))) (hcell : ∀ j u,(iV ins)[j]? = some u -> w.cell? ⟨gi,j,none⟩ = some u) (hgi : gi < w.heap.size) (hgm : gi ≠ m) (hci : ins.length <= ci) :
 Calls Tryz.prog 17 #[.pointer (some ⟨m,0,none⟩),.string s,.int .i64 words,.int .i64 depth,.slice (some ⟨gi,0,none⟩) ins.length ci] w (DsP s (words / 2) depth ins w m) := by
 have f1 := hf.w0
 have f2 := hf.d0
 have f3 := hf.n0
 have g1 : decide ((words : Int) < (0 : Int)) = false := by simp
 have g2 : decide ((4096 : Int) < (words : Int)) = false := by simp;omega
 have g3 : decide ((depth : Int) < (1 : Int)) = false := by simp;omega
 have g4 : decide ((64 : Int) < (depth : Int)) = false := by simp;omega
 have g5 : decide ((16 : Int) < (ins.length : Int)) = false := by simp;omega
 have HCK := jH (jdA hck)
 have HD := jfq hs w
 rw [hck] at HD
 have HD := jH HD
 have HRD : Hid (∀ W : World,Calls Tryz.prog 24 #[.string s] W fun e w' => ∃ p vF vN vL,e = .returned (.tuple #[.pointer (some ⟨p,0,none⟩),.int .i64 0,.int .i64 0]) /\ W.heap.size <= p /\ J1 s w' p vF vN vL /\ Below W.heap.size W w') := fun W => jem HCK.out.res
 have HB := jH hb
 have HCE := jH hcell
 have hbl := jb hb
 obtain ⟨i0,hi0,hz0,hz1,hz2⟩ := info_parts Tryz.kiI
 have hmk := jiE
 clear hf hck hb hcell
 go_enter Tryz.func17,Tryz.ntmps17
 go_upto_region 15 with (first
  | (go_at_call 23;refine HD.out.mono ?_;rintro _ w1 ⟨rfl,hb1⟩)
  | (go_at_call 24;refine (HRD.out _).mono ?_;rintro _ w2 ⟨q,vF,vN,vL,rfl,hq,hrd,hb2⟩;have hB2 := hb1.trans (hb2.mono hb1.size);have hm2 := jc HB.out hB2 hbl;have k0 := ja hm2 0 rfl;have k1 := ja hm2 1 rfl;have k2 := ja hm2 2 rfl;have k3 := ja hm2 3 rfl;simp only [mz,List.getElem_toArray,List.getElem_cons_zero,List.getElem_cons_succ] at k0 k1 k2 k3;have z0' := je hm2 0;have z1' := je hm2 1;have z2' := je hm2 2;have z3' := je hm2 3;have hl2 := jb hm2;have HM2 := jH hm2;have HRA := jH hrd;have HB2 := jH hB2;have hq' : w.heap.size <= q := Nat.le_trans hb1.size hq;clear hm2 hrd hB2 hb1 hb2 hq))
 have hM3 := mb3 (q := q) (words := words) (depth := depth) HM2.out
 have hL3 : Lone m w2 ((((w2.setCell ⟨m,0,none⟩ (.pointer (some ⟨q,0,none⟩))).setCell ⟨m,1,none⟩ (.int .i64 ((words : Int) / 2))).setCell ⟨m,2,none⟩ (.int .i64 depth)).setCell ⟨m,3,none⟩ (.slice none 0 0)) := ((((Lone.refl _ _).set _ _).set _ _).set _ _).set _ _
 clear k0 k1 k2 k3 z0' z1' z2' z3'
 generalize ((((w2.setCell ⟨m,0,none⟩ (.pointer (some ⟨q,0,none⟩))).setCell ⟨m,1,none⟩ (.int .i64 ((words : Int) / 2))).setCell ⟨m,2,none⟩ (.int .i64 depth)).setCell ⟨m,3,none⟩ (.slice none 0 0)) = W3 at hM3 hL3 ⊢
 have k3 : W3.cell? ⟨m,3,none⟩ = some (.slice none 0 0) := ja hM3 3 rfl
 have hm3 := jb hM3
 have HM3 := jH hM3
 have HL3 := jH hL3
 have HCE3 : Hid (∀ j u,(iV ins)[j]? = some u -> W3.cell? ((⟨gi,0,none⟩ : Addr).add j) = some u) := fun j u hj => by
  rw [add0]
  have h1 := jbh (HCE.out j u hj) hgi HB2.out
  have h2 := hL3.rest gi (Nat.lt_of_lt_of_le hgi HB2.out.size) hgm
  unfold World.cell? at h1 ⊢
  rw [h2]
  exact h1
 clear hM3 hL3
 go_upto_region 22 with (first
  | (at_builtin;go_loud (refine JO _ rfl (.tmp 67) (.tmp 68) 22 rfl W3.heap.size 3 i0 _ 1 8 Tryz.kuI hi0 hz0 hz1 hz2 rfl (by decide) (.slice none 0 0) 0 [] rfl (World.ownsRow_nil _ _ _ _) ⟨gi,0,none⟩ ins.length ci (iV ins) rfl (by rw [jah,Nat.mul_one]) HCE3.out (jcm _) ?_ ?_ ?_ ?_;(unfold maxLen;omega);(omega);(exact jN);intro v' w4 hown4 hg4 hrow4;simp only [Nat.zero_add,List.nil_append] at hown4;obtain ⟨a9,p9,e9,hc9⟩ := jbC hown4;subst e9;have hB4 : Below W3.heap.size W3 w4 := ⟨hg4.os,hg4.tape,hg4.output,hg4.size,fun k hk => hg4.block k hk (by intro e;cases e)⟩;have hm4 := jc HM3.out hB4 hm3;have k3' : w4.cell? ⟨m,3,none⟩ = some (.slice none 0 0) := ja hm4 3 rfl;have k4 : w4.cell? ⟨m,4,none⟩ = some (.slice none 0 0) := ja hm4 4 rfl;have k5 : w4.cell? ⟨m,5,none⟩ = some (.slice none 0 0) := ja hm4 5 rfl;have k6 : w4.cell? ⟨m,6,none⟩ = some (.slice none 0 0) := ja hm4 6 rfl;have k8 : w4.cell? ⟨m,8,none⟩ = some (.int .i64 0) := ja hm4 8 rfl;have k9 : w4.cell? ⟨m,9,none⟩ = some (.int .i64 0) := ja hm4 9 rfl;have k10 : w4.cell? ⟨m,10,none⟩ = some (.int .i64 0) := ja hm4 10 rfl;have k11 : w4.cell? ⟨m,11,none⟩ = some (.int .i64 0) := ja hm4 11 rfl;have k12 : w4.cell? ⟨m,12,none⟩ = some (.int .i64 0) := ja hm4 12 rfl;have k13 : w4.cell? ⟨m,13,none⟩ = some (.slice none 0 0) := ja hm4 13 rfl;have k14 : w4.cell? ⟨m,14,none⟩ = some (.int .i64 0) := ja hm4 14 rfl;have k15 : w4.cell? ⟨m,15,none⟩ = some (.int .i64 0) := ja hm4 15 rfl;have k16 : w4.cell? ⟨m,16,none⟩ = some (.int .i64 0) := ja hm4 16 rfl;have k17 : w4.cell? ⟨m,17,none⟩ = some (.int .i64 0) := ja hm4 17 rfl;have zz : ∀ i,w4.frozen? ⟨m,i,none⟩ = false := je hm4;have hl4 := jb hm4;have HM4 := jH hm4;have HB4 := jH hB4;have HO4 := jH hown4;clear hm4 hB4 hown4 hg4 hrow4)))
 obtain ⟨hM5,hL5⟩ := mb5 (vin := .slice a9 ins.length p9) (vrg := .slice (some ⟨w4.heap.size,0,none⟩) 8 8) HM4.out
 have hrg := jeD ((((((((((((((w4.setCell ⟨m,3,none⟩ (.slice a9 ins.length p9)).setCell ⟨m,4,none⟩ (.slice none 0 0)).setCell ⟨m,5,none⟩ (.slice none 0 0)).setCell ⟨m,6,none⟩ (.slice (some ⟨w4.heap.size,0,none⟩) 8 8)).setCell ⟨m,8,none⟩ (.int .i64 0)).setCell ⟨m,9,none⟩ (.int .i64 0)).setCell ⟨m,10,none⟩ (.int .i64 42)).setCell ⟨m,11,none⟩ (.int .i64 0)).setCell ⟨m,12,none⟩ (.int .i64 0)).setCell ⟨m,13,none⟩ (.slice none 0 0)).setCell ⟨m,14,none⟩ (.int .i64 0)).setCell ⟨m,15,none⟩ (.int .i64 0)).setCell ⟨m,16,none⟩ (.int .i64 0)).setCell ⟨m,17,none⟩ (.int .i64 0)) 8 (by omega)
 clear k3 k3' k4 k5 k6 k8 k9 k10 k11 k12 k13 k14 k15 k16 k17 zz
 have hz5 : ((((((((((((((w4.setCell ⟨m,3,none⟩ (.slice a9 ins.length p9)).setCell ⟨m,4,none⟩ (.slice none 0 0)).setCell ⟨m,5,none⟩ (.slice none 0 0)).setCell ⟨m,6,none⟩ (.slice (some ⟨w4.heap.size,0,none⟩) 8 8)).setCell ⟨m,8,none⟩ (.int .i64 0)).setCell ⟨m,9,none⟩ (.int .i64 0)).setCell ⟨m,10,none⟩ (.int .i64 42)).setCell ⟨m,11,none⟩ (.int .i64 0)).setCell ⟨m,12,none⟩ (.int .i64 0)).setCell ⟨m,13,none⟩ (.slice none 0 0)).setCell ⟨m,14,none⟩ (.int .i64 0)).setCell ⟨m,15,none⟩ (.int .i64 0)).setCell ⟨m,16,none⟩ (.int .i64 0)).setCell ⟨m,17,none⟩ (.int .i64 0)).heap.size = w4.heap.size := by simp only [jy]
 generalize ((((((((((((((w4.setCell ⟨m,3,none⟩ (.slice a9 ins.length p9)).setCell ⟨m,4,none⟩ (.slice none 0 0)).setCell ⟨m,5,none⟩ (.slice none 0 0)).setCell ⟨m,6,none⟩ (.slice (some ⟨w4.heap.size,0,none⟩) 8 8)).setCell ⟨m,8,none⟩ (.int .i64 0)).setCell ⟨m,9,none⟩ (.int .i64 0)).setCell ⟨m,10,none⟩ (.int .i64 42)).setCell ⟨m,11,none⟩ (.int .i64 0)).setCell ⟨m,12,none⟩ (.int .i64 0)).setCell ⟨m,13,none⟩ (.slice none 0 0)).setCell ⟨m,14,none⟩ (.int .i64 0)).setCell ⟨m,15,none⟩ (.int .i64 0)).setCell ⟨m,16,none⟩ (.int .i64 0)).setCell ⟨m,17,none⟩ (.int .i64 0)) = W5 at hM5 hL5 hrg hz5 ⊢
 have hA := jr W5 (.cells (mdV 8) 89 (0,0))
 have hrest : ∀ b,b < w2.heap.size -> b ≠ m -> (W5.alloc (.cells (mdV 8) 89 (0,0))).heap[b]? = w2.heap[b]? := fun b hb hne => by
  have h3 := HL3.out.rest b hb hne
  have h3s := HL3.out.size
  have h4 := HB4.out.block b (by omega)
  have h4s := HB4.out.size
  have h5 := hL5.rest b (by omega) hne
  have h5s := hL5.size
  exact ((hA.block b (by omega)).trans h5).trans (h4.trans h3)
 have hs2 := HB2.out.size
 have hs3 := HL3.out.size
 have hs4 := HB4.out.size
 have hq2 := jb HRA.out.blk
 have hD6 : D6 s (W5.alloc (.cells (mdV 8) 89 (0,0))) m q w4.heap.size w.heap.size W3.heap.size (.slice a9 ins.length p9) vF vN vL ins := by
  refine ⟨⟨(hrest q hq2 (by omega)).trans HRA.out.blk,j3 HRA.out.funs fun b e => hrest b (HRA.out.funs.lt b e).2 (by have := (HRA.out.funs.lt b e).1;omega),j3 HRA.out.nums fun b e => hrest b (HRA.out.nums.lt b e).2 (by have := (HRA.out.nums.lt b e).1;omega),j3 HRA.out.lines fun b e => hrest b (HRA.out.lines.lt b e).2 (by have := (HRA.out.lines.lt b e).1;omega)⟩,j3 HO4.out fun b e => (hA.block b (by have := (HO4.out.lt b e).2;omega)).trans (hL5.rest b (HO4.out.lt b e).2 (by have := (HO4.out.lt b e).1;omega)),?_,hbl,hq',by omega,?_,fun b e => (HO4.out.lt b e).2,hs4,by simp;omega⟩
  ·rw [hz5] at hrg;exact hrg
  ·rintro b (e | e | e)
   ·have := (HRA.out.funs.lt b e).2;omega
   ·have := (HRA.out.nums.lt b e).2;omega
   ·have := (HRA.out.lines.lt b e).2;omega
 have hDM := dm0 (jc hM5 hA (jb hM5)) hD6
 have HE := jH (jdu hDM (k := 0) HCK.out.fun0 (by have := (j7 HCK.out.row HCK.out.fun0).2.2.1;omega) (by simp) 0)
 have HD6 := jH hD6
 have HL5 := jH hL5
 have HR5 := jH hrest
 have hm6 : m < (W5.alloc (.cells (mdV 8) 89 (0,0))).heap.size := hDM.lt
 clear hM5 hL5 hrg hA hD6 hDM hrest
 go_wp2_with (go_at_call 25;refine HE.out.mono ?_;rintro _ w6 ⟨rfl,κ6,Y6,⟨vf,b,v,hY6⟩,h6,f6⟩)
 go_ret2
 have hold : ∀ k,k < w.heap.size -> k ≠ m -> w6.heap[k]? = w.heap[k]? := fun k hk hne => by
  have h1 := f6.rest k (by simp;omega) (fun t ht => by rw [je4 HD6.out hk hne] at ht;cases ht)
  exact (h1.trans (HR5.out k (by omega) hne)).trans (HB2.out.block k hk)
 refine ⟨rfl,κ6,Y6,h6,?_,fun k hk hne => ?_,⟨?_,?_,hold⟩⟩
 ·subst hY6
  exact ⟨rfl,rfl,rfl,rfl,rfl,⟨b,v,rfl⟩,rfl,rfl,rfl,rfl,rfl,rfl,rfl,rfl,rfl,rfl⟩
 ·exact (f6.old k (by simp;omega)).trans (je4 HD6.out hk hne)
 ·have e1 := HB2.out
  have e3 := HL3.out.below
  have e4 := HB4.out
  have e5 := HL5.out.below
  exact ⟨(f6.low.os.trans e5.os).trans (e4.os.trans (e3.os.trans e1.os)),(f6.low.tape.trans e5.tape).trans (e4.tape.trans (e3.tape.trans e1.tape)),(f6.low.output.trans e5.output).trans (e4.output.trans (e3.output.trans e1.output)),by have := f6.low.size;simp at this;omega,fun k hk => hold k (by omega) (by omega)⟩
 ·have := f6.low.size
  simp at this
  omega
def IR (w : World) (v : Value) (l : List Int) : Prop := ∃ a c,v = .slice a l.length c /\ l.length <= c /\ (a = none -> l = []) /\ ∀ ad,a = some ad -> ∀ j u,(iV l)[j]? = some u -> w.cell? (ad.add j) = some u
theorem jiJ (n : Nat) (hn : n <= 1073741824) (w : World) : (Instr.makeSlice 22 (.int .i64 (n : Int)) (.int .i64 (n : Int))).run Tryz.prog w = .ok (.slice (some ⟨w.heap.size,0,none⟩) n n) (w.alloc (.cells (List.replicate n (Value.int .i64 0)).toArray 3)) := by
 obtain ⟨i,hi,hz,hs,hb⟩ := info_parts Tryz.kiI
 have hr := run_make (P := Tryz.prog) w 22 3 i _ Tryz.kuI hi hz .i64 .i64 n n (by omega) (by omega) (by rw [hb];omega) (by omega)
 rw [hs] at hr
 simp only [Int.toNat_natCast,Nat.mul_one] at hr
 have e : madeCells (Value.int .i64 0).cells n = (List.replicate n (Value.int .i64 0)).toArray := by
  apply Array.toList_inj.1
  rw [show (Value.int IntKind.i64 0).cells = #[.int .i64 0] from rfl,toList_madeCells_one]
 rw [e] at hr
 exact hr
set_option maxRecDepth 100000 in
theorem jcA {v : Value} {l : List Int} (h : IR w v l) (hl : l.length <= 1073741824) :
 Calls Tryz.prog 9 #[v] w fun e w' => e = .returned (.slice (some ⟨w.heap.size,0,none⟩) l.length l.length) /\ w'.heap[w.heap.size]? = some (.cells (iV l).toArray 3 (0,0)) /\ Below w.heap.size w w' := by
 obtain ⟨a,c,rfl,hc,hno,hce⟩ := h
 have hmk := jiJ l.length hl
 have HCE : Hid (0 < (iV l).length -> (some ⟨w.heap.size,0,none⟩ : Option Addr) = some ⟨w.heap.size,0,none⟩ /\ ∃ ad,a = some ad /\ ∀ j u,(iV l)[j]? = some u -> (w.alloc (.cells (Array.replicate l.length (Value.int .i64 0)) 3 (0,0))).cell? (ad.add j) = some u) := fun hp => by
  cases a with
  | none => rw [hno rfl] at hp;simp [iV] at hp
  | some ad =>
    refine ⟨rfl,ad,rfl,fun j u hj => ?_⟩
    have h1 := hce ad rfl j u hj
    have hb : (ad.add j).block < w.heap.size := by
     rcases Nat.lt_or_ge (ad.add j).block w.heap.size with h2 | h2
     ·exact h2
     ·unfold World.cell? at h1
      rw [Array.getElem?_eq_none (by omega)] at h1
      cases h1
    exact ((jr w (.cells (Array.replicate l.length (Value.int .i64 0)) 3 (0,0))).cell hb).trans h1
 have HN : Hid ((w.alloc (.cells (Array.replicate l.length (Value.int .i64 0)) 3 (0,0))).heap[w.heap.size]? = some (.cells (List.replicate l.length (Value.int .i64 0)).toArray 3 (0,0))) := by
  rw [List.toArray_replicate]
  exact jg w _
 clear hno hce
 go_enter Tryz.func9,Tryz.ntmps9
 go_wp2_with (first
  | (show wpList _ _ _ (Oper.mk (some 9) (Op.call { callee := .builtin .copy,args := #[.tmp 7,.tmp 8],argTypes := #[22,22] }) _ _ _ _ :: _) _ _;go_loud (refine wpList_copy_splice rfl (.tmp 7) (.tmp 8) 22 22 rfl 3 Tryz.kuI Tryz.kiIs (some ⟨w.heap.size,0,none⟩) a l.length l.length l.length c rfl rfl w.heap.size 0 (List.replicate l.length (Value.int .i64 0)) 3 HN.out (iV l) (by rw [jah];exact (Nat.min_self _).symm) HCE.out (by rw [jah];simp) (jcm _) w.heap.size w (jr _ _) jN ?_;intro w5 hg5 hb5)))
 go_ret
 refine ⟨rfl,?_,hb5⟩
 rw [hg5.out]
 congr 2
 unfold splice
 simp [jah]
theorem jh3 {c : Int} (hc : -9223372036854775808 <= c /\ c <= 9223372036854775807) {n : Nat} (hn : 0 < n) (hnb : n <= 1073741825) (w : World) : Calls Tryz.prog 10 #[.int .i64 c,.int .i64 n] w fun e w' => ∃ k : Nat,k < n /\ e = .returned (.int .i64 k) /\ w' = w := by
 have g0 : ((n : Int) == 0) = false := by rw [beq_eq_false_iff_ne];omega
 have gn : (n : Int) ≠ 0 := by omega
 have hm : ∀ z : Int,0 <= z -> ∃ k : Nat,k < n /\ z.tmod n = (k : Nat) := fun z hz => by
  have h1 := Int.tmod_nonneg (n : Int) hz
  have h2 := Int.tmod_lt_of_pos z (show (0 : Int) < n by omega)
  exact ⟨(z.tmod n).toNat,by omega,by omega⟩
 by_cases h : c < 0
 ·have g1 : decide (c < (0 : Int)) = true := by simpa using h
  obtain ⟨k,hk,e⟩ := hm (-(c + 1)) (by omega)
  have w1 : IntKind.i64.wrap (c + 1) = c + 1 := by rw [jbn];unfold wrap64;omega
  have w2 : IntKind.i64.wrap (-(c + 1)) = -(c + 1) := by rw [jbn];unfold wrap64;omega
  go_enter Tryz.func10,Tryz.ntmps10
  go_wp2
  go_ret
  refine ⟨k,hk,?_,rfl⟩
  rfl
 ·have g1 : decide (c < (0 : Int)) = false := by simpa using h
  obtain ⟨k,hk,e⟩ := hm c (by omega)
  go_enter Tryz.func10,Tryz.ntmps10
  go_wp2
  go_ret
  refine ⟨k,hk,?_,rfl⟩
  rfl
theorem IR.on {w w' : World} {v : Value} {l : List Int} (h : IR w v l) (hs : ∀ p u,w.cell? p = some u -> w'.cell? p = some u) : IR w' v l := by
 obtain ⟨a,c,h1,h2,h3,h4⟩ := h
 exact ⟨a,c,h1,h2,h3,fun ad e j u hj => hs _ _ (h4 ad e j u hj)⟩
set_option maxRecDepth 100000 in
theorem jd7 {v v' : Value} {l : List Int} (h : IR w v l) (h' : IR w v' l) (hl : l.length <= 1073741824) :
 Calls Tryz.prog 6 #[v,v'] w fun e w' => e = .returned (.bool true) /\ w'.heap = w.heap /\ Below w.heap.size w w' := by
 obtain ⟨a,c,rfl,hc,hno,hce⟩ := h
 obtain ⟨a',c',rfl,hc',hno',hce'⟩ := h'
 have HCE := jH hce
 have HCE' := jH hce'
 have HNO := jH hno
 have HNO' := jH hno'
 clear hce hce' hno hno'
 go_enter Tryz.func6,Tryz.ntmps6
 go_wp2
 go_loopg [5] l.length (fun gh s5 (wr : World) => ∃ i : Nat,i <= l.length /\ gh = l.length - i /\ s5 = .int .i64 i /\ wr.heap = w.heap /\ Below w.heap.size w wr)
 case atStart => exact ⟨0,Nat.zero_le _,rfl,rfl,rfl,jB⟩
 case round =>
  obtain ⟨i,hi,hgi,rfl,hh,hB⟩ := hrel
  obtain ⟨wi,rfl⟩ : ∃ wi,wi = wr := ⟨_,rfl⟩
  have HH := jH hh
  have HB := jH hB
  by_cases hlt : i < l.length
  ·have g1 : decide ((i : Int) < (l.length : Int)) = true := by simp;omega
   have g2 : (i : Int) < (l.length : Int) := by omega
   cases a with
   | none => exact absurd (HNO.out rfl) (by intro e;rw [e] at hlt;simp at hlt)
   | some ad =>
     cases a' with
     | none => exact absurd (HNO'.out rfl) (by intro e;rw [e] at hlt;simp at hlt)
     | some ad' =>
       obtain ⟨z,hz⟩ : ∃ z,l[i]? = some z := ⟨_,List.getElem?_eq_getElem hlt⟩
       have hz' : (iV l)[i]? = some (.int .i64 z) := by simp [iV,hz]
       have c0 : wi.cell? (ad.add i) = some (.int .i64 z) := by
        have := HCE.out ad rfl i _ hz'
        unfold World.cell? at this ⊢
        rw [hh];exact this
       have c1 : wi.cell? (ad'.add i) = some (.int .i64 z) := by
        have := HCE'.out ad' rfl i _ hz'
        unfold World.cell? at this ⊢
        rw [hh];exact this
       clear hz hz' hh hB
       go_wp2
       go_region
       go_wp2
       go_roundg (l.length - (i + 1))
       case measure => omega
       case rel => exact ⟨i + 1,by omega,rfl,by simp,HH.out,HB.out.drew⟩
  ·have hin : i = l.length := by omega
   subst hin
   have g1 : decide ((l.length : Int) < (l.length : Int)) = false := by simp
   clear hh hB
   go_wp2
   go_ret
   exact ⟨rfl,HH.out,HB.out⟩
theorem jii (w : World) : Sem.run Tryz.prog (binOp BinOp.eql 22 (.slice none 0 0) (.slice none 0 0)) w = .ok (.bool true) w := by kernel_rfl
set_option maxRecDepth 100000 in
theorem jgd {a : Option Addr} {n : Nat} (h : 0 < n \/ a = none) (h2 : a = none -> n = 0) (hn : n <= 1073741824) : Calls Tryz.prog 15 #[.slice a n n] w fun e w' => e = .returned (.bool true) /\ w' = w := by
 by_cases h0 : 0 < n
 ·have g1 : decide ((0 : Int) < (n : Int)) = true := by simp;omega
  clear h h2
  go_enter Tryz.func15,Tryz.ntmps15
  go_wp2
  go_ret
  exact ⟨rfl,rfl⟩
 ·have e : a = none := h.resolve_left h0
  subst e
  have e2 := h2 rfl
  subst e2
  clear h h2 h0 hn
  have hne := jii
  go_enter Tryz.func15,Tryz.ntmps15
  go_wp2
  go_ret
  exact ⟨rfl,rfl⟩
set_option maxRecDepth 100000 in
theorem jgC {x0 x1 x2 x4 x5 x6 x7 : Int} {v v' : Value} {l : List Int} (h : IR w v l) (h' : IR w v' l) (hl : l.length <= 1073741824) :
 Calls Tryz.prog 14 #[.agg #[.int .i64 x0,.int .i64 x1,.int .i64 x2,v,.int .i64 x4,.int .i64 x5,.int .i64 x6,.int .i64 x7],.agg #[.int .i64 x0,.int .i64 x1,.int .i64 x2,v',.int .i64 x4,.int .i64 x5,.int .i64 x6,.int .i64 x7]] w fun e w' => e = .returned (.bool true) /\ Below w.heap.size w w' := by
 have hB := JM w (.cells #[.int .i64 x0,.int .i64 x1,.int .i64 x2,v,.int .i64 x4,.int .i64 x5,.int .i64 x6,.int .i64 x7] 30 (0,0)) (.cells #[.int .i64 x0,.int .i64 x1,.int .i64 x2,v',.int .i64 x4,.int .i64 x5,.int .i64 x6,.int .i64 x7] 30 (0,0))
 have hon : ∀ p u,w.cell? p = some u -> ((w.alloc (.cells #[.int .i64 x0,.int .i64 x1,.int .i64 x2,v,.int .i64 x4,.int .i64 x5,.int .i64 x6,.int .i64 x7] 30 (0,0))).alloc (.cells #[.int .i64 x0,.int .i64 x1,.int .i64 x2,v',.int .i64 x4,.int .i64 x5,.int .i64 x6,.int .i64 x7] 30 (0,0))).cell? p = some u := fun p u hp => by
  have hb : p.block < w.heap.size := by
   rcases Nat.lt_or_ge p.block w.heap.size with h2 | h2
   ·exact h2
   ·unfold World.cell? at hp
    rw [Array.getElem?_eq_none (by omega)] at hp
    cases hp
  exact (hB.cell hb).trans hp
 have HS := jH (jd7 (h.on hon) (h'.on hon) hl)
 have HB := jH hB
 obtain ⟨a,c,rfl,_⟩ := h
 obtain ⟨a',c',rfl,_⟩ := h'
 clear hon hB
 go_enter Tryz.func14,Tryz.ntmps14
 go_wp2_with (go_at_call 6;refine HS.out.mono ?_;rintro _ w2 ⟨rfl,hh2,hb2⟩)
 go_ret
 exact ⟨rfl,HB.out.trans (hb2.mono HB.out.size)⟩
def Sm (κ : Kp) (w w' : World) : Prop := ∀ b t,κ b = some t -> w'.heap[b]? = w.heap[b]?
theorem TR.same {w w' : World} {t : Tg} {e : TypeId} {sz n : Nat} {v : Value} {xs : List Value} (h : TR w κ t e sz v n xs) (hs : Sm κ w w') : TR w' κ t e sz v n xs := ⟨j3 h.own fun b e => hs b t (h.tag b e),h.tag⟩
theorem RM.same {w w' : World} {X : St} (h : RM s w r κ X) (hs : Sm κ w w') (hz : w.heap.size <= w'.heap.size) : RM s w' r κ X := by
 have hR := h.rows
 exact ⟨(hs r _ h.self).trans h.run,h.self,⟨hR.frs.same hs,fun i f hi => (hR.sls i f hi).same hs,hR.bks.same hs,fun i f hi => (hR.fds i f hi).same hs,hR.fre.same hs,hR.out.same hs,hR.ins.same hs,hR.cF.same hs,hR.cN.same hs,hR.cL.same hs⟩,fun k hk => h.top k (Nat.le_trans hz hk)⟩
theorem CR.same {half depth gr : Nat} {ins : List Int} {w w' : World} {m : Mc} {bs : List CB} (h : CR s half depth gr ins w r κ m bs) (hs : Sm κ w w') (hz : w.heap.size <= w'.heap.size) : CR s half depth gr ins w' r κ m bs := by
 obtain ⟨X,hI,rfl,⟨h1,h2,rfl⟩ | ⟨er,p,h1,h2,rfl⟩⟩ := h
 ·exact ⟨X,hI,rfl,.inl ⟨h1.same hs hz,h2,rfl⟩⟩
 ·obtain ⟨x,hx,e⟩ := h1.run
  exact ⟨X,hI,rfl,.inr ⟨er,p,⟨⟨x,(hs r _ h1.self).trans hx,e⟩,h1.self,h1.out.same hs,fun b hb => h1.top b (Nat.le_trans hz hb)⟩,h2,rfl⟩⟩
theorem BO.same {w w' : World} {t : Tg} {b : Nat} {o : Obj} (h : BO w κ t b o) (hs : Sm κ w w') : BO w' κ t b o := ⟨(hs b t h.tag).trans h.blk,h.tag⟩
theorem DM.same {w w' : World} (h : DM s w m κ Y) (hs : Sm κ w w') (hz : w.heap.size <= w'.heap.size) : DM s w' m κ Y := by
 have hR := h.rows
 exact ⟨(hs m _ h.self).trans h.mac,h.self,⟨hR.rgs.same hs,hR.frs.same hs,fun i f hi => (hR.fst i f hi).same hs,fun i f hi => (hR.sls i f hi).same hs,hR.bks.same hs,fun i f hi => (hR.bst i f hi).same hs,fun i f hi => (hR.vls i f hi).same hs,hR.out.same hs,hR.ins.same hs,hR.prg.same hs,hR.cF.same hs,hR.cN.same hs,hR.cL.same hs⟩,fun k hk => h.top k (Nat.le_trans hz hk)⟩
theorem DR.same {half depth gr : Nat} {ins : List Int} {w w' : World} {d : Mc} {ds : List DB} {u : Nat} (h : DR s half depth gr ins w m κ d ds u) (hs : Sm κ w w') (hz : w.heap.size <= w'.heap.size) : DR s half depth gr ins w' m κ d ds u := by
 obtain ⟨Y,h1,h2⟩ := h
 exact ⟨Y,h1.same hs hz,h2⟩
theorem DR.top {half depth gr : Nat} {ins : List Int} {d : Mc} {ds : List DB} {u : Nat} (h : DR s half depth gr ins w m κ d ds u) : ∀ b,w.heap.size <= b -> κ b = none := by
 obtain ⟨Y,h1,h2⟩ := h
 exact h1.top
theorem DR.lt {half depth gr : Nat} {ins : List Int} {d : Mc} {ds : List DB} {u : Nat} (h : DR s half depth gr ins w m κ d ds u) : ∀ b t,κ b = some t -> b < w.heap.size := fun b t hb => by
 rcases Nat.lt_or_ge b w.heap.size with h1 | h1
 ·exact h1
 ·rw [h.top b h1] at hb;cases hb
theorem CR.top {half depth gr : Nat} {ins : List Int} {m : Mc} {bs : List CB} (h : CR s half depth gr ins w r κ m bs) : ∀ b,w.heap.size <= b -> κ b = none := by
 obtain ⟨x,hx⟩ := h.rx
 exact hx.top
theorem CR.lt {half depth gr : Nat} {ins : List Int} {m : Mc} {bs : List CB} (h : CR s half depth gr ins w r κ m bs) : ∀ b t,κ b = some t -> b < w.heap.size := fun b t hb => by
 rcases Nat.lt_or_ge b w.heap.size with h1 | h1
 ·exact h1
 ·rw [h.top b h1] at hb;cases hb
structure Ou (S0 vb pb : Nat) (w w' : World) : Prop where
 low : Below 0 w w'
 rest : ∀ b,b < S0 -> b ≠ vb -> b ≠ pb -> w'.heap[b]? = w.heap[b]?
theorem Ou.of {S0 vb pb : Nat} {w w' : World} (h : Below w.heap.size w w') (hS : S0 <= w.heap.size) : Ou S0 vb pb w w' := ⟨h.mono (Nat.zero_le _),fun b hb _ _ => h.block b (by omega)⟩
theorem Ou.trans {S0 vb pb : Nat} {w w1 w2 : World} (h : Ou S0 vb pb w w1) (h2 : Ou S0 vb pb w1 w2) : Ou S0 vb pb w w2 := ⟨h.low.trans h2.low,fun b hb h3 h4 => (h2.rest b hb h3 h4).trans (h.rest b hb h3 h4)⟩
def Keep (B : Nat) (w w' : World) : Prop := ∀ b,B <= b -> b < w.heap.size -> w'.heap[b]? = w.heap[b]?
structure jaz (s : ByteArray) (S0 vb pb : Nat) (w : World) (half depth gr : Nat) (ins : List Int) (r : Nat) (κC κD : Kp) (m : Mc) (bs : List CB) (d : Mc) (ds : List DB) (u : Nat) : Prop where
 ck : Ck s
 hh : half <= 2048
 hg : gr <= 65536
 hi : ∀ z ∈ ins,-9223372036854775808 <= z /\ z <= 9223372036854775807
 hil : ins.length <= 16
 vm : w.heap[vb]? = some (vmB (some r))
 cr : CR s half depth gr ins w r κC m bs
 dr : DR s half depth gr ins w pb κD d ds u
 nx : Nx s m bs d ds u
 kc : ∀ b,b < S0 -> κC b = none
 kd : ∀ b,b < S0 -> b ≠ pb -> κD b = none
 ap : ∀ b,κC b = none \/ κD b = none
def Bt (s : ByteArray) (S0 vb pb : Nat) (w : World) : Prop :=
 (w.heap[vb]? = some (vmB none) /\ w.heap[pb]? = some (.cells mz 55 (0,0))) \/ ∃ half depth gr ins r κC κD m bs d ds u,jaz s S0 vb pb w half depth gr ins r κC κD m bs d ds u
theorem jaz.on {S0 vb pb : Nat} {w w' : World} {half depth gr : Nat} {ins : List Int} {κC κD : Kp} {m : Mc} {bs : List CB} {d : Mc} {ds : List DB} {u : Nat} (h : jaz s S0 vb pb w half depth gr ins r κC κD m bs d ds u) (hb : Below w.heap.size w w') : jaz s S0 vb pb w' half depth gr ins r κC κD m bs d ds u :=
 ⟨h.ck,h.hh,h.hg,h.hi,h.hil,jc h.vm hb (jb h.vm),h.cr.on hb,h.dr.on hb,h.nx,h.kc,h.kd,h.ap⟩
theorem Bt.on {S0 vb pb : Nat} {w w' : World} (h : Bt s S0 vb pb w) (hb : Below w.heap.size w w') : Bt s S0 vb pb w' := by
 rcases h with ⟨h1,h2⟩ | ⟨half,depth,gr,ins,r,κC,κD,m,bs,d,ds,u,h⟩
 ·exact .inl ⟨jc h1 hb (jb h1),jc h2 hb (jb h2)⟩
 ·exact .inr ⟨half,depth,gr,ins,r,κC,κD,m,bs,d,ds,u,h.on hb⟩
structure Rs where
 x0 : Int
 x1 : Int
 x2 : Int
 x4 : Int
 x5 : Int
 x6 : Int
 x7 : Int
 l : List Int
def Rs.arr (A : Rs) (v : Value) : Array Value := #[.int .i64 A.x0,.int .i64 A.x1,.int .i64 A.x2,v,.int .i64 A.x4,.int .i64 A.x5,.int .i64 A.x6,.int .i64 A.x7]
def rsE (e : Int) : Rs := ⟨e,0,0,0,0,0,0,[]⟩
def rsM (m : Mc) (u : Nat) : Rs := ⟨m.err,m.pos,m.val,m.steps,m.read,m.gcs,u,m.out⟩
theorem TR.ir {t : Tg} {v : Value} {l : List Int} (h : TR w κ t 3 1 v l.length (iV l)) : IR w v l := by
 rcases h.form with ⟨e,hn⟩ | ⟨g,cap,e,h1,_,_⟩
 ·subst e
  have e0 : l = [] := List.eq_nil_of_length_eq_zero hn
  subst e0
  exact ⟨none,0,rfl,jN,fun _ => rfl,fun ad e => by cases e⟩
 ·subst e
  exact ⟨some ⟨g,0,none⟩,cap,rfl,h1,fun e => (by cases e),fun ad e j u hj => (by cases e;rw [add0];exact h.cell hj)⟩
theorem jaz.same {S0 vb pb : Nat} {w w' : World} {half depth gr : Nat} {ins : List Int} {κC κD : Kp} {m : Mc} {bs : List CB} {d : Mc} {ds : List DB} {u : Nat} (h : jaz s S0 vb pb w half depth gr ins r κC κD m bs d ds u) (hz : w.heap.size <= w'.heap.size) (hv : w'.heap[vb]? = w.heap[vb]?) (hc : Sm κC w w') (hd : Sm κD w w') : jaz s S0 vb pb w' half depth gr ins r κC κD m bs d ds u :=
 ⟨h.ck,h.hh,h.hg,h.hi,h.hil,hv.trans h.vm,h.cr.same hc hz,h.dr.same hd hz,h.nx,h.kc,h.kd,h.ap⟩
def BtZ (s : ByteArray) (S0 vb pb B Z : Nat) (w : World) : Prop := ∀ w',w.heap.size <= w'.heap.size -> (∀ b,b < w.heap.size -> (b < B \/ Z <= b) -> w'.heap[b]? = w.heap[b]?) -> Bt s S0 vb pb w'
theorem BtZ.of {S0 vb pb : Nat} {half depth gr : Nat} {ins : List Int} {κC κD : Kp} {m : Mc} {bs : List CB} {d : Mc} {ds : List DB} {u : Nat} (h : jaz s S0 vb pb w half depth gr ins r κC κD m bs d ds u) {B Z : Nat} (hv : vb < B) (hC : ∀ b,B <= b -> b < Z -> κC b = none) (hD : ∀ b,B <= b -> b < Z -> κD b = none) : BtZ s S0 vb pb B Z w := fun w' hz hs => by
 refine .inr ⟨half,depth,gr,ins,r,κC,κD,m,bs,d,ds,u,h.same hz (hs vb (jb h.vm) (.inl hv)) (fun b t hb => hs b (h.cr.lt b t hb) ?_) (fun b t hb => hs b (h.dr.lt b t hb) ?_)⟩
 ·by_cases h1 : b < B \/ Z <= b
  ·exact h1
  ·rw [hC b (by omega) (by omega)] at hb;cases hb
 ·by_cases h1 : b < B \/ Z <= b
  ·exact h1
  ·rw [hD b (by omega) (by omega)] at hb;cases hb
def Md (s : ByteArray) (S0 vb pb : Nat) (n : Int) (A : Rs) (B Z : Nat) (w1 : World) : Prop :=
 ∀ W,Below w1.heap.size w1 W -> Calls Tryz.prog 13 #[.pointer (some ⟨pb,0,none⟩),.int .i64 n] W (fun e w2 => ∃ v',e = .returned (.agg (A.arr v')) /\ IR w2 v' A.l /\ Keep B W w2 /\ Ou S0 vb pb W w2 /\ BtZ s S0 vb pb B Z w2)
def G1 (s : ByteArray) (S0 vb pb : Nat) (n : Int) (B : Nat) (W0 : World) (e : Ending) (w1 : World) : Prop :=
 ∃ A v,e = .returned (.agg (A.arr v)) /\ ((A.l = [] /\ v = .slice none 0 0) \/ (A.l ≠ [] /\ ∃ b,v = .slice (some ⟨b,0,none⟩) A.l.length A.l.length /\ B <= b /\ w1.heap[b]? = some (.cells (iV A.l).toArray 3 (0,0)))) /\ A.l.length <= 16 /\ Keep B W0 w1 /\ Ou S0 vb pb W0 w1 /\ Md s S0 vb pb n A B W0.heap.size w1
theorem jck (w : World) : IR w (.slice none 0 0) [] := ⟨none,0,rfl,jN,fun _ => rfl,fun ad e => by cases e⟩
theorem jfY {S0 vb pb : Nat} {w W0 : World} (h : Bt s S0 vb pb w) (hS : S0 <= w.heap.size) (hv : vb < S0) (hp : pb < S0) (hne : vb ≠ pb) (hB : Below w.heap.size w W0) (n : Int) :
 Calls Tryz.prog 12 #[.pointer (some ⟨vb,0,none⟩),.int .i64 n] W0 (G1 s S0 vb pb n w.heap.size W0) := by
 have hB0 := hB.size
 rcases h with ⟨h1,h2⟩ | ⟨half,depth,gr,ins,r,κC,κD,m,bs,d,ds,u,h⟩
 ·have h1 := jc h1 hB (jb h1)
  have h2 := jc h2 hB (jb h2)
  refine (jfX h1).mono fun e w1 ⟨he,hb⟩ => ⟨rsE 20,.slice none 0 0,he,.inl ⟨rfl,rfl⟩,by simp [rsE],fun b _ hb' => hb.block b hb',Ou.of hb (by omega),fun W hW => ?_⟩
  have hz := hb.size
  have hb2 := hb.trans (hW.mono hz)
  have h3 := jc h2 hb2 (jb h2)
  have h4 := jc h1 hb2 (jb h1)
  refine (jkW (ja h3 0 rfl) (jb h3)).mono fun e w2 ⟨he,hc⟩ => ⟨.slice none 0 0,he,jck _,fun b _ hb' => hc.block b hb',Ou.of hc (by have := hW.size;omega),fun w' hz' hs' => .inl ⟨(hs' vb (by have := hc.size;have := jb h4;omega) (.inl (by omega))).trans (jc h4 hc (jb h4)),(hs' pb (by have := hc.size;have := jb h3;omega) (.inl (by omega))).trans (jc h3 hc (jb h3))⟩⟩
 ·have htC := h.cr.top
  have htD := h.dr.top
  have h := h.on hB
  by_cases hn : n < 0 \/ 65536 - (gr : Int) < n
  ·refine (jfZ h.vm h.cr h.hg hn).mono fun e w1 ⟨he,hb⟩ => ⟨rsE 24,.slice none 0 0,he,.inl ⟨rfl,rfl⟩,by simp [rsE],fun b _ hb' => hb.block b hb',Ou.of hb (by omega),fun W hW => ?_⟩
   have hz := hb.size
   have hb2 := hb.trans (hW.mono hz)
   have hT := h.on hb2
   refine (jkX hT.dr hT.hg hn).mono fun e w2 ⟨he,hc⟩ => ⟨.slice none 0 0,he,jck _,fun b _ hb' => hc.block b hb',Ou.of hc (by have := hW.size;omega),BtZ.of (hT.on hc) (by omega) (fun b hb _ => htC b hb) (fun b hb _ => htD b hb)⟩
  ·obtain ⟨k,hk⟩ : ∃ k : Nat,n = (k : Nat) := ⟨n.toNat,by omega⟩
   subst hk
   have hgk : gr + k <= 65536 := by omega
   refine (jfW h.ck h.hi h.hil h.hh h.vm h.cr h.nx hgk).mono fun e w1 ⟨J,mJ,bsJ,κC',v,hPC,hend,hCR,hF,he,hT⟩ => ?_
   have nF : ∀ {κ κ' : Kp} {u u' : World} {b : Nat},Fr0 κ κ' u u' -> κ b = none -> b < u.heap.size -> u'.heap[b]? = u.heap[b]? := fun {κ κ' u u' b} hf hk hb => hf.rest b hb (fun t ht => by rw [hk] at ht;cases ht)
   have hz1 := hF.low.size
   obtain ⟨x,hx⟩ := hCR.rx
   refine ⟨rsM mJ (jJ bsJ),v,he,?_,hx.ol,fun b hb1 hb2 => nF hF (htC b hb1) hb2,⟨hF.low,fun b hb _ _ => nF hF (h.kc b hb) (by omega)⟩,fun W hW => ?_⟩
   ·rcases hT with hT | ⟨q1,b,q2,q3,q4⟩
    ·exact .inl hT
    ·exact .inr ⟨q1,b,q2,by omega,q4⟩
   ·have hzW := hW.size
    have hsD : Sm κD W0 W := fun b t hb => by
     have hl := h.dr.lt b t hb
     have hk : κC b = none := (h.ap b).resolve_right (by rw [hb];intro e;cases e)
     exact (hW.block b (by omega)).trans (nF hF hk hl)
    have hDR := h.dr.same hsD (by omega)
    have hCRW := hCR.on hW
    refine (jkV h.ck h.hi h.hil h.hh hDR hgk h.nx hPC hend).mono fun e w2 ⟨d2,ds2,u2,κD',v',hNx,hDR2,hF2,he2,hTR,hol⟩ => ?_
    have E := hNx.1
    have hz2 := hF2.low.size
    have hkD : ∀ b t,κC' b = some t -> κD b = none := fun b t hb => by
     rcases Nat.lt_or_ge b W0.heap.size with hl | hl
     ·rw [hF.old b hl] at hb
      exact (h.ap b).resolve_left (by rw [hb];intro e;cases e)
     ·exact htD b (by omega)
    refine ⟨v',?_,?_,fun b hb1 hb2 => nF hF2 (htD b hb1) hb2,⟨hF2.low,fun b hb _ hbp => nF hF2 (h.kd b hb hbp) (by omega)⟩,BtZ.of (half := half) (depth := depth) (gr := gr + k) (ins := ins) (r := r) (κC := κC') (κD := κD') (m := mJ) (bs := bsJ) (d := d2) (ds := ds2) (u := u2) ⟨h.ck,h.hh,hgk,h.hi,h.hil,?_,hCRW.same ?_ hz2,hDR2,hNx,fun b hb => (hF.old b (by omega)).trans (h.kc b hb),fun b hb hbp => (hF2.old b (by omega)).trans (h.kd b hb hbp),fun b => ?_⟩ (by omega) (fun b hb hb2 => (hF.old b hb2).trans (htC b hb)) (fun b hb hb2 => (hF2.old b (by omega)).trans (htD b hb))⟩
    ·rw [he2]
     unfold jaq Rs.arr rsM
     simp only
     rw [E.err,E.pos,E.val,E.steps,E.read,E.gcs,E.used]
    ·show IR w2 v' mJ.out
     rw [E.out]
     exact hTR.ir
    ·have h1 := nF hF (h.kc vb hv) (by omega)
     have h2 := hW.block vb (by omega)
     have h3 := nF hF2 (h.kd vb hv hne) (by omega)
     exact (h3.trans (h2.trans h1)).trans h.vm
    ·intro b t hb
     exact nF hF2 (hkD b t hb) (by have := hCR.lt b t hb;omega)
    ·cases hq : κC' b with
     | none => exact .inl rfl
     | some t => exact .inr ((hF2.old b (by have := hCR.lt b t hq;omega)).trans (hkD b t hq))
end Ko
end Go.Proofs.YtjmgolahkgalbaaGreatDoor
