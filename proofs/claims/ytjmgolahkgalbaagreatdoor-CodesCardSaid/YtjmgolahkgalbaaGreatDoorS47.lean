import Derived.Test.YtjmgolahkgalbaaGreatDoorS35
set_option linter.unusedVariables false
set_option linter.unusedSimpArgs false
set_option maxHeartbeats 20000000
namespace Go.Proofs.YtjmgolahkgalbaaGreatDoor
namespace Ko
open Go.RowKit Li
variable {s : ByteArray} {w : World} {m : Nat}
variable {κ : Kp} {Y : Dt} {l : List HX} {f : HX}
set_option maxRecDepth 100000 in
theorem ji3 (h : DL s w m κ Y l f) {q x y p : Nat} {u t : V} {k : Nat} (hx : Y.regs[x]? = some u) (hk : [u][k]? = some t) (ht : vb t = true) (hn : ∀ (i : Nat) (u' : V),i < k -> [u][i]? = some u' -> vb u' = false) :
 Calls Tryz.prog 19 #[.pointer (some ⟨m,0,none⟩),.agg #[.int .i64 23,.int .i64 q,.int .i64 x,.int .i64 y,.int .i64 p]] w (DOk s κ w m (jF (onD Y) 50 0)) := by
 have gx := gX8 h hx
 have HX := jH hx
 clear hx
 have HK := jH hk
 have HTT := jH ht
 have HNN := jH hn
 clear hk ht hn
 obtain ⟨c7,z7,hml,hpc,hl,HH⟩ := jL h
 clear h
 go_enter Tryz.func19,Tryz.ntmps19
 go_upto_region 2 with fail
 generalize hW : World.alloc _ _ = W
 obtain ⟨HT,g5,p5,c5,d5,n5,hg5,hmW,gl⟩ := jK HH.out hW
 clear hW c7 z7 hml
 go_region
 have hT := HT.out.drew
 clear c5 d5 n5 hg5 hmW gl HT
 generalize W.drew = W1 at hT ⊢
 obtain ⟨e0,e1,e2,e3,e4,hwl,hmW,HT⟩ := jw hT
 clear e1 e2 e3 e4
 go_wp2
 clear e0 hwl hmW
 haveI := Wd.ne
 obtain ⟨HY,f0,f1,f2,f3,f4,hmW,hwl⟩ := Je hT
 obtain ⟨g,cap,HR,hgl,c8,r1⟩ := Jd hT.dm (show (onD Y).regs.length = 8 from HH.out.hr)
 obtain ⟨sx0,sx1⟩ := jae HR HX
 clear hT
 refine JE 10 9 327 (fun b => .slice (some ⟨b,0,none⟩) 1 1) (.cells #[.bool (vb u),.int .i64 (vi u)] 89 (0,0)) _ (by kernel_rfl) (by kernel_rfl) (by kernel_rfl) (by decide) rfl rfl rfl ?_
 simp only [TkD]
 iterate 9
  apply jd (by decide) (by rfl)
  ·intro yy;go_simp;all_goals with_reducible rfl
  simp only [Act.put,SsT]
 refine Jh (by decide) (fun w => by kernel_rfl) ?_
 refine js ?_
 intro bq yy hbq hbk
 have CN := jH (jat (HY.out yy).dm (g := bq) (l := [u]) (jb hbk) (ja4 hbk) (by simp) HK.out HTT.out HNN.out)
 have hym := (HY.out yy).dm.lt
 clear f0 f1 f2 f3 f4 r1 sx0 sx1
 go_wp2_with (first
  | (go_at_call 28;refine CN.out.mono ?_;rintro _ w2 ⟨rfl,h2,f2⟩;have HM2 := jH h2;have HF2 := jH f2;clear h2 f2))
 go_returns
 exact ⟨rfl,κ,HM2.out,Fr0.trans (HY.out yy).fr HF2.out⟩
set_option maxRecDepth 100000 in
theorem jiZ (h : DL s w m κ Y l f) {q x y p : Nat} {a : Int} (hx : Y.regs[x]? = some (.n a)) (hz : a < 0 \/ 32 < a) :
 Calls Tryz.prog 19 #[.pointer (some ⟨m,0,none⟩),.agg #[.int .i64 23,.int .i64 q,.int .i64 x,.int .i64 y,.int .i64 p]] w (DOk s κ w m (jF (onD Y) 31 p)) := by
 obtain ⟨c1,hc1⟩ : ∃ c,decide (a < (0 : Int)) = c := ⟨_,rfl⟩
 have HZ : Hid (c1 = false -> decide ((32 : Int) < a) = true) := fun h => by rw [h] at hc1;simp at hc1;simp;omega
 clear hz
 have gx := gX8 h hx
 have HX := jH hx
 clear hx
 obtain ⟨c7,z7,hml,hpc,hl,HH⟩ := jL h
 clear h
 go_enter Tryz.func19,Tryz.ntmps19
 go_upto_region 2 with fail
 generalize hW : World.alloc _ _ = W
 obtain ⟨HT,g5,p5,c5,d5,n5,hg5,hmW,gl⟩ := jK HH.out hW
 clear hW c7 z7 hml
 go_region
 have hT := HT.out.drew
 clear c5 d5 n5 hg5 hmW gl HT
 generalize W.drew = W1 at hT ⊢
 obtain ⟨e0,e1,e2,e3,e4,hwl,hmW,HT⟩ := jw hT
 clear e1 e2 e3 e4
 go_wp2
 clear e0 hwl hmW
 haveI := Wd.ne
 obtain ⟨HY,f0,f1,f2,f3,f4,hmW,hwl⟩ := Je hT
 obtain ⟨g,cap,HR,hgl,c8,r1⟩ := Jd hT.dm (show (onD Y).regs.length = 8 from HH.out.hr)
 obtain ⟨sx0,sx1⟩ := JW HR HX
 clear hT
 refine JE 10 9 327 (fun b => .slice (some ⟨b,0,none⟩) 1 1) (.cells #[.bool false,.int .i64 a] 89 (0,0)) _ (by kernel_rfl) (by kernel_rfl) (by kernel_rfl) (by decide) rfl rfl rfl ?_
 simp only [TkD]
 iterate 9
  apply jd (by decide) (by rfl)
  ·intro yy;go_simp;all_goals with_reducible rfl
  simp only [Act.put,SsT]
 refine Jh (by decide) (fun w => by kernel_rfl) ?_
 refine js ?_
 intro bq yy hbq hbk
 have CN := jaT (HY.out yy) hbk
 have hT2 := HY.out yy
 clear f0 f1 f2 f3 f4 r1 sx0 sx1 HR hgl c8 hmW hwl hbk hbq HY HT
 obtain ⟨W2,hW2⟩ : ∃ W2,yy.v = W2 := ⟨_,rfl⟩
 rw [hW2] at CN hT2 ⊢
 clear hW2
 obtain ⟨hym,hyw,HT2⟩ := jaG hT2
 clear hT2
 go_upto_region 49 with (first
  | (go_at_call 28;refine CN.out.mono ?_;rintro _ w2 ⟨rfl,h2⟩;have h2 := h2.symm;subst h2))
 have hT2 := HT2.out
 clear HT2 CN hym hyw
 obtain ⟨g,cap,_,hgl,c8,r1,r2,_⟩ := JV hT2.dm (show (onD Y).regs.length = 8 from HH.out.hr)
 obtain ⟨sx0,sx1⟩ := r2 x _ HX.out
 simp only [vb,vi] at sx0 sx1
 have e2 : W2.cell? ⟨w.heap.size,2,none⟩ = some (.int .i64 x) := ja hT2.ln 2 rfl
 have e4 : W2.cell? ⟨w.heap.size,4,none⟩ = some (.int .i64 p) := ja hT2.ln 4 rfl
 have hwl := jb hT2.ln
 have hmW := hT2.dm.lt
 have HT := jH hT2
 clear hT2 r2
 go_region
 cases c1
 ·have u2 := HZ.out rfl
  go_wp2_with (first
   | (go_at_call 33;refine (Jf HT.out.dm.drew 31 p).mono ?_;rintro _ w3 ⟨rfl,h3,f3⟩))
  go_returns
  exact ⟨rfl,κ,h3,Fr0.trans (Fr.drew HT.out.fr) f3⟩
 ·go_wp2_with (first
   | (go_at_call 33;refine (Jf HT.out.dm.drew 31 p).mono ?_;rintro _ w3 ⟨rfl,h3,f3⟩))
  go_returns
  exact ⟨rfl,κ,h3,Fr0.trans (Fr.drew HT.out.fr) f3⟩
set_option maxRecDepth 100000 in
theorem jjf (h : DL s w m κ Y l f) {q x y p : Nat} {n : Nat} {v : V} (hx : Y.regs[x]? = some (.n (n : Nat))) (hy : Y.regs[y]? = some v) (hn : n <= 32) {Q : World -> Ending -> World -> Prop} (hQ : Good κ Q) (hC : ∀ W,DM s W m κ (onD Y) -> Calls Tryz.prog 32 #[.pointer (some ⟨m,0,none⟩),.int .i64 q,.int .i64 n,.int .i64 (-1),.agg #[.bool (vb v),.int .i64 (vi v)]] W (Q W)) :
 Calls Tryz.prog 19 #[.pointer (some ⟨m,0,none⟩),.agg #[.int .i64 23,.int .i64 q,.int .i64 x,.int .i64 y,.int .i64 p]] w (Q w) := by
 have HYY := jH hy
 have HQ := jH hQ
 have HC := jH hC
 clear hQ hC
 have u1 : decide (((n : Nat) : Int) < (0 : Int)) = false := by simp
 have u2 : decide ((32 : Int) < ((n : Nat) : Int)) = false := by simp;omega
 have gy := gX8 h hy
 clear hy
 have gx := gX8 h hx
 have HX := jH hx
 clear hx
 obtain ⟨c7,z7,hml,hpc,hl,HH⟩ := jL h
 clear h
 go_enter Tryz.func19,Tryz.ntmps19
 go_upto_region 2 with fail
 generalize hW : World.alloc _ _ = W
 obtain ⟨HT,g5,p5,c5,d5,n5,hg5,hmW,gl⟩ := jK HH.out hW
 clear hW c7 z7 hml
 go_region
 have hT := HT.out.drew
 clear c5 d5 n5 hg5 hmW gl HT
 generalize W.drew = W1 at hT ⊢
 obtain ⟨e0,e1,e2,e3,e4,hwl,hmW,HT⟩ := jw hT
 clear e1 e2 e3 e4
 go_wp2
 clear e0 hwl hmW
 haveI := Wd.ne
 obtain ⟨HY,f0,f1,f2,f3,f4,hmW,hwl⟩ := Je hT
 obtain ⟨g,cap,HR,hgl,c8,r1⟩ := Jd hT.dm (show (onD Y).regs.length = 8 from HH.out.hr)
 obtain ⟨sx0,sx1⟩ := JW HR HX
 clear hT
 refine JE 10 9 327 (fun b => .slice (some ⟨b,0,none⟩) 1 1) (.cells #[.bool false,.int .i64 n] 89 (0,0)) _ (by kernel_rfl) (by kernel_rfl) (by kernel_rfl) (by decide) rfl rfl rfl ?_
 simp only [TkD]
 iterate 9
  apply jd (by decide) (by rfl)
  ·intro yy;go_simp;all_goals with_reducible rfl
  simp only [Act.put,SsT]
 refine Jh (by decide) (fun w => by kernel_rfl) ?_
 refine js ?_
 intro bq yy hbq hbk
 have CN := jaT (HY.out yy) hbk
 have hT2 := HY.out yy
 clear f0 f1 f2 f3 f4 r1 sx0 sx1 HR hgl c8 hmW hwl hbk hbq HY HT
 obtain ⟨W2,hW2⟩ : ∃ W2,yy.v = W2 := ⟨_,rfl⟩
 rw [hW2] at CN hT2 ⊢
 clear hW2
 obtain ⟨hym,hyw,HT2⟩ := jaG hT2
 clear hT2
 go_upto_region 49 with (first
  | (go_at_call 28;refine CN.out.mono ?_;rintro _ w2 ⟨rfl,h2⟩;have h2 := h2.symm;subst h2))
 have hT2 := HT2.out
 clear HT2 CN hym hyw
 obtain ⟨g,cap,_,hgl,c8,r1,r2,_⟩ := JV hT2.dm (show (onD Y).regs.length = 8 from HH.out.hr)
 obtain ⟨sx0,sx1⟩ := r2 x _ HX.out
 simp only [vb,vi] at sx0 sx1
 have e2 : W2.cell? ⟨w.heap.size,2,none⟩ = some (.int .i64 x) := ja hT2.ln 2 rfl
 have e4 : W2.cell? ⟨w.heap.size,4,none⟩ = some (.int .i64 p) := ja hT2.ln 4 rfl
 have hwl := jb hT2.ln
 have hmW := hT2.dm.lt
 have HT := jH hT2
 clear hT2 r2
 go_region
 go_wp2
 have hT2 := HT.out.drew
 clear HT r1 sx0 sx1 hgl c8 e2 e4 hwl hmW
 generalize W2.drew = W2 at hT2 ⊢
 haveI := Wd.ne
 obtain ⟨HY,f0,f1,f2,f3,f4,hmW,hwl⟩ := Je hT2
 obtain ⟨g,cap,HR,hgl,c8,r1⟩ := Jd hT2.dm (show (onD Y).regs.length = 8 from HH.out.hr)
 obtain ⟨sy0,sy1⟩ := jae HR HYY
 clear hT2
 refine jP 12 13 (by kernel_rfl) (by kernel_rfl) (by decide) ?_
 simp only [TkD]
 iterate 12
  apply jd (by decide) (by rfl)
  ·intro zz;go_simp;all_goals with_reducible rfl
  simp only [Act.put,SsT]
 refine js ?_
 intro zz
 go_wp2_with (first
  | (go_at_call 32;refine (HC.out _ (HY.out zz).dm).mono ?_;intro e4 w4 hq4;have he4 := HQ.out.ret _ _ _ hq4;subst he4))
 go_returns
 exact HQ.out.pre _ _ _ _ (HY.out zz).fr hq4
set_option maxRecDepth 100000 in
theorem ji0 (h : DL s w m κ Y l f) {q x y p : Nat} (hrd : Y.x.read = Y.ins.length) (hil : Y.ins.length <= 1000) :
 Calls Tryz.prog 19 #[.pointer (some ⟨m,0,none⟩),.agg #[.int .i64 28,.int .i64 q,.int .i64 x,.int .i64 y,.int .i64 p]] w (DOk s κ w m (jF (onD Y) 33 p)) := by
 obtain ⟨c7,z7,hml,hpc,hl,HH⟩ := jL h
 clear h
 go_enter Tryz.func19,Tryz.ntmps19
 go_upto_region 2 with fail
 generalize hW : World.alloc _ _ = W
 obtain ⟨HT,g5,p5,c5,d5,n5,hg5,hmW,gl⟩ := jK HH.out hW
 clear hW c7 z7 hml
 go_region
 have hT := HT.out.drew
 clear c5 d5 n5 hg5 hmW gl HT
 generalize W.drew = W1 at hT ⊢
 obtain ⟨e0,e1,e2,e3,e4,hwl,hmW,HT⟩ := jw hT
 obtain ⟨gi,ci,i0,i1⟩ := hT.dm.in
 have i2 : W1.cell? ⟨m,15,none⟩ = some (.int .i64 Y.x.read) := ja hT.dm.mac 15 rfl
 rw [show (onD Y).ins = Y.ins from rfl] at i0 i1
 rw [hrd] at i2
 clear hT hrd
 go_wp2
 go_region
 go_wp2_with (first
  | (go_at_call 33;refine (Jf HT.out.dm.drew 33 p).mono ?_;rintro _ w3 ⟨rfl,h3,f3⟩))
 go_returns
 exact ⟨rfl,κ,h3,Fr0.trans (Fr.drew HT.out.fr) f3⟩
set_option maxRecDepth 100000 in
theorem jjd (h : DL s w m κ Y l f) {q x y p : Nat} {z : Int} (hq : q < 8) (hi : Y.ins[Y.x.read]? = some z) (hz : -9223372036854775808 <= z /\ z <= 9223372036854775807) (hil : Y.ins.length <= 1000) :
 Calls Tryz.prog 19 #[.pointer (some ⟨m,0,none⟩),.agg #[.int .i64 28,.int .i64 q,.int .i64 x,.int .i64 y,.int .i64 p]] w (DOk s κ w m (inD (onD Y) q z)) := by
 have C1 : Hid (jD 30 #[.int .i64 z] (.agg #[.bool false,.int .i64 (w63 z)])) := fun W' => jc9 hz W'
 have HI := jH hi
 obtain ⟨rd,hrd⟩ : ∃ rd,Y.x.read = rd := ⟨_,rfl⟩
 have HRD := jH hrd
 have hlr := (jG hi).1
 rw [hrd] at hlr
 have gr : (rd : Int) < (Y.ins.length : Int) := by omega
 have gn : ((rd : Int) == (Y.ins.length : Int)) = false := by rw [beq_eq_false_iff_ne];omega
 have gq : (q : Int) < 8 := by omega
 clear hi hz
 obtain ⟨c7,z7,hml,hpc,hl,HH⟩ := jL h
 clear h
 go_enter Tryz.func19,Tryz.ntmps19
 go_upto_region 2 with fail
 generalize hW : World.alloc _ _ = W
 obtain ⟨HT,g5,p5,c5,d5,n5,hg5,hmW,gl⟩ := jK HH.out hW
 clear hW c7 z7 hml
 go_region
 have hT := HT.out.drew
 clear c5 d5 n5 hg5 hmW gl HT
 generalize W.drew = W1 at hT ⊢
 obtain ⟨e0,e1,e2,e3,e4,hwl,hmW,HT⟩ := jw hT
 have i2 : W1.cell? ⟨m,15,none⟩ = some (.int .i64 rd) := by rw [<- HRD.out];exact ja hT.dm.mac 15 rfl
 obtain ⟨gi,ci,i0,i1,i3,i4⟩ := hT.dm.inat (show (onD Y).ins[Y.x.read]? = some z from HI.out)
 rw [show (onD Y).ins = Y.ins from rfl] at i0 i1
 clear hT hrd i3 i4
 go_wp2
 go_region
 go_wp2
 have hT2 := HT.out.drew
 clear HT e0 e1 e2 e3 e4 hwl hmW i0 i1 i2
 generalize W1.drew = W2 at hT2 ⊢
 obtain ⟨gi,ci,i1,i3,i4⟩ := hT2.dm.ini (show (onD Y).ins[Y.x.read]? = some z from HI.out)
 rw [HRD.out] at i4
 rw [show (onD Y).ins = Y.ins from rfl] at i1 i4
 haveI := Wd.ne
 obtain ⟨HY,f0,f1,f2,f3,f4,hmW,hwl⟩ := Je hT2
 obtain ⟨g,cap,HR,hgl,c8,r1⟩ := Jd hT2.dm (show (onD Y).regs.length = 8 from HH.out.hr)
 have j2 : ∀ yy : Wd W2.heap.size W2,yy.v.cell? ⟨m,15,none⟩ = some (.int .i64 rd) := fun yy => by rw [<- HRD.out];exact ja (HY.out yy).dm.mac 15 rfl
 have j0 : ∀ yy : Wd W2.heap.size W2,yy.v.cell? ⟨m,3,none⟩ = some (.slice (some ⟨gi,0,none⟩) Y.ins.length ci) := fun yy => (i4 _ yy.h).1
 have j4 : ∀ yy : Wd W2.heap.size W2,yy.v.cell? ⟨gi,rd,none⟩ = some (.int .i64 z) := fun yy => (i4 _ yy.h).2
 clear hT2 i4
 refine jP 19 20 (by kernel_rfl) (by kernel_rfl) (by decide) ?_
 simp only [TkD]
 iterate 17
  apply jd (by decide) (by rfl)
  ·intro yy;go_simp;all_goals with_reducible rfl
  simp only [Act.put,SsT]
 refine jd (by decide) (by rfl) (v := ?v17) ?hv17 ?_
 case hv17 => (intro yy;go_simp;exact C1.out _)
 simp only [Act.put,SsT]
 refine jd (by decide) (by rfl) (v := ?v18) ?hv18 ?_
 case hv18 => (intro yy;go_simp;all_goals with_reducible rfl)
 simp only [Act.put,SsT]
 refine js ?_
 intro yy
 obtain ⟨_,_,k1,d0,d1,z0',z1',HK7,hgy⟩ := jc0 HR (show (onD Y).regs.length = 8 from HH.out.hr) (v := (.n (w63 z))) hq yy
 clear f0 f1 f2 f3 f4 r1 j0 j2 j4
 go_upto_region 72 with fail
 have hM := HK7.out.1
 have hF := HK7.out.2
 simp only [vb,vi] at hM hF
 generalize ((yy.v.setCell ⟨g,q * 2,none⟩ (.bool false)).setCell ⟨g,q * 2 + 1,none⟩ (.int .i64 (w63 z))) = W3 at hM hF ⊢
 have i2 : W3.cell? ⟨m,15,none⟩ = some (.int .i64 rd) := by rw [<- HRD.out];exact ja hM.mac 15 rfl
 have z15 := je hM.mac 15
 have hm3 := hM.lt
 have HM := jH hM
 have HF := jH hF
 clear hM hF HK7 d0 d1 z0' z1' k1
 go_wp2
 go_returns
 have hL : Lone m W3 (W3.setCell ⟨m,15,none⟩ (.int .i64 ((rd : Int) + 1))) := (Lone.refl _ _).set 15 _
 refine ⟨rfl,κ,?_,Fr0.trans (Fr0.trans (HY.out yy).fr HF.out) (HM.out.low hL)⟩
 have h9 := HM.out.upd (x' := { (onD Y).x with read := rd + 1 }) (jf HM.out.mac 15 (.int .i64 ((rd + 1 : Nat) : Int))) ((Lone.refl _ _).set 15 _) rfl
 rw [show ((rd + 1 : Nat) : Int) = (rd : Int) + 1 by omega] at h9
 unfold inD
 rw [show (onD Y).x.read = rd from HRD.out]
 exact h9
end Ko
end Go.Proofs.YtjmgolahkgalbaaGreatDoor
