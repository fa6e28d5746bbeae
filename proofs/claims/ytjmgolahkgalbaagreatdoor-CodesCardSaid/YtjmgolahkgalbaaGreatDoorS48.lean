import Derived.Test.YtjmgolahkgalbaaGreatDoorS35
set_option linter.unusedVariables false
set_option linter.unusedSimpArgs false
set_option maxHeartbeats 20000000
namespace Go.Proofs.YtjmgolahkgalbaaGreatDoor
namespace Ko
open Go.RowKit Li
variable {s : ByteArray} {w : World} {m : Nat}
variable {κ : Kp} {Y : Dt} {l : List HX} {f : HX}
set_option maxRecDepth 100000 in
theorem jeS (h : DL s w m κ Y l f) {q x y p : Nat} {o : Int} (ho : o = 30 \/ o = 32) {a : Int} (hx : Y.regs[7]? = some (.n a)) :
 Calls Tryz.prog 19 #[.pointer (some ⟨m,0,none⟩),.agg #[.int .i64 o,.int .i64 q,.int .i64 x,.int .i64 y,.int .i64 p]] w (DOk s κ w m (jF (onD Y) 50 0)) := by
 obtain ⟨c7,z7,hml,hpc,hl,HH⟩ := jL h
 clear h
 go_enter Tryz.func19,Tryz.ntmps19
 go_upto_region 2 with fail
 generalize hW : World.alloc _ _ = W
 obtain ⟨HT,g5,p5,c5,d5,n5,hg5,hmW,gl⟩ := jK HH.out hW
 clear hW c7 z7 hml
 go_region
 have hT := HT.out.drew
 clear c5 d5 n5 hg5 hmW gl HT
 generalize W.drew = W1 at hT ⊢
 obtain ⟨e0,e1,e2,e3,e4,hwl,hmW,HT⟩ := jw hT
 obtain ⟨g,cap,HR,hgl,c8,r1,r2,r3⟩ := JV hT.dm (show (onD Y).regs.length = 8 from HH.out.hr)
 obtain ⟨s0,s1⟩ := r2 7 _ hx
 simp only [vb,vi,Nat.reduceMul,Nat.reduceAdd] at s0 s1
 clear hT r2 r3 hx
 rcases ho with rfl | rfl
 all_goals
  go_upto_region 79 with fail
  have hT2 := HT.out.on (jr W1 (.cells #[.bool false,.int .i64 a] 89 (0,0)))
  have hbx := jg W1 (.cells #[.bool false,.int .i64 a] 89 (0,0))
  clear HR HT hgl c8 r1 s0 s1 e0 e1 e2 e3 e4
  generalize hvb : W1.heap.size = vbk at hbx ⊢
  clear hvb hwl hmW
  generalize W1.alloc (.cells #[.bool false,.int .i64 a] 89 (0,0)) = W2 at hT2 hbx ⊢
  have v0 : W2.cell? ⟨vbk,0,none⟩ = some (.bool false) := ja hbx 0 rfl
  have v1 : W2.cell? ⟨vbk,1,none⟩ = some (.int .i64 a) := ja hbx 1 rfl
  have hvl := jb hbx
  obtain ⟨e0,_,e2,_,_,hwl,hmW,HT⟩ := jw hT2
  clear hT2 hbx
  go_wp2_with (first
   | (go_at_call 33;refine (Jf HT.out.dm 50 0).mono ?_;rintro _ w3 ⟨rfl,h3,f3⟩))
  go_returns
  exact ⟨rfl,κ,h3,Fr0.trans HT.out.fr f3⟩
set_option maxRecDepth 100000 in
theorem jeT (h : DL s w m κ Y l f) {q x y p : Nat} {o : Int} (ho : o = 30 \/ o = 32) {i : Nat} {b : GX} (hx : Y.regs[7]? = some (.b i)) (hb : Y.ds[i]? = some b) (hf : b.fn = -1) :
 Calls Tryz.prog 19 #[.pointer (some ⟨m,0,none⟩),.agg #[.int .i64 o,.int .i64 q,.int .i64 x,.int .i64 y,.int .i64 p]] w (DOk s κ w m (jF (onD Y) 50 0)) := by
 obtain ⟨c7,z7,hml,hpc,hl,HH⟩ := jL h
 clear h
 go_enter Tryz.func19,Tryz.ntmps19
 go_upto_region 2 with fail
 generalize hW : World.alloc _ _ = W
 obtain ⟨HT,g5,p5,c5,d5,n5,hg5,hmW,gl⟩ := jK HH.out hW
 clear hW c7 z7 hml
 go_region
 have hT := HT.out.drew
 clear c5 d5 n5 hg5 hmW gl HT
 generalize W.drew = W1 at hT ⊢
 obtain ⟨e0,e1,e2,e3,e4,hwl,hmW,HT⟩ := jw hT
 obtain ⟨g,cap,HR,hgl,c8,r1,r2,r3⟩ := JV hT.dm (show (onD Y).regs.length = 8 from HH.out.hr)
 obtain ⟨s0,s1⟩ := r2 7 _ hx
 simp only [vb,vi,Nat.reduceMul,Nat.reduceAdd] at s0 s1
 clear hT r2 r3 hx
 rcases ho with rfl | rfl
 all_goals
  go_upto_region 79 with fail
  have hT2 := HT.out.on (jr W1 (.cells #[.bool true,.int .i64 i] 89 (0,0)))
  have hbx := jg W1 (.cells #[.bool true,.int .i64 i] 89 (0,0))
  clear HR HT hgl c8 r1 s0 s1 e0 e1 e2 e3 e4
  generalize hvb : W1.heap.size = vbk at hbx ⊢
  clear hvb hwl hmW
  generalize W1.alloc (.cells #[.bool true,.int .i64 i] 89 (0,0)) = W2 at hT2 hbx ⊢
  have v0 : W2.cell? ⟨vbk,0,none⟩ = some (.bool true) := ja hbx 0 rfl
  have v1 : W2.cell? ⟨vbk,1,none⟩ = some (.int .i64 i) := ja hbx 1 rfl
  have hvl := jb hbx
  obtain ⟨e0,_,e2,_,_,hwl,hmW,HT⟩ := jw hT2
  obtain ⟨g',cap',b1,b2,b3,b4,b5,b6,b7,b8⟩ := hT2.dm.bg (show (onD Y).ds[i]? = some b from hb)
  rw [show (onD Y).ds = Y.ds from rfl] at b1 b7 b8
  rw [hf] at b4
  have gil : (i : Int) < (Y.ds.length : Int) := by omega
  clear b3 hb hf hbx
  clear hT2
  go_wp2
  go_region
  go_wp2
  go_region
  go_wp2_with (first
   | (go_at_call 33;refine (Jf HT.out.dm.drew.drew 50 0).mono ?_;rintro _ w3 ⟨rfl,h3,f3⟩))
  go_returns
  exact ⟨rfl,κ,h3,Fr0.trans (Fr.drew (Fr.drew HT.out.fr)) f3⟩
set_option maxRecDepth 100000 in
theorem jeR (h : DL s w m κ Y l f) {q x y p : Nat} {o : Int} (ho : o = 30 \/ o = 32) {i : Nat} {b : GX} (hx : Y.regs[7]? = some (.b i)) (hb : Y.ds[i]? = some b) {j : Nat} (hf : b.fn = (j : Nat)) (hg : j < hF s) (hp : r1 s j ≠ x) :
 Calls Tryz.prog 19 #[.pointer (some ⟨m,0,none⟩),.agg #[.int .i64 o,.int .i64 q,.int .i64 x,.int .i64 y,.int .i64 p]] w (DOk s κ w m (jF (onD Y) 50 0)) := by
 obtain ⟨c7,z7,hml,hpc,hl,HH⟩ := jL h
 clear h
 go_enter Tryz.func19,Tryz.ntmps19
 go_upto_region 2 with fail
 generalize hW : World.alloc _ _ = W
 obtain ⟨HT,g5,p5,c5,d5,n5,hg5,hmW,gl⟩ := jK HH.out hW
 clear hW c7 z7 hml
 go_region
 have hT := HT.out.drew
 clear c5 d5 n5 hg5 hmW gl HT
 generalize W.drew = W1 at hT ⊢
 obtain ⟨e0,e1,e2,e3,e4,hwl,hmW,HT⟩ := jw hT
 obtain ⟨g,cap,HR,hgl,c8,r1,r2,r3⟩ := JV hT.dm (show (onD Y).regs.length = 8 from HH.out.hr)
 obtain ⟨s0,s1⟩ := r2 7 _ hx
 simp only [vb,vi,Nat.reduceMul,Nat.reduceAdd] at s0 s1
 clear hT r2 r3 hx
 rcases ho with rfl | rfl
 all_goals
  go_upto_region 79 with fail
  have hT2 := HT.out.on (jr W1 (.cells #[.bool true,.int .i64 i] 89 (0,0)))
  have hbx := jg W1 (.cells #[.bool true,.int .i64 i] 89 (0,0))
  clear HR HT hgl c8 r1 s0 s1 e0 e1 e2 e3 e4
  generalize hvb : W1.heap.size = vbk at hbx ⊢
  clear hvb hwl hmW
  generalize W1.alloc (.cells #[.bool true,.int .i64 i] 89 (0,0)) = W2 at hT2 hbx ⊢
  have v0 : W2.cell? ⟨vbk,0,none⟩ = some (.bool true) := ja hbx 0 rfl
  have v1 : W2.cell? ⟨vbk,1,none⟩ = some (.int .i64 i) := ja hbx 1 rfl
  have hvl := jb hbx
  obtain ⟨e0,_,e2,_,_,hwl,hmW,HT⟩ := jw hT2
  obtain ⟨g',cap',b1,b2,b3,b4,b5,b6,b7,b8⟩ := hT2.dm.bg (show (onD Y).ds[i]? = some b from hb)
  rw [show (onD Y).ds = Y.ds from rfl] at b1 b7 b8
  rw [hf] at b4
  have gil : (i : Int) < (Y.ds.length : Int) := by omega
  clear b3 hb hf hbx
  obtain ⟨gf,cf,t0,t1,t2,t3,t4,t5,t6,t7⟩ := hT2.dm.fn hg
  obtain ⟨R,hR⟩ : ∃ R,r1 s j = R := ⟨_,rfl⟩
  rw [hR] at t6 hp
  have gj : (j : Int) < (hF s : Int) := by omega
  have hFl : hF s < 65536 := ju _ _
  have u1 : decide ((j : Int) < (0 : Int)) = false := by simp
  clear t5 t7 hR hg
  have u2 : ((R : Int) == (x : Int)) = false := by rw [beq_eq_false_iff_ne];omega
  have u3 : ((R : Int) != (x : Int)) = true := by rw [bne_iff_ne];omega
  clear hT2 hp
  go_wp2
  go_region
  go_wp2
  go_region
  go_wp2_with (first
   | (go_at_call 33;refine (Jf HT.out.dm.drew.drew 50 0).mono ?_;rintro _ w3 ⟨rfl,h3,f3⟩))
  go_returns
  exact ⟨rfl,κ,h3,Fr0.trans (Fr.drew (Fr.drew HT.out.fr)) f3⟩
set_option maxRecDepth 100000 in
theorem line_3 (h : DL s w m κ Y l f) {q x y p : Nat} {o : Int} {bv : Bool} (ho : (o = 30 /\ bv = false) \/ (o = 32 /\ bv = true)) {i : Nat} {b : GX} (hx : Y.regs[7]? = some (.b i)) (hb : Y.ds[i]? = some b) {j : Nat} (hf : b.fn = (j : Nat)) (hg : j < hF s) (hp : r1 s j = x) {Q : World -> Ending -> World -> Prop} (hQ : Good κ Q) (hC : ∀ W,DM s W m κ (onD Y) -> Calls Tryz.prog 36 #[.pointer (some ⟨m,0,none⟩),.int .i64 j,.bool bv] W (Q W)) :
 Calls Tryz.prog 19 #[.pointer (some ⟨m,0,none⟩),.agg #[.int .i64 o,.int .i64 q,.int .i64 x,.int .i64 y,.int .i64 p]] w (Q w) := by
 have HQ := jH hQ
 have HC := jH hC
 clear hQ hC
 obtain ⟨c7,z7,hml,hpc,hl,HH⟩ := jL h
 clear h
 go_enter Tryz.func19,Tryz.ntmps19
 go_upto_region 2 with fail
 generalize hW : World.alloc _ _ = W
 obtain ⟨HT,g5,p5,c5,d5,n5,hg5,hmW,gl⟩ := jK HH.out hW
 clear hW c7 z7 hml
 go_region
 have hT := HT.out.drew
 clear c5 d5 n5 hg5 hmW gl HT
 generalize W.drew = W1 at hT ⊢
 obtain ⟨e0,e1,e2,e3,e4,hwl,hmW,HT⟩ := jw hT
 obtain ⟨g,cap,HR,hgl,c8,r1,r2,r3⟩ := JV hT.dm (show (onD Y).regs.length = 8 from HH.out.hr)
 obtain ⟨s0,s1⟩ := r2 7 _ hx
 simp only [vb,vi,Nat.reduceMul,Nat.reduceAdd] at s0 s1
 clear hT r2 r3 hx
 rcases ho with ⟨rfl,rfl⟩ | ⟨rfl,rfl⟩
 all_goals
  go_upto_region 79 with fail
  have hT2 := HT.out.on (jr W1 (.cells #[.bool true,.int .i64 i] 89 (0,0)))
  have hbx := jg W1 (.cells #[.bool true,.int .i64 i] 89 (0,0))
  clear HR HT hgl c8 r1 s0 s1 e0 e1 e2 e3 e4
  generalize hvb : W1.heap.size = vbk at hbx ⊢
  clear hvb hwl hmW
  generalize W1.alloc (.cells #[.bool true,.int .i64 i] 89 (0,0)) = W2 at hT2 hbx ⊢
  have v0 : W2.cell? ⟨vbk,0,none⟩ = some (.bool true) := ja hbx 0 rfl
  have v1 : W2.cell? ⟨vbk,1,none⟩ = some (.int .i64 i) := ja hbx 1 rfl
  have hvl := jb hbx
  obtain ⟨e0,_,e2,_,_,hwl,hmW,HT⟩ := jw hT2
  obtain ⟨g',cap',b1,b2,b3,b4,b5,b6,b7,b8⟩ := hT2.dm.bg (show (onD Y).ds[i]? = some b from hb)
  rw [show (onD Y).ds = Y.ds from rfl] at b1 b7 b8
  rw [hf] at b4
  have gil : (i : Int) < (Y.ds.length : Int) := by omega
  clear b3 hb hf hbx
  obtain ⟨gf,cf,t0,t1,t2,t3,t4,t5,t6,t7⟩ := hT2.dm.fn hg
  obtain ⟨R,hR⟩ : ∃ R,r1 s j = R := ⟨_,rfl⟩
  rw [hR] at t6 hp
  have gj : (j : Int) < (hF s : Int) := by omega
  have hFl : hF s < 65536 := ju _ _
  have u1 : decide ((j : Int) < (0 : Int)) = false := by simp
  clear t5 t7 hR hg
  subst hp
  clear hT2
  go_wp2
  go_region
  go_wp2
  go_region
  go_wp2_with (first
   | (go_at_call 36;refine (HC.out _ HT.out.dm.drew.drew).mono ?_;intro e4 w4 hq4;have he4 := HQ.out.ret _ _ _ hq4;subst he4))
  go_returns
  exact HQ.out.pre _ _ _ _ (Fr.drew (Fr.drew HT.out.fr)) hq4
end Ko
end Go.Proofs.YtjmgolahkgalbaaGreatDoor
