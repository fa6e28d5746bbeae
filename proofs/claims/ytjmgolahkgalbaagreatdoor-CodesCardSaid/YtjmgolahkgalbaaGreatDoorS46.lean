import Derived.Test.YtjmgolahkgalbaaGreatDoorS35
set_option linter.unusedVariables false
set_option linter.unusedSimpArgs false
set_option maxHeartbeats 20000000
namespace Go.Proofs.YtjmgolahkgalbaaGreatDoor
namespace Ko
open Go.RowKit Li
variable {s : ByteArray} {w : World} {m : Nat}
variable {κ : Kp} {Y : Dt} {l : List HX} {f : HX}
set_option maxRecDepth 100000 in
theorem jdh (h : DL s w m κ Y l f) {q x y p : Nat} {o : Int} (ho : o = 22 \/ o = 24 \/ o = 26) {u : V} (hx : Y.regs[x]? = some u) {Q : World -> Ending -> World -> Prop} (hQ : Good κ Q) (hC : ∀ W,DM s W m κ (onD Y) -> Calls Tryz.prog 34 #[.pointer (some ⟨m,0,none⟩),.agg #[.int .i64 o,.int .i64 q,.int .i64 x,.int .i64 y,.int .i64 p],.agg #[.bool (vb u),.int .i64 (vi u)]] W (Q W)) :
 Calls Tryz.prog 19 #[.pointer (some ⟨m,0,none⟩),.agg #[.int .i64 o,.int .i64 q,.int .i64 x,.int .i64 y,.int .i64 p]] w (Q w) := by
 have HX := jH hx
 have HQ := jH hQ
 have HC := jH hC
 clear hQ hC
 obtain ⟨c7,z7,hml,hpc,hl,HH⟩ := jL h
 clear h
 go_enter Tryz.func19,Tryz.ntmps19
 go_upto_region 2 with fail
 generalize hW : World.alloc _ _ = W
 obtain ⟨HT,g5,p5,c5,d5,n5,hg5,hmW,gl⟩ := jK HH.out hW
 clear hW c7 z7 hml
 go_region
 have hT := HT.out.drew
 clear c5 d5 n5 hg5 hmW gl HT
 generalize W.drew = W1 at hT ⊢
 obtain ⟨e0,e1,e2,e3,e4,hwl,hmW,HT⟩ := jw hT
 have gx := gX8 HH.out hx
 clear hx hT e1 e2 e3 e4
 rcases ho with rfl | rfl | rfl
 all_goals
  go_wp2
  have hT2 := HT.out
  clear HT e0 hwl hmW
  generalize W1 = W2 at hT2 ⊢
  haveI := Wd.ne
  obtain ⟨HY,f0,f1,f2,f3,f4,hmW,hwl⟩ := Je hT2
  obtain ⟨g,cap,HR,hgl,c8,r1⟩ := Jd hT2.dm (show (onD Y).regs.length = 8 from HH.out.hr)
  obtain ⟨sx0,sx1⟩ := jae HR HX
  clear hT2
  refine jP 10 11 (by kernel_rfl) (by kernel_rfl) (by decide) ?_
  simp only [TkD]
  iterate 10
   apply jd (by decide) (by rfl)
   ·intro yy;go_simp;all_goals with_reducible rfl
   simp only [Act.put,SsT]
  refine js ?_
  intro yy
  go_wp2_with (first
   | (go_at_call 34;refine (HC.out _ (HY.out yy).dm).mono ?_;intro e4 w4 hq4;have he4 := HQ.out.ret _ _ _ hq4;subst he4))
  go_returns
  exact HQ.out.pre _ _ _ _ (HY.out yy).fr hq4
set_option maxRecDepth 100000 in
theorem jeU (h : DL s w m κ Y l f) {q x y p : Nat} {o : Int} (ho : o = 21 \/ o = 25) {u : V} (hx : Y.regs[q]? = some u) {Q : World -> Ending -> World -> Prop} (hQ : Good κ Q) (hC : ∀ W,DM s W m κ (onD Y) -> Calls Tryz.prog 35 #[.pointer (some ⟨m,0,none⟩),.agg #[.int .i64 o,.int .i64 q,.int .i64 x,.int .i64 y,.int .i64 p],.agg #[.bool (vb u),.int .i64 (vi u)]] W (Q W)) :
 Calls Tryz.prog 19 #[.pointer (some ⟨m,0,none⟩),.agg #[.int .i64 o,.int .i64 q,.int .i64 x,.int .i64 y,.int .i64 p]] w (Q w) := by
 have HX := jH hx
 have HQ := jH hQ
 have HC := jH hC
 clear hQ hC
 obtain ⟨c7,z7,hml,hpc,hl,HH⟩ := jL h
 clear h
 go_enter Tryz.func19,Tryz.ntmps19
 go_upto_region 2 with fail
 generalize hW : World.alloc _ _ = W
 obtain ⟨HT,g5,p5,c5,d5,n5,hg5,hmW,gl⟩ := jK HH.out hW
 clear hW c7 z7 hml
 go_region
 have hT := HT.out.drew
 clear c5 d5 n5 hg5 hmW gl HT
 generalize W.drew = W1 at hT ⊢
 obtain ⟨e0,e1,e2,e3,e4,hwl,hmW,HT⟩ := jw hT
 have gq := gX8 HH.out hx
 clear hx hT e1 e2 e3 e4
 rcases ho with rfl | rfl
 all_goals
  go_wp2
  have hT2 := HT.out
  clear HT e0 hwl hmW
  generalize W1 = W2 at hT2 ⊢
  haveI := Wd.ne
  obtain ⟨HY,f0,f1,f2,f3,f4,hmW,hwl⟩ := Je hT2
  obtain ⟨g,cap,HR,hgl,c8,r1⟩ := Jd hT2.dm (show (onD Y).regs.length = 8 from HH.out.hr)
  obtain ⟨sq0,sq1⟩ := jae HR HX
  clear hT2
  refine jP 10 11 (by kernel_rfl) (by kernel_rfl) (by decide) ?_
  simp only [TkD]
  iterate 10
   apply jd (by decide) (by rfl)
   ·intro yy;go_simp;all_goals with_reducible rfl
   simp only [Act.put,SsT]
  refine js ?_
  intro yy
  go_wp2_with (first
   | (go_at_call 35;refine (HC.out _ (HY.out yy).dm).mono ?_;intro e4 w4 hq4;have he4 := HQ.out.ret _ _ _ hq4;subst he4))
  go_returns
  exact HQ.out.pre _ _ _ _ (HY.out yy).fr hq4
set_option maxRecDepth 100000 in
theorem jjc (h : DL s w m κ Y l f) {q x y p : Nat} {Q : World -> Ending -> World -> Prop} (hQ : Good κ Q) (hC : ∀ W,DM s W m κ (onD Y) -> Calls Tryz.prog 36 #[.pointer (some ⟨m,0,none⟩),.int .i64 x,.bool false] W (Q W)) :
 Calls Tryz.prog 19 #[.pointer (some ⟨m,0,none⟩),.agg #[.int .i64 29,.int .i64 q,.int .i64 x,.int .i64 y,.int .i64 p]] w (Q w) := by
 have HQ := jH hQ
 have HC := jH hC
 clear hQ hC
 obtain ⟨c7,z7,hml,hpc,hl,HH⟩ := jL h
 clear h
 go_enter Tryz.func19,Tryz.ntmps19
 go_upto_region 2 with fail
 generalize hW : World.alloc _ _ = W
 obtain ⟨HT,g5,p5,c5,d5,n5,hg5,hmW,gl⟩ := jK HH.out hW
 clear hW c7 z7 hml
 go_region
 have hT := HT.out.drew
 clear c5 d5 n5 hg5 hmW gl HT
 generalize W.drew = W1 at hT ⊢
 obtain ⟨e0,e1,e2,e3,e4,hwl,hmW,HT⟩ := jw hT
 clear hT
 go_wp2_with (first
  | (go_at_call 36;refine (HC.out _ HT.out.dm).mono ?_;intro e4 w4 hq4;have he4 := HQ.out.ret _ _ _ hq4;subst he4))
 go_returns
 exact HQ.out.pre _ _ _ _ HT.out.fr hq4
set_option maxRecDepth 100000 in
theorem jjb (h : DL s w m κ Y l f) {q x y p : Nat} {Q : World -> Ending -> World -> Prop} (hQ : Good κ Q) (hC : ∀ W,DM s W m κ (onD Y) -> Calls Tryz.prog 36 #[.pointer (some ⟨m,0,none⟩),.int .i64 x,.bool true] W (Q W)) :
 Calls Tryz.prog 19 #[.pointer (some ⟨m,0,none⟩),.agg #[.int .i64 31,.int .i64 q,.int .i64 x,.int .i64 y,.int .i64 p]] w (Q w) := by
 have HQ := jH hQ
 have HC := jH hC
 clear hQ hC
 obtain ⟨c7,z7,hml,hpc,hl,HH⟩ := jL h
 clear h
 go_enter Tryz.func19,Tryz.ntmps19
 go_upto_region 2 with fail
 generalize hW : World.alloc _ _ = W
 obtain ⟨HT,g5,p5,c5,d5,n5,hg5,hmW,gl⟩ := jK HH.out hW
 clear hW c7 z7 hml
 go_region
 have hT := HT.out.drew
 clear c5 d5 n5 hg5 hmW gl HT
 generalize W.drew = W1 at hT ⊢
 obtain ⟨e0,e1,e2,e3,e4,hwl,hmW,HT⟩ := jw hT
 clear hT
 go_wp2_with (first
  | (go_at_call 36;refine (HC.out _ HT.out.dm).mono ?_;intro e4 w4 hq4;have he4 := HQ.out.ret _ _ _ hq4;subst he4))
 go_returns
 exact HQ.out.pre _ _ _ _ HT.out.fr hq4
set_option maxRecDepth 100000 in
theorem jja (h : DL s w m κ Y l f) {q x y p : Nat} {Q : World -> Ending -> World -> Prop} (hQ : Good κ Q) (hC : ∀ W,DM s W m κ (onD Y) -> Calls Tryz.prog 37 #[.pointer (some ⟨m,0,none⟩)] W (Q W)) :
 Calls Tryz.prog 19 #[.pointer (some ⟨m,0,none⟩),.agg #[.int .i64 33,.int .i64 q,.int .i64 x,.int .i64 y,.int .i64 p]] w (Q w) := by
 have HQ := jH hQ
 have HC := jH hC
 clear hQ hC
 obtain ⟨c7,z7,hml,hpc,hl,HH⟩ := jL h
 clear h
 go_enter Tryz.func19,Tryz.ntmps19
 go_upto_region 2 with fail
 generalize hW : World.alloc _ _ = W
 obtain ⟨HT,g5,p5,c5,d5,n5,hg5,hmW,gl⟩ := jK HH.out hW
 clear hW c7 z7 hml
 go_region
 have hT := HT.out.drew
 clear c5 d5 n5 hg5 hmW gl HT
 generalize W.drew = W1 at hT ⊢
 obtain ⟨e0,e1,e2,e3,e4,hwl,hmW,HT⟩ := jw hT
 clear hT
 go_wp2_with (first
  | (go_at_call 37;refine (HC.out _ HT.out.dm).mono ?_;intro e4 w4 hq4;have he4 := HQ.out.ret _ _ _ hq4;subst he4))
 go_returns
 exact HQ.out.pre _ _ _ _ HT.out.fr hq4
set_option maxRecDepth 100000 in
theorem jji (h : DL s w m κ Y l f) {q x y p : Nat} {Q : World -> Ending -> World -> Prop} (hQ : Good κ Q) (hC : ∀ W,DM s W m κ (onD Y) -> Calls Tryz.prog 32 #[.pointer (some ⟨m,0,none⟩),.int .i64 q,.int .i64 x,.int .i64 (-1),.agg #[.bool false,.int .i64 0]] W (Q W)) :
 Calls Tryz.prog 19 #[.pointer (some ⟨m,0,none⟩),.agg #[.int .i64 19,.int .i64 q,.int .i64 x,.int .i64 y,.int .i64 p]] w (Q w) := by
 have HQ := jH hQ
 have HC := jH hC
 clear hQ hC
 obtain ⟨c7,z7,hml,hpc,hl,HH⟩ := jL h
 clear h
 go_enter Tryz.func19,Tryz.ntmps19
 go_upto_region 2 with fail
 generalize hW : World.alloc _ _ = W
 obtain ⟨HT,g5,p5,c5,d5,n5,hg5,hmW,gl⟩ := jK HH.out hW
 clear hW c7 z7 hml
 go_region
 have hT := HT.out.drew
 clear c5 d5 n5 hg5 hmW gl HT
 generalize W.drew = W1 at hT ⊢
 obtain ⟨e0,e1,e2,e3,e4,hwl,hmW,HT⟩ := jw hT
 clear hT
 go_wp2_with (first
  | (go_at_call 32;refine (HC.out _ HT.out.dm).mono ?_;intro e4 w4 hq4;have he4 := HQ.out.ret _ _ _ hq4;subst he4))
 go_returns
 exact HQ.out.pre _ _ _ _ HT.out.fr hq4
set_option maxRecDepth 100000 in
theorem jjg (h : DL s w m κ Y l f) {q x y p : Nat} {Q : World -> Ending -> World -> Prop} (hQ : Good κ Q) (hC : ∀ W,DM s W m κ (onD Y) -> Calls Tryz.prog 32 #[.pointer (some ⟨m,0,none⟩),.int .i64 q,.int .i64 x,.int .i64 y,.agg #[.bool false,.int .i64 0]] W (Q W)) :
 Calls Tryz.prog 19 #[.pointer (some ⟨m,0,none⟩),.agg #[.int .i64 20,.int .i64 q,.int .i64 x,.int .i64 y,.int .i64 p]] w (Q w) := by
 have HQ := jH hQ
 have HC := jH hC
 clear hQ hC
 obtain ⟨c7,z7,hml,hpc,hl,HH⟩ := jL h
 clear h
 go_enter Tryz.func19,Tryz.ntmps19
 go_upto_region 2 with fail
 generalize hW : World.alloc _ _ = W
 obtain ⟨HT,g5,p5,c5,d5,n5,hg5,hmW,gl⟩ := jK HH.out hW
 clear hW c7 z7 hml
 go_region
 have hT := HT.out.drew
 clear c5 d5 n5 hg5 hmW gl HT
 generalize W.drew = W1 at hT ⊢
 obtain ⟨e0,e1,e2,e3,e4,hwl,hmW,HT⟩ := jw hT
 clear hT
 go_wp2_with (first
  | (go_at_call 32;refine (HC.out _ HT.out.dm).mono ?_;intro e4 w4 hq4;have he4 := HQ.out.ret _ _ _ hq4;subst he4))
 go_returns
 exact HQ.out.pre _ _ _ _ HT.out.fr hq4
end Ko
end Go.Proofs.YtjmgolahkgalbaaGreatDoor
