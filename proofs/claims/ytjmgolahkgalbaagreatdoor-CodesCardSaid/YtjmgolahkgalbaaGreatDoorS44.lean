import Derived.Test.YtjmgolahkgalbaaGreatDoorS35
set_option linter.unusedVariables false
set_option linter.unusedSimpArgs false
set_option maxHeartbeats 20000000
namespace Go.Proofs.YtjmgolahkgalbaaGreatDoor
namespace Ko
open Go.RowKit Li
set_option maxRecDepth 100000 in
theorem jdg {s : ByteArray} {w : World} {m : Nat} {κ : Kp} {Y : Dt} {l : List HX} {f : HX} (h : DL s w m κ Y l f) {q x y p : Nat} {o : Int} (ho : o = 7 \/ o = 8 \/ o = 9 \/ o = 10 \/ o = 11 \/ o = 12 \/ o = 13 \/ o = 14) {a b : Int} (hx : Y.regs[x]? = some (.n a)) (hy : Y.regs[y]? = some (.n b)) {Q : World -> Ending -> World -> Prop} (hQ : Good κ Q) (hC : ∀ W,DM s W m κ (onD Y) -> Calls Tryz.prog 29 #[.pointer (some ⟨m,0,none⟩),.agg #[.int .i64 o,.int .i64 q,.int .i64 x,.int .i64 y,.int .i64 p],.int .i64 a,.int .i64 b] W (Q W)) :
 Calls Tryz.prog 19 #[.pointer (some ⟨m,0,none⟩),.agg #[.int .i64 o,.int .i64 q,.int .i64 x,.int .i64 y,.int .i64 p]] w (Q w) := by
 have gx := gX8 h hx
 have gy := gX8 h hy
 have HX := jH hx
 have HYY := jH hy
 have HQ := jH hQ
 have HC := jH hC
 clear hQ hC hx hy
 obtain ⟨c7,z7,hml,hpc,hl,HH⟩ := jL h
 clear h
 go_enter Tryz.func19,Tryz.ntmps19
 go_upto_region 2 with fail
 generalize hW : World.alloc _ _ = W
 obtain ⟨HT,g5,p5,c5,d5,n5,hg5,hmW,gl⟩ := jK HH.out hW
 clear hW c7 z7 hml
 go_region
 have hT := HT.out.drew
 clear c5 d5 n5 hg5 hmW gl HT
 generalize W.drew = W1 at hT ⊢
 obtain ⟨e0,e1,e2,e3,e4,hwl,hmW,HT⟩ := jw hT
 clear e1 e2 e3 e4
 rcases ho with rfl | rfl | rfl | rfl | rfl | rfl | rfl | rfl
 all_goals
  go_wp2
  clear e0 hwl hmW
  haveI := Wd.ne
  obtain ⟨HY,f0,f1,f2,f3,f4,hmW,hwl⟩ := Je hT
  obtain ⟨g,cap,HR,hgl,c8,r1⟩ := Jd hT.dm (show (onD Y).regs.length = 8 from HH.out.hr)
  obtain ⟨sx0,sx1⟩ := JW HR HX
  obtain ⟨sy0,sy1⟩ := JW HR HYY
  clear hT
  refine JE 18 17 169 (fun b => .slice (some ⟨b,0,none⟩) 2 2) (.cells #[.bool false,.int .i64 a,.bool false,.int .i64 b] 89 (0,0)) _ (by kernel_rfl) (by kernel_rfl) (by kernel_rfl) (by decide) rfl rfl rfl ?_
  simp only [TkD]
  iterate 17
   apply jd (by decide) (by rfl)
   ·intro yy;go_simp;all_goals with_reducible rfl
   simp only [Act.put,SsT]
  refine Jh (by decide) (fun w => by kernel_rfl) ?_
  refine js ?_
  intro bq yy hbq hbk
  have CN := jif (HY.out yy) hbk
  have hT2 := HY.out yy
  clear f0 f1 f2 f3 f4 r1 sx0 sx1 sy0 sy1 HR hgl c8 hmW hwl hbk hbq HY HT
  obtain ⟨W2,hW2⟩ : ∃ W2,yy.v = W2 := ⟨_,rfl⟩
  rw [hW2] at CN hT2 ⊢
  clear hW2
  obtain ⟨hym,hyw,HT2⟩ := jaG hT2
  clear hT2
  go_upto_region 27 with (first
   | (go_at_call 28;refine CN.out.mono ?_;rintro _ w2 ⟨rfl,h2⟩;have h2 := h2.symm;subst h2))
  have hT2 := HT2.out
  clear HT2 CN hym hyw
  haveI := Wd.ne
  obtain ⟨HY,f0,f1,f2,f3,f4,hmW,hwl⟩ := Je hT2
  obtain ⟨g,cap,HR,hgl,c8,r1⟩ := Jd hT2.dm (show (onD Y).regs.length = 8 from HH.out.hr)
  obtain ⟨sx0,sx1⟩ := JW HR HX
  obtain ⟨sy0,sy1⟩ := JW HR HYY
  clear hT2
  refine jP 20 21 (by kernel_rfl) (by kernel_rfl) (by decide) ?_
  simp only [TkD]
  iterate 20
   apply jd (by decide) (by rfl)
   ·intro zz;go_simp;all_goals with_reducible rfl
   simp only [Act.put,SsT]
  refine js ?_
  intro zz
  go_wp2_with (first
   | (go_at_call 29;refine (HC.out _ (HY.out zz).dm).mono ?_;intro e4 w4 hq4;have he4 := HQ.out.ret _ _ _ hq4;subst he4))
  go_returns
  exact HQ.out.pre _ _ _ _ (HY.out zz).fr hq4
end Ko
end Go.Proofs.YtjmgolahkgalbaaGreatDoor
