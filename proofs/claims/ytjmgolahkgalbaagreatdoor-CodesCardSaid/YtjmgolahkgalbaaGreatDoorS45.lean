import Derived.Test.YtjmgolahkgalbaaGreatDoorS35
set_option linter.unusedVariables false
set_option linter.unusedSimpArgs false
set_option maxHeartbeats 20000000
namespace Go.Proofs.YtjmgolahkgalbaaGreatDoor
namespace Ko
open Go.RowKit Li
variable {s : ByteArray} {w : World} {m : Nat}
variable {κ : Kp} {Y : Dt} {l : List HX} {f : HX}
set_option maxRecDepth 100000 in
theorem ji6 (h : DL s w m κ Y l f) {q x y p : Nat} {u t : V} {k : Nat} (hx : Y.regs[x]? = some u) (hk : [u][k]? = some t) (ht : vb t = true) (hn : ∀ (i : Nat) (u' : V),i < k -> [u][i]? = some u' -> vb u' = false) :
 Calls Tryz.prog 19 #[.pointer (some ⟨m,0,none⟩),.agg #[.int .i64 15,.int .i64 q,.int .i64 x,.int .i64 y,.int .i64 p]] w (DOk s κ w m (jF (onD Y) 50 0)) := by
 have gx := gX8 h hx
 have HX := jH hx
 clear hx
 have HK := jH hk
 have HTT := jH ht
 have HNN := jH hn
 clear hk ht hn
 obtain ⟨c7,z7,hml,hpc,hl,HH⟩ := jL h
 clear h
 go_enter Tryz.func19,Tryz.ntmps19
 go_upto_region 2 with fail
 generalize hW : World.alloc _ _ = W
 obtain ⟨HT,g5,p5,c5,d5,n5,hg5,hmW,gl⟩ := jK HH.out hW
 clear hW c7 z7 hml
 go_region
 have hT := HT.out.drew
 clear c5 d5 n5 hg5 hmW gl HT
 generalize W.drew = W1 at hT ⊢
 obtain ⟨e0,e1,e2,e3,e4,hwl,hmW,HT⟩ := jw hT
 clear e1 e2 e3 e4
 go_wp2
 clear e0 hwl hmW
 haveI := Wd.ne
 obtain ⟨HY,f0,f1,f2,f3,f4,hmW,hwl⟩ := Je hT
 obtain ⟨g,cap,HR,hgl,c8,r1⟩ := Jd hT.dm (show (onD Y).regs.length = 8 from HH.out.hr)
 obtain ⟨sx0,sx1⟩ := jae HR HX
 clear hT
 refine JE 10 9 204 (fun b => .slice (some ⟨b,0,none⟩) 1 1) (.cells #[.bool (vb u),.int .i64 (vi u)] 89 (0,0)) _ (by kernel_rfl) (by kernel_rfl) (by kernel_rfl) (by decide) rfl rfl rfl ?_
 simp only [TkD]
 iterate 9
  apply jd (by decide) (by rfl)
  ·intro yy;go_simp;all_goals with_reducible rfl
  simp only [Act.put,SsT]
 refine Jh (by decide) (fun w => by kernel_rfl) ?_
 refine js ?_
 intro bq yy hbq hbk
 have CN := jH (jat (HY.out yy).dm (g := bq) (l := [u]) (jb hbk) (ja4 hbk) (by simp) HK.out HTT.out HNN.out)
 have hym := (HY.out yy).dm.lt
 clear f0 f1 f2 f3 f4 r1 sx0 sx1
 go_wp2_with (first
  | (go_at_call 28;refine CN.out.mono ?_;rintro _ w2 ⟨rfl,h2,f2⟩;have HM2 := jH h2;have HF2 := jH f2;clear h2 f2))
 go_returns
 exact ⟨rfl,κ,HM2.out,Fr0.trans (HY.out yy).fr HF2.out⟩
set_option maxRecDepth 100000 in
theorem ji5 (h : DL s w m κ Y l f) {q x y p : Nat} {u t : V} {k : Nat} (hx : Y.regs[x]? = some u) (hk : [u][k]? = some t) (ht : vb t = true) (hn : ∀ (i : Nat) (u' : V),i < k -> [u][i]? = some u' -> vb u' = false) :
 Calls Tryz.prog 19 #[.pointer (some ⟨m,0,none⟩),.agg #[.int .i64 16,.int .i64 q,.int .i64 x,.int .i64 y,.int .i64 p]] w (DOk s κ w m (jF (onD Y) 50 0)) := by
 have gx := gX8 h hx
 have HX := jH hx
 clear hx
 have HK := jH hk
 have HTT := jH ht
 have HNN := jH hn
 clear hk ht hn
 obtain ⟨c7,z7,hml,hpc,hl,HH⟩ := jL h
 clear h
 go_enter Tryz.func19,Tryz.ntmps19
 go_upto_region 2 with fail
 generalize hW : World.alloc _ _ = W
 obtain ⟨HT,g5,p5,c5,d5,n5,hg5,hmW,gl⟩ := jK HH.out hW
 clear hW c7 z7 hml
 go_region
 have hT := HT.out.drew
 clear c5 d5 n5 hg5 hmW gl HT
 generalize W.drew = W1 at hT ⊢
 obtain ⟨e0,e1,e2,e3,e4,hwl,hmW,HT⟩ := jw hT
 clear e1 e2 e3 e4
 go_wp2
 clear e0 hwl hmW
 haveI := Wd.ne
 obtain ⟨HY,f0,f1,f2,f3,f4,hmW,hwl⟩ := Je hT
 obtain ⟨g,cap,HR,hgl,c8,r1⟩ := Jd hT.dm (show (onD Y).regs.length = 8 from HH.out.hr)
 obtain ⟨sx0,sx1⟩ := jae HR HX
 clear hT
 refine JE 10 9 236 (fun b => .slice (some ⟨b,0,none⟩) 1 1) (.cells #[.bool (vb u),.int .i64 (vi u)] 89 (0,0)) _ (by kernel_rfl) (by kernel_rfl) (by kernel_rfl) (by decide) rfl rfl rfl ?_
 simp only [TkD]
 iterate 9
  apply jd (by decide) (by rfl)
  ·intro yy;go_simp;all_goals with_reducible rfl
  simp only [Act.put,SsT]
 refine Jh (by decide) (fun w => by kernel_rfl) ?_
 refine js ?_
 intro bq yy hbq hbk
 have CN := jH (jat (HY.out yy).dm (g := bq) (l := [u]) (jb hbk) (ja4 hbk) (by simp) HK.out HTT.out HNN.out)
 have hym := (HY.out yy).dm.lt
 clear f0 f1 f2 f3 f4 r1 sx0 sx1
 go_wp2_with (first
  | (go_at_call 28;refine CN.out.mono ?_;rintro _ w2 ⟨rfl,h2,f2⟩;have HM2 := jH h2;have HF2 := jH f2;clear h2 f2))
 go_returns
 exact ⟨rfl,κ,HM2.out,Fr0.trans (HY.out yy).fr HF2.out⟩
set_option maxRecDepth 100000 in
theorem ji4 (h : DL s w m κ Y l f) {q x y p : Nat} {u t : V} {k : Nat} (hx : Y.regs[q]? = some u) (hk : [u][k]? = some t) (ht : vb t = true) (hn : ∀ (i : Nat) (u' : V),i < k -> [u][i]? = some u' -> vb u' = false) :
 Calls Tryz.prog 19 #[.pointer (some ⟨m,0,none⟩),.agg #[.int .i64 18,.int .i64 q,.int .i64 x,.int .i64 y,.int .i64 p]] w (DOk s κ w m (jF (onD Y) 50 0)) := by
 have gq := gX8 h hx
 have HX := jH hx
 clear hx
 have HK := jH hk
 have HTT := jH ht
 have HNN := jH hn
 clear hk ht hn
 obtain ⟨c7,z7,hml,hpc,hl,HH⟩ := jL h
 clear h
 go_enter Tryz.func19,Tryz.ntmps19
 go_upto_region 2 with fail
 generalize hW : World.alloc _ _ = W
 obtain ⟨HT,g5,p5,c5,d5,n5,hg5,hmW,gl⟩ := jK HH.out hW
 clear hW c7 z7 hml
 go_region
 have hT := HT.out.drew
 clear c5 d5 n5 hg5 hmW gl HT
 generalize W.drew = W1 at hT ⊢
 obtain ⟨e0,e1,e2,e3,e4,hwl,hmW,HT⟩ := jw hT
 clear e1 e2 e3 e4
 go_wp2
 clear e0 hwl hmW
 haveI := Wd.ne
 obtain ⟨HY,f0,f1,f2,f3,f4,hmW,hwl⟩ := Je hT
 obtain ⟨g,cap,HR,hgl,c8,r1⟩ := Jd hT.dm (show (onD Y).regs.length = 8 from HH.out.hr)
 obtain ⟨sq0,sq1⟩ := jae HR HX
 clear hT
 refine JE 10 9 276 (fun b => .slice (some ⟨b,0,none⟩) 1 1) (.cells #[.bool (vb u),.int .i64 (vi u)] 89 (0,0)) _ (by kernel_rfl) (by kernel_rfl) (by kernel_rfl) (by decide) rfl rfl rfl ?_
 simp only [TkD]
 iterate 9
  apply jd (by decide) (by rfl)
  ·intro yy;go_simp;all_goals with_reducible rfl
  simp only [Act.put,SsT]
 refine Jh (by decide) (fun w => by kernel_rfl) ?_
 refine js ?_
 intro bq yy hbq hbk
 have CN := jH (jat (HY.out yy).dm (g := bq) (l := [u]) (jb hbk) (ja4 hbk) (by simp) HK.out HTT.out HNN.out)
 have hym := (HY.out yy).dm.lt
 clear f0 f1 f2 f3 f4 r1 sq0 sq1
 go_wp2_with (first
  | (go_at_call 28;refine CN.out.mono ?_;rintro _ w2 ⟨rfl,h2,f2⟩;have HM2 := jH h2;have HF2 := jH f2;clear h2 f2))
 go_region
 go_wp2
 go_returns
 exact JC HM2.out (Fr0.trans (HY.out yy).fr HF2.out) jB.drew
set_option maxRecDepth 100000 in
theorem jjl (h : DL s w m κ Y l f) {q x y p : Nat} {a : Int} (hq : q < 8) (hx : Y.regs[x]? = some (.n a)) (ha : inR a) :
 Calls Tryz.prog 19 #[.pointer (some ⟨m,0,none⟩),.agg #[.int .i64 15,.int .i64 q,.int .i64 x,.int .i64 y,.int .i64 p]] w (DOk s κ w m (rgS (onD Y) q (.n (w63 (-a))))) := by
 unfold inR at ha
 have hwr : IntKind.i64.wrap (-a) = -a := by rw [jbn];unfold wrap64;omega
 obtain ⟨na,hna⟩ : ∃ na,-a = na := ⟨_,rfl⟩
 rw [hna] at hwr
 have C1 : Hid (jD 30 #[.int .i64 na] (.agg #[.bool false,.int .i64 (w63 na)])) := fun W' => jc9 (by omega) W'
 rw [hna]
 have gq : (q : Int) < 8 := by omega
 have gx := gX8 h hx
 have HX := jH hx
 clear hx
 obtain ⟨c7,z7,hml,hpc,hl,HH⟩ := jL h
 clear h
 go_enter Tryz.func19,Tryz.ntmps19
 go_upto_region 2 with fail
 generalize hW : World.alloc _ _ = W
 obtain ⟨HT,g5,p5,c5,d5,n5,hg5,hmW,gl⟩ := jK HH.out hW
 clear hW c7 z7 hml
 go_region
 have hT := HT.out.drew
 clear c5 d5 n5 hg5 hmW gl HT
 generalize W.drew = W1 at hT ⊢
 obtain ⟨e0,e1,e2,e3,e4,hwl,hmW,HT⟩ := jw hT
 clear e1 e2 e3 e4
 go_wp2
 clear e0 hwl hmW
 haveI := Wd.ne
 obtain ⟨HY,f0,f1,f2,f3,f4,hmW,hwl⟩ := Je hT
 obtain ⟨g,cap,HR,hgl,c8,r1⟩ := Jd hT.dm (show (onD Y).regs.length = 8 from HH.out.hr)
 obtain ⟨sx0,sx1⟩ := JW HR HX
 clear hT
 refine JE 10 9 204 (fun b => .slice (some ⟨b,0,none⟩) 1 1) (.cells #[.bool false,.int .i64 a] 89 (0,0)) _ (by kernel_rfl) (by kernel_rfl) (by kernel_rfl) (by decide) rfl rfl rfl ?_
 simp only [TkD]
 iterate 9
  apply jd (by decide) (by rfl)
  ·intro yy;go_simp;all_goals with_reducible rfl
  simp only [Act.put,SsT]
 refine Jh (by decide) (fun w => by kernel_rfl) ?_
 refine js ?_
 intro bq yy hbq hbk
 have CN := jaT (HY.out yy) hbk
 have hT2 := HY.out yy
 clear f0 f1 f2 f3 f4 r1 sx0 sx1 HR hgl c8 hmW hwl hbk hbq HY HT
 obtain ⟨W2,hW2⟩ : ∃ W2,yy.v = W2 := ⟨_,rfl⟩
 rw [hW2] at CN hT2 ⊢
 clear hW2
 obtain ⟨hym,hyw,HT2⟩ := jaG hT2
 clear hT2
 go_upto_region 31 with (first
  | (go_at_call 28;refine CN.out.mono ?_;rintro _ w2 ⟨rfl,h2⟩;have h2 := h2.symm;subst h2))
 have hT2 := HT2.out
 clear HT2 CN hym hyw
 haveI := Wd.ne
 obtain ⟨HY,f0,f1,f2,f3,f4,hmW,hwl⟩ := Je hT2
 obtain ⟨g,cap,HR,hgl,c8,r1⟩ := Jd hT2.dm (show (onD Y).regs.length = 8 from HH.out.hr)
 obtain ⟨sx0,sx1⟩ := JW HR HX
 clear hT2
 refine jP 18 19 (by kernel_rfl) (by kernel_rfl) (by decide) ?_
 simp only [TkD]
 iterate 16
  apply jd (by decide) (by rfl)
  ·intro zz;go_simp;all_goals with_reducible rfl
  simp only [Act.put,SsT]
 refine jd (by decide) (by rfl) (v := ?z16) ?hz16 ?_
 case hz16 => (intro zz;go_simp;exact C1.out _)
 simp only [Act.put,SsT]
 refine jd (by decide) (by rfl) (v := ?z17) ?hz17 ?_
 case hz17 => (intro zz;go_simp;all_goals with_reducible rfl)
 simp only [Act.put,SsT]
 refine js ?_
 intro zz
 obtain ⟨_,_,k1,d0,d1,z0',z1',HK7,hgy⟩ := jc0 HR (show (onD Y).regs.length = 8 from HH.out.hr) (v := (.n (w63 na))) hq zz
 clear f0 f1 f2 f3 f4 r1 sx0 sx1
 go_wp2
 go_returns
 exact JC HK7.out.1 (Fr0.trans (HY.out zz).fr HK7.out.2) jB
set_option maxRecDepth 100000 in
theorem jjk (h : DL s w m κ Y l f) {q x y p : Nat} {a : Int} (hq : q < 8) (hx : Y.regs[x]? = some (.n a)) :
 Calls Tryz.prog 19 #[.pointer (some ⟨m,0,none⟩),.agg #[.int .i64 16,.int .i64 q,.int .i64 x,.int .i64 y,.int .i64 p]] w (DOk s κ w m (rgS (onD Y) q (.n (tru (a == 0))))) := by
 obtain ⟨cb,hcb⟩ : ∃ cb,(a == 0) = cb := ⟨_,rfl⟩
 have C1 : Hid (jD 31 #[.bool cb] (.int .i64 (tru cb))) := fun W' => (jdJ cb W').mono fun e w' ⟨h1,h2⟩ => ⟨h1,by rw [h2];exact jB⟩
 rw [hcb]
 have gq : (q : Int) < 8 := by omega
 have gx := gX8 h hx
 have HX := jH hx
 clear hx
 obtain ⟨c7,z7,hml,hpc,hl,HH⟩ := jL h
 clear h
 go_enter Tryz.func19,Tryz.ntmps19
 go_upto_region 2 with fail
 generalize hW : World.alloc _ _ = W
 obtain ⟨HT,g5,p5,c5,d5,n5,hg5,hmW,gl⟩ := jK HH.out hW
 clear hW c7 z7 hml
 go_region
 have hT := HT.out.drew
 clear c5 d5 n5 hg5 hmW gl HT
 generalize W.drew = W1 at hT ⊢
 obtain ⟨e0,e1,e2,e3,e4,hwl,hmW,HT⟩ := jw hT
 clear e1 e2 e3 e4
 go_wp2
 clear e0 hwl hmW
 haveI := Wd.ne
 obtain ⟨HY,f0,f1,f2,f3,f4,hmW,hwl⟩ := Je hT
 obtain ⟨g,cap,HR,hgl,c8,r1⟩ := Jd hT.dm (show (onD Y).regs.length = 8 from HH.out.hr)
 obtain ⟨sx0,sx1⟩ := JW HR HX
 clear hT
 refine JE 10 9 236 (fun b => .slice (some ⟨b,0,none⟩) 1 1) (.cells #[.bool false,.int .i64 a] 89 (0,0)) _ (by kernel_rfl) (by kernel_rfl) (by kernel_rfl) (by decide) rfl rfl rfl ?_
 simp only [TkD]
 iterate 9
  apply jd (by decide) (by rfl)
  ·intro yy;go_simp;all_goals with_reducible rfl
  simp only [Act.put,SsT]
 refine Jh (by decide) (fun w => by kernel_rfl) ?_
 refine js ?_
 intro bq yy hbq hbk
 have CN := jaT (HY.out yy) hbk
 have hT2 := HY.out yy
 clear f0 f1 f2 f3 f4 r1 sx0 sx1 HR hgl c8 hmW hwl hbk hbq HY HT
 obtain ⟨W2,hW2⟩ : ∃ W2,yy.v = W2 := ⟨_,rfl⟩
 rw [hW2] at CN hT2 ⊢
 clear hW2
 obtain ⟨hym,hyw,HT2⟩ := jaG hT2
 clear hT2
 go_upto_region 35 with (first
  | (go_at_call 28;refine CN.out.mono ?_;rintro _ w2 ⟨rfl,h2⟩;have h2 := h2.symm;subst h2))
 have hT2 := HT2.out
 clear HT2 CN hym hyw
 haveI := Wd.ne
 obtain ⟨HY,f0,f1,f2,f3,f4,hmW,hwl⟩ := Je hT2
 obtain ⟨g,cap,HR,hgl,c8,r1⟩ := Jd hT2.dm (show (onD Y).regs.length = 8 from HH.out.hr)
 obtain ⟨sx0,sx1⟩ := JW HR HX
 clear hT2
 refine jP 19 20 (by kernel_rfl) (by kernel_rfl) (by decide) ?_
 simp only [TkD]
 iterate 16
  apply jd (by decide) (by rfl)
  ·intro zz;go_simp;all_goals with_reducible rfl
  simp only [Act.put,SsT]
 refine jd (by decide) (by rfl) (v := ?z16) ?hz16 ?_
 case hz16 => (intro zz;go_simp;exact C1.out _)
 simp only [Act.put,SsT]
 iterate 2
  apply jd (by decide) (by rfl)
  ·intro zz;go_simp;all_goals with_reducible rfl
  simp only [Act.put,SsT]
 refine js ?_
 intro zz
 obtain ⟨_,_,k1,d0,d1,z0',z1',HK7,hgy⟩ := jc0 HR (show (onD Y).regs.length = 8 from HH.out.hr) (v := (.n (tru cb))) hq zz
 clear f0 f1 f2 f3 f4 r1 sx0 sx1
 go_wp2
 go_returns
 exact JC HK7.out.1 (Fr0.trans (HY.out zz).fr HK7.out.2) jB
set_option maxRecDepth 100000 in
theorem jjj (h : DL s w m κ Y l f) {q x y p : Nat}  :
 Calls Tryz.prog 19 #[.pointer (some ⟨m,0,none⟩),.agg #[.int .i64 17,.int .i64 q,.int .i64 x,.int .i64 y,.int .i64 p]] w (DOk s κ w m (pcS (onD Y) x)) := by
 obtain ⟨c7,z7,hml,hpc,hl,HH⟩ := jL h
 clear h
 go_enter Tryz.func19,Tryz.ntmps19
 go_upto_region 2 with fail
 generalize hW : World.alloc _ _ = W
 obtain ⟨HT,g5,p5,c5,d5,n5,hg5,hmW,gl⟩ := jK HH.out hW
 clear hW c7 z7 hml
 go_region
 have hT := HT.out.drew
 clear c5 d5 n5 hg5 hmW gl HT
 generalize W.drew = W1 at hT ⊢
 obtain ⟨e0,e1,e2,e3,e4,hwl,hmW,HT⟩ := jw hT
 have c7 : W1.cell? ⟨m,7,none⟩ = some (.int .i64 ((onD Y).x.pc : Nat)) := ja hT.dm.mac 7 rfl
 have z7 := je hT.dm.mac 7
 clear hT
 go_wp2
 go_returns
 obtain ⟨h1,h2⟩ := HT.out.dm.pc x
 exact ⟨rfl,κ,h1,Fr0.trans HT.out.fr h2⟩
set_option maxRecDepth 100000 in
theorem jeW (h : DL s w m κ Y l f) {q x y p : Nat} {a : Int} (hx : Y.regs[q]? = some (.n a)) :
 Calls Tryz.prog 19 #[.pointer (some ⟨m,0,none⟩),.agg #[.int .i64 18,.int .i64 q,.int .i64 x,.int .i64 y,.int .i64 p]] w (DOk s κ w m (if (a == 0) = true then pcS (onD Y) x else onD Y)) := by
 obtain ⟨cb,hcb⟩ : ∃ cb,(a == 0) = cb := ⟨_,rfl⟩
 rw [hcb]
 obtain ⟨P,hP⟩ : ∃ P,(if cb = true then pcS (onD Y) x else onD Y) = P := ⟨_,rfl⟩
 rw [hP]
 have HP := jH hP
 clear hP
 have gq := gX8 h hx
 have HX := jH hx
 clear hx
 obtain ⟨c7,z7,hml,hpc,hl,HH⟩ := jL h
 clear h
 go_enter Tryz.func19,Tryz.ntmps19
 go_upto_region 2 with fail
 generalize hW : World.alloc _ _ = W
 obtain ⟨HT,g5,p5,c5,d5,n5,hg5,hmW,gl⟩ := jK HH.out hW
 clear hW c7 z7 hml
 go_region
 have hT := HT.out.drew
 clear c5 d5 n5 hg5 hmW gl HT
 generalize W.drew = W1 at hT ⊢
 obtain ⟨e0,e1,e2,e3,e4,hwl,hmW,HT⟩ := jw hT
 clear e1 e2 e3 e4
 go_wp2
 clear e0 hwl hmW
 haveI := Wd.ne
 obtain ⟨HY,f0,f1,f2,f3,f4,hmW,hwl⟩ := Je hT
 obtain ⟨g,cap,HR,hgl,c8,r1⟩ := Jd hT.dm (show (onD Y).regs.length = 8 from HH.out.hr)
 obtain ⟨sq0,sq1⟩ := JW HR HX
 clear hT
 refine JE 10 9 276 (fun b => .slice (some ⟨b,0,none⟩) 1 1) (.cells #[.bool false,.int .i64 a] 89 (0,0)) _ (by kernel_rfl) (by kernel_rfl) (by kernel_rfl) (by decide) rfl rfl rfl ?_
 simp only [TkD]
 iterate 9
  apply jd (by decide) (by rfl)
  ·intro yy;go_simp;all_goals with_reducible rfl
  simp only [Act.put,SsT]
 refine Jh (by decide) (fun w => by kernel_rfl) ?_
 refine js ?_
 intro bq yy hbq hbk
 have CN := jaT (HY.out yy) hbk
 have hT2 := HY.out yy
 clear f0 f1 f2 f3 f4 r1 sq0 sq1 HR hgl c8 hmW hwl hbk hbq HY HT
 obtain ⟨W2,hW2⟩ : ∃ W2,yy.v = W2 := ⟨_,rfl⟩
 rw [hW2] at CN hT2 ⊢
 clear hW2
 obtain ⟨hym,hyw,HT2⟩ := jaG hT2
 clear hT2
 go_upto_region 40 with (first
  | (go_at_call 28;refine CN.out.mono ?_;rintro _ w2 ⟨rfl,h2⟩;have h2 := h2.symm;subst h2))
 have hT2 := HT2.out
 clear HT2 CN hym hyw
 obtain ⟨g,cap,_,hgl,c8,r1,r2,_⟩ := JV hT2.dm (show (onD Y).regs.length = 8 from HH.out.hr)
 obtain ⟨sq0,sq1⟩ := r2 q _ HX.out
 simp only [vb,vi] at sq0 sq1
 have e1 : W2.cell? ⟨w.heap.size,1,none⟩ = some (.int .i64 q) := ja hT2.ln 1 rfl
 have e2 : W2.cell? ⟨w.heap.size,2,none⟩ = some (.int .i64 x) := ja hT2.ln 2 rfl
 have hwl := jb hT2.ln
 have hmW := hT2.dm.lt
 have c7 : W2.cell? ⟨m,7,none⟩ = some (.int .i64 ((onD Y).x.pc : Nat)) := ja hT2.dm.mac 7 rfl
 have z7 := je hT2.dm.mac 7
 have HT := jH hT2
 clear hT2 r2
 go_region
 clear hcb
 cases cb
 ·have hP := HP.out
  rw [if_neg Bool.false_ne_true] at hP
  subst hP
  clear HP
  go_wp2
  go_returns
  exact JC HT.out.dm HT.out.fr jB.drew
 ·have hP := HP.out
  rw [if_pos rfl] at hP
  subst hP
  clear HP
  go_wp2
  go_returns
  obtain ⟨h1,h2⟩ := HT.out.dm.drew.pc x
  exact ⟨rfl,κ,h1,Fr0.trans (Fr.drew HT.out.fr) h2⟩
end Ko
end Go.Proofs.YtjmgolahkgalbaaGreatDoor
