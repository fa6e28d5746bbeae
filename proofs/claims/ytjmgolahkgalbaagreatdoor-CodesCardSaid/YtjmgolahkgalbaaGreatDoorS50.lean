import Derived.Test.YtjmgolahkgalbaaGreatDoorS35
import Derived.Test.YtjmgolahkgalbaaGreatDoorS41
set_option linter.unusedVariables false
set_option linter.unusedSimpArgs false
set_option maxHeartbeats 20000000
namespace Go.Proofs.YtjmgolahkgalbaaGreatDoor
namespace Ko
open Go.RowKit Li
set_option maxRecDepth 100000 in
theorem jci {s : ByteArray} {w : World} {m : Nat} {κ : Kp} {Y : Dt} {l : List HX} {f : HX} (h : DL s w m κ Y l f) {q x y p : Nat} {o : Int} (ho : o = 7 \/ o = 8 \/ o = 9 \/ o = 10 \/ o = 11 \/ o = 12 \/ o = 13 \/ o = 14) {u v t : V} {k : Nat} (hx : Y.regs[x]? = some u) (hy : Y.regs[y]? = some v) (hk : [u,v][k]? = some t) (ht : vb t = true) (hn : ∀ (i : Nat) (u' : V),i < k -> [u,v][i]? = some u' -> vb u' = false) :
 Calls Tryz.prog 19 #[.pointer (some ⟨m,0,none⟩),.agg #[.int .i64 o,.int .i64 q,.int .i64 x,.int .i64 y,.int .i64 p]] w (DOk s κ w m (jF (onD Y) 50 0)) := by
 have gx := gX8 h hx
 have gy := gX8 h hy
 have HX := jH hx
 have HYY := jH hy
 clear hx hy
 have HK := jH hk
 have HTT := jH ht
 have HNN := jH hn
 clear hk ht hn
 obtain ⟨c7,z7,hml,hpc,hl,HH⟩ := jL h
 clear h
 go_enter Tryz.func19,Tryz.ntmps19
 go_upto_region 2 with fail
 generalize hW : World.alloc _ _ = W
 obtain ⟨HT,g5,p5,c5,d5,n5,hg5,hmW,gl⟩ := jK HH.out hW
 clear hW c7 z7 hml
 go_region
 have hT := HT.out.drew
 clear c5 d5 n5 hg5 hmW gl HT
 generalize W.drew = W1 at hT ⊢
 obtain ⟨e0,e1,e2,e3,e4,hwl,hmW,HT⟩ := jw hT
 clear e1 e2 e3 e4
 rcases ho with rfl | rfl | rfl | rfl | rfl | rfl | rfl | rfl
 all_goals
  go_wp2
  clear e0 hwl hmW
  haveI := Wd.ne
  obtain ⟨HY,f0,f1,f2,f3,f4,hmW,hwl⟩ := Je hT
  obtain ⟨g,cap,HR,hgl,c8,r1⟩ := Jd hT.dm (show (onD Y).regs.length = 8 from HH.out.hr)
  obtain ⟨sx0,sx1⟩ := jae HR HX
  obtain ⟨sy0,sy1⟩ := jae HR HYY
  clear hT
  refine JE 18 17 169 (fun b => .slice (some ⟨b,0,none⟩) 2 2) (.cells #[.bool (vb u),.int .i64 (vi u),.bool (vb v),.int .i64 (vi v)] 89 (0,0)) _ (by kernel_rfl) (by kernel_rfl) (by kernel_rfl) (by decide) rfl rfl rfl ?_
  simp only [TkD]
  iterate 17
   apply jd (by decide) (by rfl)
   ·intro yy;go_simp;all_goals with_reducible rfl
   simp only [Act.put,SsT]
  refine Jh (by decide) (fun w => by kernel_rfl) ?_
  refine js ?_
  intro bq yy hbq hbk
  have CN := jH (jat (HY.out yy).dm (g := bq) (l := [u,v]) (jb hbk) (jdN hbk) (by simp) HK.out HTT.out HNN.out)
  have hym := (HY.out yy).dm.lt
  clear f0 f1 f2 f3 f4 r1 sx0 sx1 sy0 sy1
  go_wp2_with (first
   | (go_at_call 28;refine CN.out.mono ?_;rintro _ w2 ⟨rfl,h2,f2⟩;have HM2 := jH h2;have HF2 := jH f2;clear h2 f2))
  go_returns
  exact ⟨rfl,κ,HM2.out,Fr0.trans (HY.out yy).fr HF2.out⟩
end Ko
end Go.Proofs.YtjmgolahkgalbaaGreatDoor
namespace Go.Proofs.YtjmgolahkgalbaaGreatDoor
open Go.RowKit Li Ro
variable {s : ByteArray} {w : World}
theorem dF_end (s : ByteArray) (k : Nat) : dF s (hF s) k = [.int .i64 (r0 s k),.int .i64 (r1 s k),.int .i64 (r2 s k),.int .i64 (r3 s k),.int .i64 (en s k)] := rfl
set_option maxRecDepth 100000 in
theorem jkY {er at' : Nat} (h : res s = none) (hR : JS s = (er,at')) :
 Calls Tryz.prog 23 #[.string s] w fun e w' => e = .returned (.tuple #[.int .i64 er,.int .i64 at']) /\ Below w.heap.size w w' := by
 obtain ⟨hs1,hs2,hrow,hnum⟩ := jbw h
 have hFl : hF s < 65536 := ju _ _
 have hLl : hL s < 65536 := ju _ _
 have HRD : Hid (Calls Tryz.prog 24 #[.string s] w fun e w' => ∃ p gF cF' vN vL,e = .returned (.tuple #[.pointer (some ⟨p,0,none⟩),.int .i64 0,.int .i64 0]) /\ w.heap.size <= p /\ J1 s w' p (.slice (some ⟨gF,0,none⟩) (hF s) cF') vN vL /\ gF < w'.heap.size /\ hF s <= cF' /\ Below w.heap.size w w') := by
  refine (jem (w := w) h).mono ?_
  rintro e w' ⟨p,vF,vN,vL,he,hp,hat,hb⟩
  have hF0 := (jco hs2).2.2.1
  obtain ⟨g,c,rfl,hg1,hg2,hg3,hg4⟩ := jaf hat.funs (by omega)
  exact ⟨p,g,c,vN,vL,he,hp,hat,hg2,hg3,hb⟩
 have HROW := jH hrow
 have HR := jH hR
 clear h hR hrow hnum hs2
 go_enter Tryz.func23,Tryz.ntmps23
 go_wp2_with (go_at_call 24;refine HRD.out.mono ?_;rintro _ w1 ⟨p,gF,cF',vN,vL,rfl,hp,hat,hg2,hg3,hb1⟩;have HAT := jH hat;have HB1 := jH hb1;clear hat hb1)
 have HC : Hid (∀ (W : World) (k : Nat),Below w1.heap.size w1 W -> k < hF s -> W.cell? ⟨p,0,none⟩ = some (.slice (some ⟨gF,0,none⟩) (hF s) cF') /\ W.cell? ⟨gF,k * 5,none⟩ = some (.int .i64 (r0 s k)) /\ W.cell? ⟨gF,k * 5 + 1,none⟩ = some (.int .i64 (r1 s k)) /\ W.cell? ⟨gF,k * 5 + 2,none⟩ = some (.int .i64 (r2 s k)) /\ W.cell? ⟨gF,k * 5 + 3,none⟩ = some (.int .i64 (r3 s k)) /\ W.cell? ⟨gF,k * 5 + 4,none⟩ = some (.int .i64 (en s k))) := fun W k hW hk => by
  have hc : ∀ o v,o < 5 -> (dF s (hF s) k)[o]? = some v -> W.cell? ⟨gF,k * 5 + o,none⟩ = some v := fun o v ho hv => by
   rw [hW.cell (p := ⟨gF,k * 5 + o,none⟩) hg2,HAT.out.funs.cellAt (k * 5 + o) (by omega)]
   exact (Jq (jai s _) ho (hF s) hk).trans hv
  exact ⟨ja (jc HAT.out.blk hW (lt_of_block HAT.out.blk)) 0 rfl,hc 0 _ (by omega) rfl,hc 1 _ (by omega) rfl,hc 2 _ (by omega) rfl,hc 3 _ (by omega) rfl,hc 4 _ (by omega) rfl⟩
 have HP0 : Hid (∀ W,Below w1.heap.size w1 W -> W.cell? ⟨p,0,none⟩ = some (.slice (some ⟨gF,0,none⟩) (hF s) cF')) := fun W hW => ja (jc HAT.out.blk hW (lt_of_block HAT.out.blk)) 0 rfl
 go_loopg [7] (hF s) (fun gh s7 (wr : World) => ∃ k : Nat,k <= hF s /\ gh = hF s - k /\ s7 = .int .i64 k /\ jz (opK s) (hF s - k) k = jz (opK s) (hF s) 0 /\ Below w1.heap.size w1 wr)
 case atStart => exact ⟨0,by omega,rfl,rfl,rfl,jB⟩
 case round =>
  obtain ⟨wk,rfl⟩ : ∃ wk,wk = wr := ⟨_,rfl⟩
  obtain ⟨k,hk,hgk,rfl,hsc,hbk⟩ := hrel
  have HSC := jH hsc
  have HBK := jH hbk
  have a0 := HP0.out _ hbk
  clear hsc hbk
  by_cases hlt : k < hF s
  ·obtain ⟨_,c0,c1,c2,c3,c4⟩ := HC.out _ k HBK.out hlt
   obtain ⟨he1,he2⟩ := jal HROW.out hlt
   have hr0 : r0 s k < 65536 := ju _ _
   have z1 : (k : Int) < ((hF s : Nat) : Int) := by omega
   go_wp2_with fail
   go_loopg [8] (en s k - r0 s k) (fun gh s8 (wr : World) => ∃ pc : Nat,r0 s k <= pc /\ pc <= en s k /\ gh = en s k - pc /\ s8 = .int .i64 pc /\ bad (wlL s k) (en s k - pc) pc = opK s k /\ Below w1.heap.size w1 wr)
   case atStart => exact ⟨r0 s k,jN,Nat.le_of_lt he1,rfl,rfl,rfl,HBK.out⟩
   case round =>
    obtain ⟨wq,rfl⟩ : ∃ wq,wq = wr := ⟨_,rfl⟩
    obtain ⟨pc,hp1,hp2,hgp,rfl,hbd,hbq⟩ := hrel
    have HBD := jH hbd
    have HBQ := jH hbq
    obtain ⟨b0',b1',b2',b3',b4',b5'⟩ := HC.out _ k hbq hlt
    clear hbd hbq
    by_cases hlt2 : pc < en s k
    ·obtain ⟨Rj,hRj⟩ : ∃ Rj,wlL s k pc = Rj := ⟨_,rfl⟩
     have CM : Hid (Calls Tryz.prog 46 #[.pointer (some ⟨p,0,none⟩),.int .i64 pc,.agg #[.int .i64 (r0 s k),.int .i64 (r1 s k),.int .i64 (r2 s k),.int .i64 (r3 s k),.int .i64 (en s k)]] wq fun e w' => e = .returned (.bool Rj) /\ Below wq.heap.size wq w') := jiK (HAT.out.on HBQ.out) (by omega) (by omega) hRj
     have z2 : (pc : Int) < (en s k : Int) := by omega
     cases Rj with
     | true =>
       have HNX : Hid (bad (wlL s k) (en s k - (pc + 1)) (pc + 1) = opK s k) := by
        have h := HBD.out
        rw [show en s k - pc = (en s k - (pc + 1)) + 1 by omega,bad,if_pos hRj] at h
        exact h
       clear hRj
       go_wp2_with (go_at_call 46;refine CM.out.mono ?_;rintro _ w4 ⟨rfl,hb4⟩)
       go_roundg (en s k - (pc + 1))
       case measure => omega
       case rel => exact ⟨pc + 1,by omega,by omega,rfl,by go_num,HNX.out,HBQ.out.trans (hb4.mono HBQ.out.size)⟩
     | false =>
       have HRE : Hid (er = 11 /\ at' = pc) := by
        have h := HBD.out
        rw [show en s k - pc = (en s k - (pc + 1)) + 1 by omega,bad,if_neg (by rw [hRj];decide)] at h
        have h2 := HSC.out
        rw [show hF s - k = (hF s - (k + 1)) + 1 by omega,jz,<- h] at h2
        have h3 := HR.out
        unfold JS at h3
        rw [<- h2] at h3
        exact ⟨(congrArg Prod.fst h3).symm,(congrArg Prod.snd h3).symm⟩
       clear hRj
       go_wp2_with (go_at_call 46;refine CM.out.mono ?_;rintro _ w4 ⟨rfl,hb4⟩)
       go_ret2
       obtain ⟨e1,e2⟩ := HRE.out
       subst e1 e2
       exact ⟨rfl,HB1.out.trans ((HBQ.out.trans (hb4.mono HBQ.out.size)).mono HB1.out.size)⟩
    ·have HNX : Hid (jz (opK s) (hF s - (k + 1)) (k + 1) = jz (opK s) (hF s) 0) := by
      have h := HSC.out
      have h2 := HBD.out
      rw [show en s k - pc = 0 by omega] at h2
      rw [show hF s - k = (hF s - (k + 1)) + 1 by omega,jz,<- h2] at h
      exact h
     have z2 : ¬ (pc : Int) < (en s k : Int) := by omega
     go_wp2_with fail
     go_roundg (hF s - (k + 1))
     case measure => omega
     case rel => exact ⟨k + 1,by omega,rfl,by go_num,HNX.out,HBQ.out⟩
  ·have HOP : Hid (jz (opK s) (hF s) 0 = none) := by
    have h := HSC.out
    rw [show hF s - k = 0 by omega] at h
    exact h.symm
   have z1 : ¬ (k : Int) < ((hF s : Nat) : Int) := by omega
   go_wp2_with fail
   go_loopg [10] (hF s) (fun gh s10 (wr : World) => ∃ q : Nat,q <= hF s /\ gh = hF s - q /\ s10 = .int .i64 q /\ jz (flK s) (hF s - q) q = jz (flK s) (hF s) 0 /\ Below w1.heap.size w1 wr)
   case atStart => exact ⟨0,by omega,rfl,rfl,rfl,HBK.out⟩
   case round =>
    obtain ⟨wq,rfl⟩ : ∃ wq,wq = wr := ⟨_,rfl⟩
    obtain ⟨q,hq,hgq,rfl,hsq,hbq⟩ := hrel
    have HSQ := jH hsq
    have HBQ := jH hbq
    have a1 := HP0.out _ hbq
    clear hsq hbq
    by_cases hlt2 : q < hF s
    ·obtain ⟨_,c0,c1,c2,c3,c4⟩ := HC.out _ q HBQ.out hlt2
     have z2 : (q : Int) < ((hF s : Nat) : Int) := by omega
     have CF := jH (jj5 (HAT.out.on HBQ.out) HROW.out hlt2 (fun pc h1 h2 => Wl.of (jay _ _ (jbu _ _ HOP.out q (by omega) (by omega)) pc (by omega) (by omega))))
     cases hfl : flR s q with
     | none =>
       rw [hfl] at CF
       have CF2 : Hid (Calls Tryz.prog 47 #[.pointer (some ⟨p,0,none⟩),.agg #[.int .i64 (r0 s q),.int .i64 (r1 s q),.int .i64 (r2 s q),.int .i64 (r3 s q),.int .i64 (en s q)],.int .i64 q] wq fun e w' => e = .returned (.int .i64 (-1)) /\ Below wq.heap.size wq w') := CF.out
       have HNX : Hid (jz (flK s) (hF s - (q + 1)) (q + 1) = jz (flK s) (hF s) 0) := by
        have h := HSQ.out
        rw [show hF s - q = (hF s - (q + 1)) + 1 by omega,jz,jcx,hfl] at h
        exact h
       clear CF hfl
       go_wp2_with (go_at_call 47;refine CF2.out.mono ?_;rintro _ w4 ⟨rfl,hb4⟩)
       go_roundg (hF s - (q + 1))
       case measure => omega
       case rel => exact ⟨q + 1,by omega,rfl,by go_num,HNX.out,HBQ.out.trans (hb4.mono HBQ.out.size)⟩
     | some i =>
       rw [hfl] at CF
       have CF2 : Hid (Calls Tryz.prog 47 #[.pointer (some ⟨p,0,none⟩),.agg #[.int .i64 (r0 s q),.int .i64 (r1 s q),.int .i64 (r2 s q),.int .i64 (r3 s q),.int .i64 (en s q)],.int .i64 q] wq fun e w' => e = .returned (.int .i64 ((r0 s q + i : Nat) : Int)) /\ Below wq.heap.size wq w') := CF.out
       have HRE : Hid (er = 12 /\ at' = r0 s q + i) := by
        have h2 := HSQ.out
        rw [show hF s - q = (hF s - (q + 1)) + 1 by omega,jz,jcx,hfl] at h2
        have h3 := HR.out
        unfold JS at h3
        rw [HOP.out,<- h2] at h3
        exact ⟨(congrArg Prod.fst h3).symm,(congrArg Prod.snd h3).symm⟩
       clear CF hfl
       generalize r0 s q + i = ln at *
       have hln : (0 : Int) <= (ln : Int) := by omega
       go_wp2_with (go_at_call 47;refine CF2.out.mono ?_;rintro _ w4 ⟨rfl,hb4⟩)
       go_ret2
       obtain ⟨e1,e2⟩ := HRE.out
       subst e1 e2
       exact ⟨rfl,HB1.out.trans ((HBQ.out.trans (hb4.mono HBQ.out.size)).mono HB1.out.size)⟩
    ·have HRE : Hid (er = 0 /\ at' = 0) := by
      have h2 := HSQ.out
      rw [show hF s - q = 0 by omega] at h2
      have h3 := HR.out
      unfold JS at h3
      rw [HOP.out,<- h2] at h3
      exact ⟨(congrArg Prod.fst h3).symm,(congrArg Prod.snd h3).symm⟩
     have z2 : ¬ (q : Int) < ((hF s : Nat) : Int) := by omega
     go_wp2_with fail
     go_ret2
     obtain ⟨e1,e2⟩ := HRE.out
     subst e1 e2
     exact ⟨rfl,HB1.out.trans (HBQ.out.mono HB1.out.size)⟩
set_option maxRecDepth 100000 in
theorem jkZ {er at' : Nat} (hs : s.size <= 1073741824) (h : res s = some (er,at')) :
 Calls Tryz.prog 23 #[.string s] w fun e w' => e = .returned (.tuple #[.int .i64 er,.int .i64 at']) /\ Below w.heap.size w w' := by
 have HR := jH (jhG (w := w) hs h)
 have hne : ((er : Int) != 0) = true := by have := jeh h;simp;omega
 clear h
 go_enter Tryz.func23,Tryz.ntmps23
 go_wp2_with (go_at_call 24;refine HR.out.mono ?_;rintro _ w1 ⟨rfl,hb1⟩)
 go_ret2
 exact ⟨rfl,hb1⟩
theorem jfq (hs : s.size <= 1073741824) : jms s := fun W => by
 cases h : res s with
 | none => rw [jdB h];exact jkY h rfl
 | some p => obtain ⟨er,at'⟩ := p;rw [jfA h];exact jkZ hs h
end Go.Proofs.YtjmgolahkgalbaaGreatDoor
