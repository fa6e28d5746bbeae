import Derived.Test.YtmkdoejpgkgpbaaGreatDoorS33
import Derived.Test.YtmkdoejpgkgpbaaGreatDoorS34
set_option linter.unusedVariables false
set_option linter.unusedSimpArgs false
set_option maxHeartbeats 20000000
namespace Go.Proofs.YtmkdoejpgkgpbaaGreatDoor
open Go.RowKit Sl
section
variable {L : List Tok} {M : Nat} {s s' : Sg} {v : V} {q : Q} {oi : Int}
theorem do_sum (hL : L.length <= 1000) (A : Al L M) {t : Tok} {r : List Tok} {o : Nat} (hJ : Jx .sum (.ok (t :: r) o) s' v)  (hS : Sim L q oi (.ok (t :: r) o)) (hP : q.ps.length + (Sg.ok (t :: r) o).pot + 5000 * (Sg.ok (t :: r) o).g <= 85000) (hM : (Sg.ok (t :: r) o).pot + 14 < M + 1) : Does L q .sum (.ok (t :: r) o) s' v oi oi 14 40 0 := by
 have hk := hS.kind
 have hw := hS.word
 rw [pot_ok,g_ok] at hP
 rw [pot_ok] at hM
 rcases jx_inv hJ with ⟨h,_⟩ | ⟨ss,fin,r0,hx,hs,hf⟩
 ·cases h
 cases hx
 obtain ⟨v1,r1,s1,j1,hs1,rfl⟩ := sx_jb hs
 obtain ⟨n1,x1,q1,p1,g1⟩ := A.tr .prod rfl j1 hS (by rw [pot_ok,g_ok];omega) (by rw [pot_ok];simp only [jlv];omega)
 have m1 := g1.mon
 have l1 := g1.len
 have b1 := g1.bnd
 rw [pot_ok,g_ok] at b1
 simp only [jlv,jdn,jmd] at b1 p1
 have y1 := g_le s1
 have hr := sx_nil hs1
 subst hr
 simp only [res_eq,cons_res] at hf
 have f0 := hS.fine hL (by omega)
 have f1 := g1.sim.fine hL (by omega)
 rcases fx_go hf (fun hg v h => by
  obtain ⟨c1,rfl,_⟩ := g1.rep (g_good.1 hg)
  cases h) with ⟨hb,e⟩ | ⟨hg,j',h,hJ'⟩
 ·have g0 : s1.g = 0 := by
   by_cases h3 : s1.g = 1
   ·rw [g_good.2 h3] at hb;cases hb
   ·omega
  rw [e]
  obtain ⟨e',p',hst⟩ : ∃ e' p',s1 = .bad e' p' := by
   cases s1 with
   | ok _ _ => cases g0
   | bad e' p' => exact ⟨e',p',rfl⟩
  have k1 := (hst ▸ g1.sim).kind0
  refine ⟨n1 + 2,x1,q1,?_,g1.sim,g1.ext,fun h => by omega,by rw [g_ok];omega,by rw [pot_ok,g_ok];omega⟩
  have p1 := pr_up (show n1 <= n1 + 1 by omega) p1
  rw [pr,if_pos f0,pstp,p1]
  simp only [bnd,if_pos f1]
  rw [pr,if_pos f1,pstp,k1]
  simp [out,f1,cOp]
 ·have hg1 := g_good.1 hg
  obtain ⟨c1,rfl,rc1,kc1⟩ := g1.rep hg1
  cases h
  obtain ⟨n2,x2,q2,p2,g2⟩ := A.terms hJ' g1.sim rc1 kc1 hg1 (by omega) (by omega)
  have m2 := g2.mon
  have b2 := g2.bnd
  have p1 := pr_up (show n1 <= n1 + n2 by omega) p1
  have p2 := pr_up (show n2 <= n1 + n2 by omega) p2
  refine ⟨n1 + n2 + 1,x2,q2,?_,g2.sim,ext_trans g1.ext g2.ext,g2.rep,by rw [g_ok];omega,by rw [pot_ok,g_ok];omega⟩
  rw [pr,if_pos f0,pstp,p1]
  simp only [bnd,if_pos f1,p2]
theorem do_prod (hL : L.length <= 1000) (A : Al L M) {t : Tok} {r : List Tok} {o : Nat} (hJ : Jx .prod (.ok (t :: r) o) s' v)  (hS : Sim L q oi (.ok (t :: r) o)) (hP : q.ps.length + (Sg.ok (t :: r) o).pot + 5000 * (Sg.ok (t :: r) o).g <= 85000) (hM : (Sg.ok (t :: r) o).pot + 12 < M + 1) : Does L q .prod (.ok (t :: r) o) s' v oi oi 12 40 0 := by
 have hk := hS.kind
 have hw := hS.word
 rw [pot_ok,g_ok] at hP
 rw [pot_ok] at hM
 rcases jx_inv hJ with ⟨h,_⟩ | ⟨ss,fin,r0,hx,hs,hf⟩
 ·cases h
 cases hx
 obtain ⟨v1,r1,s1,j1,hs1,rfl⟩ := sx_jb hs
 obtain ⟨n1,x1,q1,p1,g1⟩ := A.tr .sign rfl j1 hS (by rw [pot_ok,g_ok];omega) (by rw [pot_ok];simp only [jlv];omega)
 have m1 := g1.mon
 have l1 := g1.len
 have b1 := g1.bnd
 rw [pot_ok,g_ok] at b1
 simp only [jlv,jdn,jmd] at b1 p1
 have y1 := g_le s1
 have hr := sx_nil hs1
 subst hr
 simp only [res_eq,cons_res] at hf
 have f0 := hS.fine hL (by omega)
 have f1 := g1.sim.fine hL (by omega)
 rcases fx_go hf (fun hg v h => by
  obtain ⟨c1,rfl,_⟩ := g1.rep (g_good.1 hg)
  cases h) with ⟨hb,e⟩ | ⟨hg,j',h,hJ'⟩
 ·have g0 : s1.g = 0 := by
   by_cases h3 : s1.g = 1
   ·rw [g_good.2 h3] at hb;cases hb
   ·omega
  rw [e]
  obtain ⟨e',p',hst⟩ : ∃ e' p',s1 = .bad e' p' := by
   cases s1 with
   | ok _ _ => cases g0
   | bad e' p' => exact ⟨e',p',rfl⟩
  have k1 := (hst ▸ g1.sim).kind0
  refine ⟨n1 + 2,x1,q1,?_,g1.sim,g1.ext,fun h => by omega,by rw [g_ok];omega,by rw [pot_ok,g_ok];omega⟩
  have p1 := pr_up (show n1 <= n1 + 1 by omega) p1
  rw [pr,if_pos f0,pstp,p1]
  simp only [bnd,if_pos f1]
  rw [pr,if_pos f1,pstp,k1]
  simp [out,f1,cOp]
 ·have hg1 := g_good.1 hg
  obtain ⟨c1,rfl,rc1,kc1⟩ := g1.rep hg1
  cases h
  obtain ⟨n2,x2,q2,p2,g2⟩ := A.facs hJ' g1.sim rc1 kc1 hg1 (by omega) (by omega)
  have m2 := g2.mon
  have b2 := g2.bnd
  have p1 := pr_up (show n1 <= n1 + n2 by omega) p1
  have p2 := pr_up (show n2 <= n1 + n2 by omega) p2
  refine ⟨n1 + n2 + 1,x2,q2,?_,g2.sim,ext_trans g1.ext g2.ext,g2.rep,by rw [g_ok];omega,by rw [pot_ok,g_ok];omega⟩
  rw [pr,if_pos f0,pstp,p1]
  simp only [bnd,if_pos f1,p2]
theorem do_operand (hL : L.length <= 1000) (A : Al L M) {t : Tok} {r : List Tok} {o : Nat} (hJ : Jx .operand (.ok (t :: r) o) s' v)  (hS : Sim L q oi (.ok (t :: r) o)) (hP : q.ps.length + (Sg.ok (t :: r) o).pot + 5000 * (Sg.ok (t :: r) o).g <= 85000) (hM : (Sg.ok (t :: r) o).pot + 4 < M + 1) : Does L q .operand (.ok (t :: r) o) s' v oi oi 4 50 0 := by
 have hk := hS.kind
 have hw := hS.word
 rw [pot_ok,g_ok] at hP
 rw [pot_ok] at hM
 rcases jx_inv hJ with ⟨h,_⟩ | ⟨ss,fin,r0,hx,hs,hf⟩
 ·cases h
 cases hx
 obtain ⟨v1,r1,s1,j1,hs1,rfl⟩ := sx_jb hs
 obtain ⟨n1,x1,q1,p1,g1⟩ := A.tr .atom rfl j1 hS (by rw [pot_ok,g_ok];omega) (by rw [pot_ok];simp only [jlv];omega)
 have m1 := g1.mon
 have l1 := g1.len
 have b1 := g1.bnd
 rw [pot_ok,g_ok] at b1
 simp only [jlv,jdn,jmd] at b1 p1
 have y1 := g_le s1
 have hr := sx_nil hs1
 subst hr
 simp only [res_eq,cons_res] at hf
 have f0 := hS.fine hL (by omega)
 have f1 := g1.sim.fine hL (by omega)
 rcases fx_go hf (fun hg v h => by
  obtain ⟨c1,rfl,_⟩ := g1.rep (g_good.1 hg)
  cases h) with ⟨hb,e⟩ | ⟨hg,j',h,hJ'⟩
 ·have g0 : s1.g = 0 := by
   by_cases h3 : s1.g = 1
   ·rw [g_good.2 h3] at hb;cases hb
   ·omega
  rw [e]
  obtain ⟨e',p',hst⟩ : ∃ e' p',s1 = .bad e' p' := by
   cases s1 with
   | ok _ _ => cases g0
   | bad e' p' => exact ⟨e',p',rfl⟩
  have k1 := (hst ▸ g1.sim).kind0
  refine ⟨n1 + 2,x1,q1,?_,g1.sim,g1.ext,fun h => by omega,by rw [g_ok];omega,by rw [pot_ok,g_ok];omega⟩
  have p1 := pr_up (show n1 <= n1 + 1 by omega) p1
  rw [pr,if_pos f0,pstp,p1]
  simp only [bnd,if_pos f1]
  rw [pr,if_pos f1,pstp,k1]
  simp [out,f1]
 ·have hg1 := g_good.1 hg
  obtain ⟨c1,rfl,rc1,kc1⟩ := g1.rep hg1
  cases h
  obtain ⟨n2,x2,q2,p2,g2⟩ := A.index hJ' g1.sim rc1 kc1 hg1 (by omega) (by omega)
  have m2 := g2.mon
  have b2 := g2.bnd
  have p1 := pr_up (show n1 <= n1 + n2 by omega) p1
  have p2 := pr_up (show n2 <= n1 + n2 by omega) p2
  refine ⟨n1 + n2 + 1,x2,q2,?_,g2.sim,ext_trans g1.ext g2.ext,g2.rep,by rw [g_ok];omega,by rw [pot_ok,g_ok];omega⟩
  rw [pr,if_pos f0,pstp,p1]
  simp only [bnd,if_pos f1,p2]
theorem do_callv (hL : L.length <= 1000) (A : Al L M) {t : Tok} {r : List Tok} {o : Nat} (hJ : Jx .call (.ok (t :: r) o) s' v) (h14 : t.k ≠ 14) (h15 : t.k ≠ 15) (h16 : t.k ≠ 16) (h17 : t.k ≠ 17) (hS : Sim L q oi (.ok (t :: r) o)) (hP : q.ps.length + (Sg.ok (t :: r) o).pot + 5000 * (Sg.ok (t :: r) o).g <= 85000) (hM : (Sg.ok (t :: r) o).pot + 8 < M + 1) : Does L q .call (.ok (t :: r) o) s' v oi oi 8 40 0 := by
 have hk := hS.kind
 have hw := hS.word
 rw [pot_ok,g_ok] at hP
 rw [pot_ok] at hM
 rcases jx_inv hJ with ⟨h,_⟩ | ⟨ss,fin,r0,hx,hs,hf⟩
 ·simp only [expand,if_neg h14,if_neg h15,if_neg h16,if_neg h17] at h;cases h
 simp only [expand,if_neg h14,if_neg h15,if_neg h16,if_neg h17] at hx
 cases hx
 obtain ⟨v1,r1,s1,j1,hs1,rfl⟩ := sx_jb hs
 obtain ⟨n1,x1,q1,p1,g1⟩ := A.tr .operand rfl j1 hS (by rw [pot_ok,g_ok];omega) (by rw [pot_ok];simp only [jlv];omega)
 have m1 := g1.mon
 have l1 := g1.len
 have b1 := g1.bnd
 rw [pot_ok,g_ok] at b1
 simp only [jlv,jdn,jmd] at b1 p1
 have y1 := g_le s1
 have hr := sx_nil hs1
 subst hr
 simp only [res_eq,cons_res] at hf
 have f0 := hS.fine hL (by omega)
 have f1 := g1.sim.fine hL (by omega)
 rcases fx_go hf (fun hg v h => by
  obtain ⟨c1,rfl,_⟩ := g1.rep (g_good.1 hg)
  cases h) with ⟨hb,e⟩ | ⟨hg,j',h,hJ'⟩
 ·have g0 : s1.g = 0 := by
   by_cases h3 : s1.g = 1
   ·rw [g_good.2 h3] at hb;cases hb
   ·omega
  rw [e]
  obtain ⟨e',p',hst⟩ : ∃ e' p',s1 = .bad e' p' := by
   cases s1 with
   | ok _ _ => cases g0
   | bad e' p' => exact ⟨e',p',rfl⟩
  have k1 := (hst ▸ g1.sim).kind0
  refine ⟨n1 + 2,x1,q1,?_,g1.sim,g1.ext,fun h => by omega,by rw [g_ok];omega,by rw [pot_ok,g_ok];omega⟩
  have p1 := pr_up (show n1 <= n1 + 1 by omega) p1
  rw [pr,if_pos f0,pstp,hk,if_neg h14,if_neg h15,if_neg h16,if_neg h17,p1]
  simp only [bnd,if_pos f1]
  rw [pr,if_pos f1,pstp,k1]
  simp [out,f1,cOpd]
 ·have hg1 := g_good.1 hg
  obtain ⟨c1,rfl,rc1,kc1⟩ := g1.rep hg1
  cases h
  obtain ⟨n2,x2,q2,p2,g2⟩ := A.args hJ' g1.sim (reps1 rc1 kc1) (fun c hc => by simp at hc;rw [hc];exact kc1) rfl (by simp) hg1 (by omega) (by omega)
  have m2 := g2.mon
  have b2 := g2.bnd
  have p1 := pr_up (show n1 <= n1 + n2 by omega) p1
  have p2 := pr_up (show n2 <= n1 + n2 by omega) p2
  refine ⟨n1 + n2 + 1,x2,q2,?_,g2.sim,ext_trans g1.ext g2.ext,g2.rep,by rw [g_ok];omega,by rw [pot_ok,g_ok];omega⟩
  rw [pr,if_pos f0,pstp,hk,if_neg h14,if_neg h15,if_neg h16,if_neg h17,p1]
  simp only [bnd,if_pos f1,p2]
theorem do_terms (hL : L.length <= 1000) (A : Al L M) {a : T} {i : Int} (hJ : Jx (.terms a) s s' v) (hS : Sim L q oi s) (hR : Rep q.ps i a) (h25 : a.k ≠ 25) (hg0 : s.g = 1) (hP : q.ps.length + s.pot + 5000 * s.g <= 85000) (hM : s.pot < M + 1) : Does L q (.sumL i) s s' v oi oi 5 0 0 := by
 cases s with
 | bad e p => cases hg0
 | ok l o =>
 obtain ⟨t,r,rfl⟩ := hS.st.2.2.2.1.ne
 have hk := hS.kind
 have hw := hS.word
 rw [pot_ok,g_ok] at hP
 rw [pot_ok] at hM
 have f0 := hS.fine hL (by omega)
 rcases jx_inv hJ with ⟨h,_⟩ | ⟨ss,fin,r0,hx,hs,hf⟩
 ·simp only [expand] at h;split at h <;> cases h
 by_cases h1 : isSum t.k = true
 ·simp only [expand,if_pos h1] at hx
  cases hx
  have hc : cOp t.k = 16 := by unfold isSum at h1;simp at h1;unfold cOp;rw [if_neg (by omega),if_pos (by omega)]
  obtain ⟨v0,r0,hs0,rfl,hv0⟩ := sx_tm hs
  rw [tm_ok,if_pos rfl] at hs0
  have S0 := hS.take (by intro h;rw [h] at h1;simp [isSum] at h1)
  have z0 : q.take.ps.length = q.ps.length := rfl
  have hgk0 := hv0 t r o rfl rfl
  obtain ⟨s_0,hs_0⟩ : ∃ s_0,s_0 = Sg.ok r o := ⟨_,rfl⟩
  have pA0 : s_0.pot = 100 * r.length := by rw [hs_0];rfl
  have gA0 : s_0.g = 1 := by rw [hs_0];rfl
  rw [<- hs_0] at hs0 S0
  obtain ⟨v1,r1,s1,j1,hs1,rfl⟩ := sx_jb hs0
  obtain ⟨n1,x1,q1,p1,g1⟩ := A.tr .prod rfl j1 S0 (by omega) (by simp only [jlv];omega)
  have m1 := g1.mon
  have l1 := g1.len
  have b1 := g1.bnd
  simp only [jlv,jdn,jmd] at b1 p1
  have y1 := g_le s1
  have hr := sx_nil hs1
  subst hr
  simp only [res_eq,cons_res] at hf
  have p1 := pr_up (show n1 <= n1 by omega) p1
  have f1 := g1.sim.fine hL (by omega)
  have hS2 : Sim L (q1.add ⟨16,t.p,t.k,0,[],[i,x1]⟩) oi s1 := g1.sim.add
  have za : (q1.add ⟨16,t.p,t.k,0,[],[i,x1]⟩).ps.length = q1.ps.length + 1 := by simp [Q.add]
  have fa := hS2.fine hL (by omega)
  have hext : ∃ z,(q1.add ⟨16,t.p,t.k,0,[],[i,x1]⟩).ps = q.ps ++ z := ext_trans g1.ext ⟨[_],rfl⟩
  have hstep : ∀ n,n1 <= n -> pr L 12 (n + 1) (.sumL i) q = pr L 12 n (.sumL q1.ps.length) (q1.add ⟨16,t.p,t.k,0,[],[i,x1]⟩) := fun n hn => by
   rw [pr,if_pos f0,pstp,hk,if_neg (by omega),pr_up hn p1]
   simp only [bnd,if_pos f1,addR,if_pos fa,hw]
  rcases fx_go hf (fun hg v h => by
   obtain ⟨c1,rfl,_⟩ := g1.rep (g_good.1 hg)
   cases h) with ⟨hb,e⟩ | ⟨hg,j',h,hJ'⟩
  ·have g00 : s1.g = 0 := by
    by_cases h3 : s1.g = 1
    ·rw [g_good.2 h3] at hb;cases hb
    ·omega
   rw [e]
   obtain ⟨e',p',hst⟩ : ∃ e' p',s1 = .bad e' p' := by
    cases s1 with
    | ok _ _ => cases g00
    | bad e' p' => exact ⟨e',p',rfl⟩
   have k1 := (hst ▸ hS2).kind0
   refine ⟨n1 + 2,(q1.ps.length : Int),_,?_,hS2,hext,fun h => by omega,by rw [g_ok];omega,by rw [pot_ok,g_ok];omega⟩
   rw [hstep _ (by omega),pr,if_pos fa,pstp,k1]
   simp [out,fa,cOp]
  ·have hg1 := g_good.1 hg
   obtain ⟨c1,rfl,rc1,kc1⟩ := g1.rep hg1
   cases h
   have hRn : Rep (q1.add ⟨16,t.p,t.k,0,[],[i,x1]⟩).ps q1.ps.length (.nd 0 16 t.k 0 [] [a,c1]) := rep_new rfl (by omega) rfl (fun h => by omega) rfl (reps2 (hR.up g1.ext) h25 rc1 kc1)
   obtain ⟨n9,x9,q9,p9,g9⟩ := A.terms hJ' hS2 hRn (by show (16 : Nat) ≠ 25;omega) hg1 (by omega) (by omega)
   have m9 := g9.mon
   have b9 := g9.bnd
   refine ⟨n1 + n9 + 1,x9,q9,?_,g9.sim,ext_trans hext g9.ext,g9.rep,by rw [g_ok];omega,by rw [pot_ok,g_ok];omega⟩
   rw [hstep _ (by omega)]
   exact pr_up (by omega) p9
 ·have h1' : isSum t.k = false := by simpa using h1
  simp only [expand,h1',Bool.false_eq_true,if_false] at hx
  cases hx
  have hc : cOp t.k ≠ 16 := by unfold isSum at h1';simp at h1';unfold cOp;split <;> (try split) <;> (try split) <;> omega
  have hr := sx_nil hs
  subst hr
  obtain ⟨rfl,hout⟩ := fx_out (s := .ok (t :: r) o) (fin := fun _ => .out (.tr a)) (vs := []) hf (fun j' h => by cases h)
  have ho := hout rfl
  injection ho with ho
  refine ⟨1,i,q,?_,hS,⟨[],by simp⟩,fun _ => ⟨a,ho.symm,hR,h25⟩,Nat.le_refl _,by rw [pot_ok,g_ok];omega⟩
  rw [pr,if_pos f0,pstp,hk,if_pos hc]
  simp only [out,if_pos f0]
theorem do_facs (hL : L.length <= 1000) (A : Al L M) {a : T} {i : Int} (hJ : Jx (.facs a) s s' v) (hS : Sim L q oi s) (hR : Rep q.ps i a) (h25 : a.k ≠ 25) (hg0 : s.g = 1) (hP : q.ps.length + s.pot + 5000 * s.g <= 85000) (hM : s.pot < M + 1) : Does L q (.prodL i) s s' v oi oi 5 0 0 := by
 cases s with
 | bad e p => cases hg0
 | ok l o =>
 obtain ⟨t,r,rfl⟩ := hS.st.2.2.2.1.ne
 have hk := hS.kind
 have hw := hS.word
 rw [pot_ok,g_ok] at hP
 rw [pot_ok] at hM
 have f0 := hS.fine hL (by omega)
 rcases jx_inv hJ with ⟨h,_⟩ | ⟨ss,fin,r0,hx,hs,hf⟩
 ·simp only [expand] at h;split at h <;> cases h
 by_cases h1 : isPro t.k = true
 ·simp only [expand,if_pos h1] at hx
  cases hx
  have hc : cOp t.k = 15 := by unfold isPro at h1;simp at h1;unfold cOp;rw [if_neg (by omega),if_neg (by omega),if_pos (by omega)]
  obtain ⟨v0,r0,hs0,rfl,hv0⟩ := sx_tm hs
  rw [tm_ok,if_pos rfl] at hs0
  have S0 := hS.take (by intro h;rw [h] at h1;simp [isPro] at h1)
  have z0 : q.take.ps.length = q.ps.length := rfl
  have hgk0 := hv0 t r o rfl rfl
  obtain ⟨s_0,hs_0⟩ : ∃ s_0,s_0 = Sg.ok r o := ⟨_,rfl⟩
  have pA0 : s_0.pot = 100 * r.length := by rw [hs_0];rfl
  have gA0 : s_0.g = 1 := by rw [hs_0];rfl
  rw [<- hs_0] at hs0 S0
  obtain ⟨v1,r1,s1,j1,hs1,rfl⟩ := sx_jb hs0
  obtain ⟨n1,x1,q1,p1,g1⟩ := A.tr .sign rfl j1 S0 (by omega) (by simp only [jlv];omega)
  have m1 := g1.mon
  have l1 := g1.len
  have b1 := g1.bnd
  simp only [jlv,jdn,jmd] at b1 p1
  have y1 := g_le s1
  have hr := sx_nil hs1
  subst hr
  simp only [res_eq,cons_res] at hf
  have p1 := pr_up (show n1 <= n1 by omega) p1
  have f1 := g1.sim.fine hL (by omega)
  have hS2 : Sim L (q1.add ⟨15,t.p,t.k,0,[],[i,x1]⟩) oi s1 := g1.sim.add
  have za : (q1.add ⟨15,t.p,t.k,0,[],[i,x1]⟩).ps.length = q1.ps.length + 1 := by simp [Q.add]
  have fa := hS2.fine hL (by omega)
  have hext : ∃ z,(q1.add ⟨15,t.p,t.k,0,[],[i,x1]⟩).ps = q.ps ++ z := ext_trans g1.ext ⟨[_],rfl⟩
  have hstep : ∀ n,n1 <= n -> pr L 12 (n + 1) (.prodL i) q = pr L 12 n (.prodL q1.ps.length) (q1.add ⟨15,t.p,t.k,0,[],[i,x1]⟩) := fun n hn => by
   rw [pr,if_pos f0,pstp,hk,if_neg (by omega),pr_up hn p1]
   simp only [bnd,if_pos f1,addR,if_pos fa,hw]
  rcases fx_go hf (fun hg v h => by
   obtain ⟨c1,rfl,_⟩ := g1.rep (g_good.1 hg)
   cases h) with ⟨hb,e⟩ | ⟨hg,j',h,hJ'⟩
  ·have g00 : s1.g = 0 := by
    by_cases h3 : s1.g = 1
    ·rw [g_good.2 h3] at hb;cases hb
    ·omega
   rw [e]
   obtain ⟨e',p',hst⟩ : ∃ e' p',s1 = .bad e' p' := by
    cases s1 with
    | ok _ _ => cases g00
    | bad e' p' => exact ⟨e',p',rfl⟩
   have k1 := (hst ▸ hS2).kind0
   refine ⟨n1 + 2,(q1.ps.length : Int),_,?_,hS2,hext,fun h => by omega,by rw [g_ok];omega,by rw [pot_ok,g_ok];omega⟩
   rw [hstep _ (by omega),pr,if_pos fa,pstp,k1]
   simp [out,fa,cOp]
  ·have hg1 := g_good.1 hg
   obtain ⟨c1,rfl,rc1,kc1⟩ := g1.rep hg1
   cases h
   have hRn : Rep (q1.add ⟨15,t.p,t.k,0,[],[i,x1]⟩).ps q1.ps.length (.nd 0 15 t.k 0 [] [a,c1]) := rep_new rfl (by omega) rfl (fun h => by omega) rfl (reps2 (hR.up g1.ext) h25 rc1 kc1)
   obtain ⟨n9,x9,q9,p9,g9⟩ := A.facs hJ' hS2 hRn (by show (15 : Nat) ≠ 25;omega) hg1 (by omega) (by omega)
   have m9 := g9.mon
   have b9 := g9.bnd
   refine ⟨n1 + n9 + 1,x9,q9,?_,g9.sim,ext_trans hext g9.ext,g9.rep,by rw [g_ok];omega,by rw [pot_ok,g_ok];omega⟩
   rw [hstep _ (by omega)]
   exact pr_up (by omega) p9
 ·have h1' : isPro t.k = false := by simpa using h1
  simp only [expand,h1',Bool.false_eq_true,if_false] at hx
  cases hx
  have hc : cOp t.k ≠ 15 := by unfold isPro at h1';simp at h1';unfold cOp;split <;> (try split) <;> (try split) <;> omega
  have hr := sx_nil hs
  subst hr
  obtain ⟨rfl,hout⟩ := fx_out (s := .ok (t :: r) o) (fin := fun _ => .out (.tr a)) (vs := []) hf (fun j' h => by cases h)
  have ho := hout rfl
  injection ho with ho
  refine ⟨1,i,q,?_,hS,⟨[],by simp⟩,fun _ => ⟨a,ho.symm,hR,h25⟩,Nat.le_refl _,by rw [pot_ok,g_ok];omega⟩
  rw [pr,if_pos f0,pstp,hk,if_pos hc]
  simp only [out,if_pos f0]
theorem do_seq (hL : L.length <= 1000) (A : Al L M) {t : Tok} {r : List Tok} {o : Nat} (hJ : Jx .expr (.ok (t :: r) o) s' v) (h3 : t.k ≠ 3) (h6 : t.k ≠ 6) (h9 : t.k ≠ 9) (hS : Sim L q oi (.ok (t :: r) o)) (hP : q.ps.length + (Sg.ok (t :: r) o).pot + 5000 * (Sg.ok (t :: r) o).g <= 85000) (hM : (Sg.ok (t :: r) o).pot + 20 < M + 1) : Does L q .expr (.ok (t :: r) o) s' v oi oi 20 40 0 := by
 have hk := hS.kind
 have hw := hS.word
 rw [pot_ok,g_ok] at hP
 rw [pot_ok] at hM
 rcases jx_inv hJ with ⟨h,_⟩ | ⟨ss,fin,r0,hx,hs,hf⟩
 ·simp only [expand,if_neg h3,if_neg h6,if_neg h9] at h;cases h
 simp only [expand,if_neg h3,if_neg h6,if_neg h9] at hx
 cases hx
 obtain ⟨v1,r1,s1,j1,hs1,rfl⟩ := sx_jb hs
 obtain ⟨n1,x1,q1,p1,g1⟩ := A.tr .cmp rfl j1 hS (by rw [pot_ok,g_ok];omega) (by rw [pot_ok];simp only [jlv];omega)
 have m1 := g1.mon
 have l1 := g1.len
 have b1 := g1.bnd
 rw [pot_ok,g_ok] at b1
 simp only [jlv,jdn,jmd] at b1 p1
 have y1 := g_le s1
 have hr := sx_nil hs1
 subst hr
 simp only [res_eq,cons_res] at hf
 have f0 := hS.fine hL (by omega)
 have f1 := g1.sim.fine hL (by omega)
 rcases fx_go hf (fun hg v h => by
  obtain ⟨c1,rfl,_⟩ := g1.rep (g_good.1 hg)
  cases h) with ⟨hb,e⟩ | ⟨hg,j',h,hJ'⟩
 ·have g0 : s1.g = 0 := by
   by_cases h3 : s1.g = 1
   ·rw [g_good.2 h3] at hb;cases hb
   ·omega
  rw [e]
  obtain ⟨e',p',hst⟩ : ∃ e' p',s1 = .bad e' p' := by
   cases s1 with
   | ok _ _ => cases g0
   | bad e' p' => exact ⟨e',p',rfl⟩
  have k1 := (hst ▸ g1.sim).kind0
  refine ⟨n1 + 3,x1,q1,?_,g1.sim,g1.ext,fun h => by omega,by rw [g_ok];omega,by rw [pot_ok,g_ok];omega⟩
  rw [pr,if_pos f0,pstp,hk,if_neg h3,if_neg h6,if_neg h9,pr,if_pos f0,pstp,pr_up (by omega) p1]
  simp only [bnd,if_pos f1,k1]
  simp [out,f1,cOp]
 ·have hg1 := g_good.1 hg
  obtain ⟨c1,rfl,rc1,kc1⟩ := g1.rep hg1
  cases h
  have S1 := g1.sim
  cases s1 with
  | bad _ _ => cases hg1
  | ok l1' o1 =>
  obtain ⟨t2,r2,rfl⟩ := S1.st.2.2.2.1.ne
  have hk2 := S1.kind
  have hw2 := S1.word
  rw [pot_ok,g_ok] at b1
  rcases jx_inv hJ' with ⟨h,_⟩ | ⟨ss,fin,r0,hx,hs,hf⟩
  ·simp only [expand] at h;split at h <;> cases h
  by_cases h1 : t2.k = 26
  ·simp only [expand,if_pos h1] at hx
   cases hx
   have hc := True.intro
   obtain ⟨v2,r2',hs2,rfl,hv2⟩ := sx_tm hs
   rw [tm_ok,if_pos h1] at hs2
   have S2 := S1.take (by intro h;rw [h] at h1;omega)
   have z2 : q1.take.ps.length = q1.ps.length := rfl
   obtain ⟨v3,r3,s3,j3,hs3,rfl⟩ := sx_jb hs2
   obtain ⟨n3,x3,q3,p3,g3⟩ := A.tr .expr rfl j3 S2 (by rw [pot_ok',g_ok];omega) (by rw [pot_ok'];simp only [jlv];omega)
   have m3 := g3.mon
   have l3 := g3.len
   have b3 := g3.bnd
   rw [pot_ok',g_ok] at b3
   simp only [jlv,jdn,jmd] at b3 p3
   have y3 := g_le s3
   have hr := sx_nil hs3
   subst hr
   simp only [res_eq,cons_res] at hf
   obtain ⟨rfl,hout⟩ := fx_out hf (fun j' h => by split at h <;> simp [nop] at h)
   have f3 := g3.sim.fine hL (by omega)
   refine ⟨n1 + n3 + 3,q3.ps.length,q3.add ⟨18,t2.p,t2.k,0,[],[x1,x3]⟩,?_,?_⟩
   ·rw [pr,if_pos f0,pstp,hk,if_neg h3,if_neg h6,if_neg h9,pr,if_pos f0,pstp,pr_up (by omega) p1]
    simp only [bnd,if_pos f1,hk2]
    rw [if_neg (by omega)]
    rw [pr_up (show n3 <= n1 + n3 + 1 by omega) p3]
    simp only [bnd,if_pos f3,addR,hw2]
   ·have x12 : ∃ z,q3.ps = q1.ps ++ z := g3.ext
    refine got_add g3.sim (ext_trans g1.ext x12) (fun hg => ?_) (by rw [g_ok];omega) (by rw [pot_ok,g_ok];omega)
    obtain ⟨a3,rfl,ra3,ka3⟩ := g3.rep hg
    have ho := hout (g_good.2 hg)
    injection ho with ho
    exact ⟨_,ho.symm,rep_new rfl (by omega) (by rw [h1];rfl) (fun h => by omega) rfl (reps2 (rc1.up x12) kc1 ra3 ka3),by show (18 : Nat) ≠ 25;omega⟩
  ·simp only [expand,if_neg h1] at hx
   cases hx
   have hr := sx_nil hs
   subst hr
   obtain ⟨rfl,hout⟩ := fx_out (s := .ok (t2 :: r2) o1) (fin := fun _ => .out (.tr c1)) (vs := []) hf (fun j' h => by cases h)
   have ho := hout rfl
   injection ho with ho
   refine ⟨n1 + 3,x1,q1,?_,S1,g1.ext,fun _ => ⟨c1,ho.symm,rc1,kc1⟩,by rw [g_ok];omega,by rw [pot_ok,pot_ok,g_ok,g_ok];omega⟩
   rw [pr,if_pos f0,pstp,hk,if_neg h3,if_neg h6,if_neg h9,pr,if_pos f0,pstp,pr_up (by omega) p1]
   simp only [bnd,if_pos f1,hk2]
   rw [if_pos h1]
   simp only [out,if_pos f1]
theorem do_cmp (hL : L.length <= 1000) (A : Al L M) {t : Tok} {r : List Tok} {o : Nat} (hJ : Jx .cmp (.ok (t :: r) o) s' v)  (hS : Sim L q oi (.ok (t :: r) o)) (hP : q.ps.length + (Sg.ok (t :: r) o).pot + 5000 * (Sg.ok (t :: r) o).g <= 85000) (hM : (Sg.ok (t :: r) o).pot + 16 < M + 1) : Does L q .cmp (.ok (t :: r) o) s' v oi oi 16 40 0 := by
 have hk := hS.kind
 have hw := hS.word
 rw [pot_ok,g_ok] at hP
 rw [pot_ok] at hM
 rcases jx_inv hJ with ⟨h,_⟩ | ⟨ss,fin,r0,hx,hs,hf⟩
 ·cases h
 cases hx
 obtain ⟨v1,r1,s1,j1,hs1,rfl⟩ := sx_jb hs
 obtain ⟨n1,x1,q1,p1,g1⟩ := A.tr .sum rfl j1 hS (by rw [pot_ok,g_ok];omega) (by rw [pot_ok];simp only [jlv];omega)
 have m1 := g1.mon
 have l1 := g1.len
 have b1 := g1.bnd
 rw [pot_ok,g_ok] at b1
 simp only [jlv,jdn,jmd] at b1 p1
 have y1 := g_le s1
 have hr := sx_nil hs1
 subst hr
 simp only [res_eq,cons_res] at hf
 have f0 := hS.fine hL (by omega)
 have f1 := g1.sim.fine hL (by omega)
 rcases fx_go hf (fun hg v h => by
  obtain ⟨c1,rfl,_⟩ := g1.rep (g_good.1 hg)
  cases h) with ⟨hb,e⟩ | ⟨hg,j',h,hJ'⟩
 ·have g0 : s1.g = 0 := by
   by_cases h3 : s1.g = 1
   ·rw [g_good.2 h3] at hb;cases hb
   ·omega
  rw [e]
  obtain ⟨e',p',hst⟩ : ∃ e' p',s1 = .bad e' p' := by
   cases s1 with
   | ok _ _ => cases g0
   | bad e' p' => exact ⟨e',p',rfl⟩
  have k1 := (hst ▸ g1.sim).kind0
  refine ⟨n1 + 3,x1,q1,?_,g1.sim,g1.ext,fun h => by omega,by rw [g_ok];omega,by rw [pot_ok,g_ok];omega⟩
  rw [pr,if_pos f0,pstp,pr_up (by omega) p1]
  simp only [bnd,if_pos f1,k1]
  simp [out,f1,cOp]
 ·have hg1 := g_good.1 hg
  obtain ⟨c1,rfl,rc1,kc1⟩ := g1.rep hg1
  cases h
  have S1 := g1.sim
  cases s1 with
  | bad _ _ => cases hg1
  | ok l1' o1 =>
  obtain ⟨t2,r2,rfl⟩ := S1.st.2.2.2.1.ne
  have hk2 := S1.kind
  have hw2 := S1.word
  rw [pot_ok,g_ok] at b1
  rcases jx_inv hJ' with ⟨h,_⟩ | ⟨ss,fin,r0,hx,hs,hf⟩
  ·simp only [expand] at h;split at h <;> cases h
  by_cases h1 : isCmp t2.k = true
  ·simp only [expand,if_pos h1] at hx
   cases hx
   have hc : cOp t2.k = 17 := by unfold isCmp at h1;simp at h1;unfold cOp;rw [if_pos (by omega)]
   obtain ⟨v2,r2',hs2,rfl,hv2⟩ := sx_tm hs
   rw [tm_ok,if_pos rfl] at hs2
   have S2 := S1.take (by intro h;rw [h] at h1;simp [isCmp] at h1)
   have z2 : q1.take.ps.length = q1.ps.length := rfl
   obtain ⟨v3,r3,s3,j3,hs3,rfl⟩ := sx_jb hs2
   obtain ⟨n3,x3,q3,p3,g3⟩ := A.tr .sum rfl j3 S2 (by rw [pot_ok',g_ok];omega) (by rw [pot_ok'];simp only [jlv];omega)
   have m3 := g3.mon
   have l3 := g3.len
   have b3 := g3.bnd
   rw [pot_ok',g_ok] at b3
   simp only [jlv,jdn,jmd] at b3 p3
   have y3 := g_le s3
   have hr := sx_nil hs3
   subst hr
   simp only [res_eq,cons_res] at hf
   obtain ⟨rfl,hout⟩ := fx_out hf (fun j' h => by split at h <;> simp [nop] at h)
   have f3 := g3.sim.fine hL (by omega)
   refine ⟨n1 + n3 + 3,q3.ps.length,q3.add ⟨17,t2.p,t2.k,0,[],[x1,x3]⟩,?_,?_⟩
   ·rw [pr,if_pos f0,pstp,pr_up (by omega) p1]
    simp only [bnd,if_pos f1,hk2]
    rw [if_neg (by rw [hc];simp)]
    rw [pr_up (show n3 <= n1 + n3 + 2 by omega) p3]
    simp only [bnd,if_pos f3,addR,hw2]
   ·have x12 : ∃ z,q3.ps = q1.ps ++ z := g3.ext
    refine got_add g3.sim (ext_trans g1.ext x12) (fun hg => ?_) (by rw [g_ok];omega) (by rw [pot_ok,g_ok];omega)
    obtain ⟨a3,rfl,ra3,ka3⟩ := g3.rep hg
    have ho := hout (g_good.2 hg)
    injection ho with ho
    exact ⟨_,ho.symm,rep_new rfl (by omega) (rfl) (fun h => by omega) rfl (reps2 (rc1.up x12) kc1 ra3 ka3),by show (17 : Nat) ≠ 25;omega⟩
  ·simp only [expand,h1,Bool.false_eq_true,if_false] at hx
   cases hx
   have hr := sx_nil hs
   subst hr
   obtain ⟨rfl,hout⟩ := fx_out (s := .ok (t2 :: r2) o1) (fin := fun _ => .out (.tr c1)) (vs := []) hf (fun j' h => by cases h)
   have ho := hout rfl
   injection ho with ho
   refine ⟨n1 + 3,x1,q1,?_,S1,g1.ext,fun _ => ⟨c1,ho.symm,rc1,kc1⟩,by rw [g_ok];omega,by rw [pot_ok,pot_ok,g_ok,g_ok];omega⟩
   rw [pr,if_pos f0,pstp,pr_up (by omega) p1]
   simp only [bnd,if_pos f1,hk2]
   rw [if_pos (by unfold isCmp at h1;simp at h1;unfold cOp;split <;> (try split) <;> (try split) <;> omega)]
   simp only [out,if_pos f1]
end
section
variable {L : List Tok} {M : Nat} {s s' : Sg} {v : V} {q : Q} {oi : Int}
theorem bad_of {s : Sg} (h : s.g = 0) : ∃ e p,s = .bad e p := by
 cases s with
 | ok _ _ => cases h
 | bad e p => exact ⟨e,p,rfl⟩
theorem g_of {s : Sg} (h : s.good = false) : s.g = 0 := by
 cases s with
 | ok _ _ => cases h
 | bad e p => rfl
theorem do_sign (hL : L.length <= 1000) (A : Al L M) {t : Tok} {r : List Tok} {o : Nat} (hJ : Jx .sign (.ok (t :: r) o) s' v) (h31 : t.k ≠ 31) (h10 : t.k ≠ 10) (hS : Sim L q oi (.ok (t :: r) o)) (hP : q.ps.length + (Sg.ok (t :: r) o).pot + 5000 * (Sg.ok (t :: r) o).g <= 85000) (hM : (Sg.ok (t :: r) o).pot + 10 < M + 1) : Does L q .un (.ok (t :: r) o) s' v oi oi 10 40 0 := by
 have hk := hS.kind
 rw [pot_ok,g_ok] at hP
 rw [pot_ok] at hM
 rcases jx_inv hJ with ⟨h,_⟩ | ⟨ss,fin,r0,hx,hs,hf⟩
 ·simp only [expand,if_neg h31,if_neg h10] at h;cases h
 simp only [expand,if_neg h31,if_neg h10] at hx
 cases hx
 obtain ⟨v1,r1,s1,j1,hs1,rfl⟩ := sx_jb hs
 obtain ⟨n1,x1,q1,p1,g1⟩ := A.tr .call rfl j1 hS (by rw [pot_ok,g_ok];omega) (by rw [pot_ok];simp only [jlv];omega)
 have m1 := g1.mon
 have b1 := g1.bnd
 rw [pot_ok,g_ok] at b1
 simp only [jlv,jdn,jmd] at b1 p1
 have y1 := g_le s1
 have hr := sx_nil hs1
 subst hr
 simp only [res_eq,cons_res] at hf
 have f0 := hS.fine hL (by omega)
 obtain ⟨rfl,hout⟩ := fx_out hf (fun j' h => by cases h)
 refine ⟨n1 + 1,x1,q1,?_,g1.sim,g1.ext,fun hg => ?_,by rw [g_ok];omega,by rw [pot_ok,g_ok];omega⟩
 ·rw [pr,if_pos f0,pstp,hk,if_neg h31,if_neg h10]
  exact p1
 ·obtain ⟨c,rfl,h1,h2⟩ := g1.rep hg
  have ho := hout (g_good.2 hg)
  injection ho with ho
  exact ⟨c,ho.symm,h1,h2⟩
theorem do_index (hL : L.length <= 1000) (A : Al L M) {a : T} {i : Int} (hJ : Jx (.index a) s s' v) (hS : Sim L q oi s) (hR : Rep q.ps i a) (h25 : a.k ≠ 25) (hg0 : s.g = 1) (hP : q.ps.length + s.pot + 5000 * s.g <= 85000) (hM : s.pot < M + 1) : Does L q (.operL i) s s' v oi oi 5 0 0 := by
 cases s with
 | bad e p => cases hg0
 | ok l o =>
 obtain ⟨t,r,rfl⟩ := hS.st.2.2.2.1.ne
 have hk := hS.kind
 have hw := hS.word
 have hlo := hS.lo
 rw [pot_ok,g_ok] at hP
 rw [pot_ok] at hM
 have f0 := hS.fine hL (by omega)
 rcases jx_inv hJ with ⟨h,_⟩ | ⟨ss,fin,r0,hx,hs,hf⟩
 ·simp only [expand] at h;split at h <;> cases h
 by_cases h1 : t.k = 18
 ·simp only [expand,if_pos h1] at hx
  cases hx
  obtain ⟨r1,hs1,rfl⟩ := sx_op hs h1
  have S1 := hS.beg h1 (by omega)
  obtain ⟨o1p,o1q,o1e⟩ := op_b t r o
  obtain ⟨s_1,hs_1⟩ : ∃ s_1,s_1 = opS t r o := ⟨_,rfl⟩
  rw [<- hs_1] at hs1 S1 o1p o1q
  have z1 : (q.beg L 12 18).ps.length = q.ps.length := rfl
  obtain ⟨v2,r2,s2,j2,hs2,rfl⟩ := sx_jb hs1
  obtain ⟨n2,x2,q2,p2,g2⟩ := A.tr .expr rfl j2 S1 (by omega) (by simp only [jlv];omega)
  have m2 := g2.mon
  have l2 := g2.len
  have b2 := g2.bnd
  simp only [jlv,jdn,jmd] at b2 p2
  have y2 := g_le s2
  obtain ⟨v3,r3,hs3,rfl⟩ := sx_cl hs2
  have S3 := g2.sim.finish (by omega)
  rw [show oi + 1 - 1 = oi by omega] at S3
  obtain ⟨c3,d3⟩ := cl_b s2
  have y3 := g_le s2.cl
  have z3 : (q2.finish L).ps.length = q2.ps.length := rfl
  have hr := sx_nil hs3
  subst hr
  simp only [res_eq,cons_res] at hf
  have f2 := g2.sim.fine hL (by omega)
  have f3 := S3.fine hL (by omega)
  obtain ⟨CPn,hCP⟩ : ∃ c : CP,c = ⟨20,(q.begW L 12 18).p,(q.begW L 12 18).k,0,[],[i,x2]⟩ := ⟨_,rfl⟩
  have hS4 : Sim L ((q2.finish L).add CPn) oi s2.cl := S3.add
  have za : ((q2.finish L).add CPn).ps.length = q2.ps.length + 1 := by simp [Q.add,Q.finish]
  have fa := hS4.fine hL (by omega)
  have hx2 : ∃ z,q2.ps = q.ps ++ z := g2.ext
  have hext : ∃ z,((q2.finish L).add CPn).ps = q.ps ++ z := ext_trans hx2 ⟨[_],rfl⟩
  have hstep : ∀ n,n2 <= n -> pr L 12 (n + 1) (.operL i) q = pr L 12 n (.operL q2.ps.length) ((q2.finish L).add CPn) := fun n hn => by
   rw [pr,if_pos f0,pstp,hk,if_neg (by omega),pr_up hn p2]
   simp only [bnd,if_pos f2,addR,if_pos f3]
   rw [<- hCP,if_pos fa]
   rfl
  rcases fx_go hf (fun hg v h => by
   obtain ⟨c1,rfl,_⟩ := g2.rep (by have := g_good.1 hg;omega)
   cases h) with ⟨hb,e⟩ | ⟨hg,j',h,hJ'⟩
  ·have g00 := g_of hb
   rw [e]
   obtain ⟨e',p',hst⟩ := bad_of g00
   have k1 := (hst ▸ hS4).kind0
   refine ⟨n2 + 2,(q2.ps.length : Int),_,?_,hS4,hext,fun h => by omega,by rw [g_ok];omega,by rw [pot_ok,g_ok];omega⟩
   rw [hstep _ (by omega),pr,if_pos fa,pstp,k1]
   simp [out,fa]
  ·have hg1 := g_good.1 hg
   obtain ⟨c1,rfl,rc1,kc1⟩ := g2.rep (by omega)
   cases h
   have hbw : q.begW L 12 18 = t := hS.begW h1 (g_good.2 (by rw [<- hs_1];omega))
   have hRn : Rep ((q2.finish L).add CPn).ps q2.ps.length (.nd 0 20 0 0 [] [a,c1]) := by
    subst hCP
    exact rep_new rfl (by omega) (by show (q.begW L 12 18).k = 18;rw [hbw];exact h1) (fun h => by omega) rfl (reps2 (hR.up hx2) h25 rc1 kc1)
   obtain ⟨n9,x9,q9,p9,g9⟩ := A.index hJ' hS4 hRn (by show (20 : Nat) ≠ 25;omega) hg1 (by omega) (by omega)
   have m9 := g9.mon
   have b9 := g9.bnd
   refine ⟨n2 + n9 + 1,x9,q9,?_,g9.sim,ext_trans hext g9.ext,g9.rep,by rw [g_ok];omega,by rw [pot_ok,g_ok];omega⟩
   rw [hstep _ (by omega)]
   exact pr_up (by omega) p9
 ·simp only [expand,if_neg h1] at hx
  cases hx
  have hr := sx_nil hs
  subst hr
  obtain ⟨rfl,hout⟩ := fx_out (s := .ok (t :: r) o) (fin := fun _ => .out (.tr a)) (vs := []) hf (fun j' h => by cases h)
  have ho := hout rfl
  injection ho with ho
  refine ⟨1,i,q,?_,hS,⟨[],by simp⟩,fun _ => ⟨a,ho.symm,hR,h25⟩,Nat.le_refl _,by rw [pot_ok,g_ok];omega⟩
  rw [pr,if_pos f0,pstp,hk,if_pos h1]
  simp only [out,if_pos f0]
theorem st_callY {N : Int} {rec : Md -> Q -> Rt} {ks : List Int} (h : ks.length <= 4 /\ cOpd (q.kind L) = true) : pstp L N rec (.callL ks) q = bnd (rec .operand q) (fun b q1 => rec (.callL (ks ++ [b])) q1) := if_pos h
theorem st_call1 {N : Int} {rec : Md -> Q -> Rt} {a : Int} (h : ¬ ([a].length <= 4 /\ cOpd (q.kind L) = true)) : pstp L N rec (.callL [a]) q = out a q := if_neg h
theorem st_call2 {N : Int} {rec : Md -> Q -> Rt} {a b : Int} {kt : List Int} (h : ¬ ((a :: b :: kt).length <= 4 /\ cOpd (q.kind L) = true)) (h2 : -1 <= a /\ a <= 100000) : pstp L N rec (.callL (a :: b :: kt)) q = addR q ⟨19,plOf q.ps a,0,0,[],a :: b :: kt⟩ := (if_neg h).trans (if_pos h2)
theorem st_tupY {N : Int} {rec : Md -> Q -> Rt} {t : Tok} {ks : List Int} (h : ks.length < 6 /\ q.kind L = 25) : pstp L N rec (.tupL t ks) q = bnd (rec .expr q.take) (fun b q1 => rec (.tupL t (ks ++ [b])) q1) := if_pos h
theorem st_tup1 {N : Int} {rec : Md -> Q -> Rt} {t : Tok} {a : Int} (h : ¬ ([a].length < 6 /\ q.kind L = 25)) : pstp L N rec (.tupL t [a]) q = out a (q.finish L) := if_neg h
theorem st_tup2 {N : Int} {rec : Md -> Q -> Rt} {t : Tok} {a b : Int} {kt : List Int} (h : ¬ ((a :: b :: kt).length < 6 /\ q.kind L = 25)) : pstp L N rec (.tupL t (a :: b :: kt)) q = addR (q.finish L) ⟨7,t.p,0,0,[],a :: b :: kt⟩ := if_neg h
theorem cOpd_eq (k : Nat) : cOpd k = isOpd k := by
 rw [Bool.eq_iff_iff]
 simp [cOpd,isOpd,isLeaf]
 omega
theorem do_args (hL : L.length <= 1000) (A : Al L M) {zs : List T} {ks : List Int} {m : Nat} (hJ : Jx (.args m zs) s s' v) (hS : Sim L q oi s) (hR : Reps q.ps q.ps.length ks zs) (h25 : ∀ c ∈ zs,c.k ≠ 25) (hm : m + ks.length = 5) (hks : ks ≠ []) (hg0 : s.g = 1) (hP : q.ps.length + s.pot + 5000 * s.g <= 85000) (hM : s.pot + 6 < M + 1) : Does L q (.callL ks) s s' v oi oi 6 0 1 := by
 cases s with
 | bad e p => cases hg0
 | ok l o =>
 obtain ⟨t,r,rfl⟩ := hS.st.2.2.2.1.ne
 have hk := hS.kind
 rw [pot_ok,g_ok] at hP
 rw [pot_ok] at hM
 have f0 := hS.fine hL (by omega)
 have hlen := hR.len
 obtain ⟨a,kt,rfl⟩ : ∃ a kt,ks = a :: kt := by
  cases ks with
  | nil => exact absurd rfl hks
  | cons a kt => exact ⟨a,kt,rfl⟩
 obtain ⟨c0,ct,rfl⟩ : ∃ c ct,zs = c :: ct := by
  cases zs with
  | nil => simp at hlen
  | cons c ct => exact ⟨c,ct,rfl⟩
 have ha := (show Rep q.ps a c0 from hR.2.1).lt (h25 c0 (by simp))
 rcases jx_inv hJ with ⟨h,_⟩ | ⟨ss,fin,r0,hx,hs,hf⟩
 ·simp only [expand] at h;split at h <;> cases h
 by_cases h1 : (isOpd t.k && decide (0 < m)) = true
 ·simp only [expand,if_pos h1] at hx
  cases hx
  simp only [Bool.and_eq_true,decide_eq_true_eq] at h1
  obtain ⟨v1,r1,s1,j1,hs1,rfl⟩ := sx_jb hs
  obtain ⟨n1,x1,q1,p1,g1⟩ := A.tr .operand rfl j1 hS (by rw [pot_ok,g_ok];omega) (by rw [pot_ok];simp only [jlv];omega)
  have m1 := g1.mon
  have l1 := g1.len
  have b1 := g1.bnd
  rw [pot_ok,g_ok] at b1
  simp only [jlv,jdn,jmd] at b1 p1
  have y1 := g_le s1
  have hr := sx_nil hs1
  subst hr
  simp only [res_eq,cons_res] at hf
  have f1 := g1.sim.fine hL (by omega)
  have hstep : ∀ n,n1 <= n -> pr L 12 (n + 1) (.callL (a :: kt)) q = pr L 12 n (.callL (a :: kt ++ [x1])) q1 := fun n hn => by
   rw [pr,if_pos f0,st_callY ⟨by omega,by rw [hk,cOpd_eq];exact h1.1⟩,pr_up hn p1]
   simp only [bnd,if_pos f1]
  rcases fx_go hf (fun hg v h => by
   obtain ⟨c1,rfl,_⟩ := g1.rep (g_good.1 hg)
   cases h) with ⟨hb,e⟩ | ⟨hg,j',h,hJ'⟩
  ·have g00 := g_of hb
   rw [e]
   obtain ⟨e',p',hst⟩ := bad_of g00
   have k1 := (hst ▸ g1.sim).kind0
   refine ⟨n1 + 2,(q1.ps.length : Int),q1.add ⟨19,plOf q1.ps a,0,0,[],a :: kt ++ [x1]⟩,?_,got_add g1.sim g1.ext (fun h => by omega) (by rw [g_ok];omega) (by rw [pot_ok,g_ok];omega)⟩
   have hd : ∀ ks : List Int,¬ (ks.length <= 4 /\ cOpd (q1.kind L) = true) := fun ks => by rw [k1];simp [cOpd]
   rw [hstep _ (by omega),pr,if_pos f1]
   cases kt with
   | nil => exact (st_call2 (b := x1) (kt := []) (hd _) (by omega)).trans (if_pos f1)
   | cons b kt => exact (st_call2 (b := b) (kt := kt ++ [x1]) (hd _) (by omega)).trans (if_pos f1)
  ·have hg1 := g_good.1 hg
   obtain ⟨c1,rfl,rc1,kc1⟩ := g1.rep hg1
   cases h
   obtain ⟨n9,x9,q9,p9,g9⟩ := A.args (ks := a :: kt ++ [x1]) hJ' g1.sim (Reps.snoc (rc1.lt kc1).2 rc1 _ _ (hR.up g1.ext)) (fun c hc => by
    rcases List.mem_append.1 hc with hc | hc
    ·exact h25 c hc
    ·simp at hc;rw [hc];exact kc1) (by simp at hm ⊢;omega) (by simp) hg1 (by omega) (by omega)
   have m9 := g9.mon
   have b9 := g9.bnd
   refine ⟨n1 + n9 + 1,x9,q9,?_,g9.sim,ext_trans g1.ext g9.ext,g9.rep,by rw [g_ok];omega,by rw [pot_ok,g_ok];omega⟩
   rw [hstep _ (by omega)]
   exact pr_up (by omega) p9
 ·simp only [expand,if_neg h1] at hx
  cases hx
  have hr := sx_nil hs
  subst hr
  obtain ⟨rfl,hout⟩ := fx_out (s := .ok (t :: r) o) (fin := fun _ => .out (.tr (argsT (c0 :: ct)))) (vs := []) hf (fun j' h => by cases h)
  have ho := hout rfl
  injection ho with ho
  have hno : ¬ ((a :: kt).length <= 4 /\ cOpd (q.kind L) = true) := fun h => h1 (by
   rw [hk,cOpd_eq] at h
   simp only [Bool.and_eq_true,decide_eq_true_eq]
   exact ⟨h.2,by have := h.1;omega⟩)
  cases kt with
  | nil =>
    have hct : ct = [] := by cases ct with
     | nil => rfl
     | cons _ _ => simp at hlen
    subst hct
    refine ⟨1,a,q,?_,hS,⟨[],by simp⟩,fun _ => ⟨c0,ho.symm,hR.2.1,h25 c0 (by simp)⟩,Nat.le_refl _,by rw [pot_ok,g_ok];omega⟩
    rw [pr,if_pos f0,st_call1 hno]
    simp only [out,if_pos f0]
  | cons b kt =>
    obtain ⟨c2,ct,rfl⟩ : ∃ c2 ct',ct = c2 :: ct' := by
     cases ct with
     | nil => simp at hlen
     | cons c2 ct' => exact ⟨c2,ct',rfl⟩
    refine ⟨1,(q.ps.length : Int),q.add ⟨19,plOf q.ps a,0,0,[],a :: b :: kt⟩,?_,got_add hS ⟨[],by simp⟩ (fun _ => ⟨_,ho.symm,rep_new rfl (by omega) rfl (fun h => by omega) rfl hR,by show (19 : Nat) ≠ 25;omega⟩) (Nat.le_refl _) (by rw [pot_ok,g_ok];omega)⟩
    rw [pr,if_pos f0,st_call2 hno (by omega)]
    simp only [addR,if_pos f0]
theorem tup_dead {t : Tok} {a : Int} {kt : List Int} {x : Int} {n e p : Nat} (h : Sim L q oi (.bad e p)) (f0 : q.fine) (f1 : (q.finish L).fine) : pr L 12 (n + 1) (.tupL t (a :: kt ++ [x])) q = some ((q.ps.length : Int),(q.finish L).add ⟨7,t.p,0,0,[],a :: kt ++ [x]⟩) := by
 have k1 := h.kind0
 have hd : ∀ ks : List Int,¬ (ks.length < 6 /\ q.kind L = 25) := fun ks => by rw [k1];omega
 rw [pr,if_pos f0]
 cases kt with
 | nil => exact (st_tup2 (b := x) (kt := []) (hd _)).trans (if_pos f1)
 | cons b kt => exact (st_tup2 (b := b) (kt := kt ++ [x]) (hd _)).trans (if_pos f1)
theorem do_items (hL : L.length <= 1000) (A : Al L M) {zs : List T} {ks : List Int} {m : Nat} {t' : Tok} (hJ : Jx (.items m zs) s s' v) (hS : Sim L q oi s) (hR : Reps q.ps q.ps.length ks zs) (h25 : ∀ c ∈ zs,c.k ≠ 25) (hm : m + ks.length = 6) (hks : ks ≠ []) (hg0 : s.g = 1) (hoi : 1 <= oi) (hP : q.ps.length + s.pot + 5000 * s.g <= 85000) (hM : s.pot < M + 1) : Does L q (.tupL t' ks) s s' v oi (oi - 1) 5 0 0 := by
 cases s with
 | bad e p => cases hg0
 | ok l o =>
 obtain ⟨t,r,rfl⟩ := hS.st.2.2.2.1.ne
 have hk := hS.kind
 rw [pot_ok,g_ok] at hP
 rw [pot_ok] at hM
 have f0 := hS.fine hL (by omega)
 have hlen := hR.len
 obtain ⟨a,kt,rfl⟩ : ∃ a kt,ks = a :: kt := by
  cases ks with
  | nil => exact absurd rfl hks
  | cons a kt => exact ⟨a,kt,rfl⟩
 obtain ⟨c0,ct,rfl⟩ : ∃ c ct,zs = c :: ct := by
  cases zs with
  | nil => simp at hlen
  | cons c ct => exact ⟨c,ct,rfl⟩
 rcases jx_inv hJ with ⟨h,_⟩ | ⟨ss,fin,r0,hx,hs,hf⟩
 ·simp only [expand] at h;split at h <;> cases h
 by_cases h1 : t.k = 25 /\ 0 < m
 ·simp only [expand,if_pos h1] at hx
  cases hx
  obtain ⟨v0,r1,hs0,rfl,-⟩ := sx_tm hs
  rw [tm_ok,if_pos h1.1] at hs0
  have S0 := hS.take (by omega)
  have z0 : q.take.ps.length = q.ps.length := rfl
  obtain ⟨v1,r2,s1,j1,hs1,rfl⟩ := sx_jb hs0
  obtain ⟨n1,x1,q1,p1,g1⟩ := A.tr .expr rfl j1 S0 (by rw [pot_ok',g_ok];omega) (by rw [pot_ok'];simp only [jlv];omega)
  have m1 := g1.mon
  have l1 := g1.len
  have b1 := g1.bnd
  rw [pot_ok',g_ok] at b1
  simp only [jlv,jdn,jmd] at b1 p1
  have y1 := g_le s1
  have hr := sx_nil hs1
  subst hr
  simp only [res_eq,cons_res] at hf
  have f1 := g1.sim.fine hL (by omega)
  have hx1 : ∃ z,q1.ps = q.ps ++ z := g1.ext
  have hstep : ∀ n,n1 <= n -> pr L 12 (n + 1) (.tupL t' (a :: kt)) q = pr L 12 n (.tupL t' (a :: kt ++ [x1])) q1 := fun n hn => by
   rw [pr,if_pos f0,st_tupY ⟨by omega,by rw [hk];exact h1.1⟩,pr_up hn p1]
   simp only [bnd,if_pos f1]
  rcases fx_go hf (fun hg v h => by
   obtain ⟨c1,rfl,_⟩ := g1.rep (g_good.1 hg)
   cases h) with ⟨hb,e⟩ | ⟨hg,j',h,hJ'⟩
  ·have g00 := g_of hb
   rw [e]
   obtain ⟨e',p',hst⟩ := bad_of g00
   subst hst
   have S1 := g1.sim
   have S2 := S1.finish hoi
   have z2 : (q1.finish L).ps.length = q1.ps.length := rfl
   have f2 := S2.fine hL (by omega)
   refine ⟨n1 + 2,(q1.ps.length : Int),(q1.finish L).add ⟨7,t'.p,0,0,[],a :: kt ++ [x1]⟩,?_,got_add S2 hx1 (fun h => by cases h) (by rw [g_ok];exact Nat.zero_le _) (by rw [pot_ok,g_ok];simp only [Sg.cl,Sg.pot,Sg.g] at *;omega)⟩
   rw [hstep _ (by omega)]
   exact tup_dead S1 f1 f2
  ·have hg1 := g_good.1 hg
   obtain ⟨c1,rfl,rc1,kc1⟩ := g1.rep hg1
   cases h
   obtain ⟨n9,x9,q9,p9,g9⟩ := A.items (ks := a :: kt ++ [x1]) (t := t') hJ' g1.sim (Reps.snoc (rc1.lt kc1).2 rc1 _ _ (hR.up hx1)) (fun c hc => by
    rcases List.mem_append.1 hc with hc | hc
    ·exact h25 c hc
    ·simp at hc;rw [hc];exact kc1) (by simp at hm ⊢;omega) (by simp) hg1 hoi (by omega) (by omega)
   have m9 := g9.mon
   have b9 := g9.bnd
   refine ⟨n1 + n9 + 1,x9,q9,?_,g9.sim,ext_trans hx1 g9.ext,g9.rep,by rw [g_ok];omega,by rw [pot_ok,g_ok];omega⟩
   rw [hstep _ (by omega)]
   exact pr_up (by omega) p9
 ·simp only [expand,if_neg h1] at hx
  cases hx
  obtain ⟨v1,r1,hs1,rfl⟩ := sx_cl hs
  have S2 := hS.finish hoi
  obtain ⟨c2,d2⟩ := cl_b (.ok (t :: r) o)
  rw [pot_ok] at c2
  have y2 := g_le (Sg.cl (.ok (t :: r) o))
  obtain ⟨s2,hs2⟩ : ∃ s2,s2 = Sg.cl (.ok (t :: r) o) := ⟨_,rfl⟩
  rw [<- hs2] at hs1 S2 c2 d2 y2
  have hr := sx_nil hs1
  subst hr
  simp only [res_eq,cons_res] at hf
  obtain ⟨rfl,hout⟩ := fx_out (fin := fun _ => .out (.tr (itemsT (c0 :: ct)))) hf (fun j' h => by cases h)
  have z2 : (q.finish L).ps.length = q.ps.length := rfl
  have f2 := S2.fine hL (by omega)
  have hno : ¬ ((a :: kt).length < 6 /\ q.kind L = 25) := fun h => h1 ⟨by rw [<- hk];exact h.2,by have := h.1;omega⟩
  cases kt with
  | nil =>
    have hct : ct = [] := by cases ct with
     | nil => rfl
     | cons _ _ => simp at hlen
    subst hct
    refine ⟨1,a,q.finish L,?_,S2,⟨[],by simp [Q.finish]⟩,fun hg => ?_,d2,by rw [pot_ok,g_ok];omega⟩
    ·rw [pr,if_pos f0,st_tup1 hno]
     simp only [out,if_pos f2]
    ·have ho := hout (g_good.2 hg)
     injection ho with ho
     have hc0 := h25 c0 (by simp)
     exact ⟨brk c0,ho.symm,rep_brk.2 hR.2.1,by cases c0;exact hc0⟩
  | cons b kt =>
    obtain ⟨c2',ct,rfl⟩ : ∃ c2 ct',ct = c2 :: ct' := by
     cases ct with
     | nil => simp at hlen
     | cons c2 ct' => exact ⟨c2,ct',rfl⟩
    refine ⟨1,(q.ps.length : Int),(q.finish L).add ⟨7,t'.p,0,0,[],a :: b :: kt⟩,?_,got_add S2 ⟨[],by simp [Q.finish]⟩ (fun hg => ?_) d2 (by rw [pot_ok,g_ok];omega)⟩
    ·rw [pr,if_pos f0,st_tup2 hno]
     simp only [addR,if_pos f2]
     rfl
    ·have ho := hout (g_good.2 hg)
     injection ho with ho
     exact ⟨_,ho.symm,rep_new rfl (by omega) rfl (fun h => by omega) rfl hR,by show (7 : Nat) ≠ 25;omega⟩
end
section
variable {L : List Tok} {M : Nat} {s s' : Sg} {v : V} {q : Q} {oi : Int}
theorem do_leaf (hL : L.length <= 1000) {t : Tok} {r : List Tok} {o : Nat} (hJ : Jx .atom (.ok (t :: r) o) s' v) (hl : isLeaf t.k = true) (hS : Sim L q oi (.ok (t :: r) o)) (hP : q.ps.length + (Sg.ok (t :: r) o).pot + 5000 * (Sg.ok (t :: r) o).g <= 85000) : Does L q .atom (.ok (t :: r) o) s' v oi oi 2 50 0 := by
 have hk := hS.kind
 have hw := hS.word
 rw [pot_ok,g_ok] at hP
 have hl2 : t.k = 1 \/ t.k = 2 \/ t.k = 11 \/ t.k = 12 \/ t.k = 13 := by unfold isLeaf at hl;simp at hl;omega
 have h23 : t.k ≠ 23 := by omega
 rcases jx_inv hJ with ⟨h,_⟩ | ⟨ss,fin,r0,hx,hs,hf⟩
 ·simp only [expand,if_neg h23,if_pos hl] at h;cases h
 simp only [expand,if_neg h23,if_pos hl] at hx
 cases hx
 obtain ⟨v0,r1,hs1,rfl,hv0⟩ := sx_tm hs
 rw [tm_ok,if_pos rfl] at hs1
 have e0 := hv0 t r o rfl rfl
 subst e0
 have S1 := hS.take (by omega)
 have hr := sx_nil hs1
 subst hr
 obtain ⟨rfl,hout⟩ := fx_out (s := .ok r o) (vs := [.tk t]) hf (fun j' h => by cases h)
 have ho := hout rfl
 injection ho with ho
 have f0 := hS.fine hL (by omega)
 have z1 : q.take.ps.length = q.ps.length := rfl
 have f1 := S1.fine hL (by omega)
 rcases hl2 with h | h | h | h | h
 ·refine ⟨1,(q.ps.length : Int),q.take.add ⟨1,t.p,0,t.n,[],[]⟩,?_,got_add S1 ⟨[],by simp [Q.take]⟩ (fun _ => ⟨_,ho.symm,?_,by unfold leaf;rw [if_pos h];show (1 : Nat) ≠ 25;omega⟩) (by rw [g_ok,g_ok];exact Nat.le_refl _) (by rw [pot_ok,pot_ok',g_ok,g_ok];omega)⟩
  ·rw [pr,if_pos f0,pstp,hk,if_pos h]
   simp only [addR,if_pos f1,hw]
   rfl
  ·unfold leaf;rw [if_pos h]
   exact rep_new rfl (by omega) rfl (fun _ => rfl) rfl trivial
 ·refine ⟨1,(q.ps.length : Int),q.take.add ⟨5,t.p,0,0,[tkNm t],[]⟩,?_,got_add S1 ⟨[],by simp [Q.take]⟩ (fun _ => ⟨_,ho.symm,?_,by unfold leaf;rw [if_neg (by omega),if_pos h];show (5 : Nat) ≠ 25;omega⟩) (by rw [g_ok,g_ok];exact Nat.le_refl _) (by rw [pot_ok,pot_ok',g_ok,g_ok];omega)⟩
  ·rw [pr,if_pos f0,pstp,hk,if_neg (by omega),if_pos h]
   simp only [addR,if_pos f1,hw]
   rfl
  ·have hn : tkNm t = t.t := by unfold tkNm nmOf;rw [if_pos h]
   unfold leaf;rw [if_neg (by omega),if_pos h,hn]
   exact rep_new rfl (by omega) rfl (fun h => by omega) rfl trivial
 ·refine ⟨3,(q.ps.length : Int),q.take.add ⟨2,t.p,t.k,0,[],[]⟩,?_,got_add S1 ⟨[],by simp [Q.take]⟩ (fun _ => ⟨_,ho.symm,?_,by unfold leaf;rw [if_neg (by omega),if_neg (by omega),if_pos h];show (2 : Nat) ≠ 25;omega⟩) (by rw [g_ok,g_ok];exact Nat.le_refl _) (by rw [pot_ok,pot_ok',g_ok,g_ok];omega)⟩
  ·rw [pr,if_pos f0,pstp,hk,if_neg (by omega),if_neg (by omega),if_pos h,pref_open f0,pl_end f1 (by simp),hw]
   rfl
  ·unfold leaf;rw [if_neg (by omega),if_neg (by omega),if_pos h]
   exact rep_new rfl (by omega) h (fun h => by omega) rfl trivial
 ·refine ⟨3,(q.ps.length : Int),q.take.add ⟨3,t.p,t.k,0,[],[]⟩,?_,got_add S1 ⟨[],by simp [Q.take]⟩ (fun _ => ⟨_,ho.symm,?_,by unfold leaf;rw [if_neg (by omega),if_neg (by omega),if_neg (by omega),if_pos h];show (3 : Nat) ≠ 25;omega⟩) (by rw [g_ok,g_ok];exact Nat.le_refl _) (by rw [pot_ok,pot_ok',g_ok,g_ok];omega)⟩
  ·rw [pr,if_pos f0,pstp,hk,if_neg (by omega),if_neg (by omega),if_neg (by omega),if_pos h,pref_open f0,pl_end f1 (by simp),hw]
   rfl
  ·unfold leaf;rw [if_neg (by omega),if_neg (by omega),if_neg (by omega),if_pos h]
   exact rep_new rfl (by omega) h (fun h => by omega) rfl trivial
 ·refine ⟨3,(q.ps.length : Int),q.take.add ⟨4,t.p,t.k,0,[],[]⟩,?_,got_add S1 ⟨[],by simp [Q.take]⟩ (fun _ => ⟨_,ho.symm,?_,by unfold leaf;rw [if_neg (by omega),if_neg (by omega),if_neg (by omega),if_neg (by omega)];show (4 : Nat) ≠ 25;omega⟩) (by rw [g_ok,g_ok];exact Nat.le_refl _) (by rw [pot_ok,pot_ok',g_ok,g_ok];omega)⟩
  ·rw [pr,if_pos f0,pstp,hk,if_neg (by omega),if_neg (by omega),if_neg (by omega),if_neg (by omega),if_pos h,pref_open f0,pl_end f1 (by simp),hw]
   rfl
  ·unfold leaf;rw [if_neg (by omega),if_neg (by omega),if_neg (by omega),if_neg (by omega)]
   exact rep_new rfl (by omega) h (fun h => by omega) rfl trivial
theorem do_none (hL : L.length <= 1000) {t : Tok} {r : List Tok} {o : Nat} (hJ : Jx .atom (.ok (t :: r) o) s' v) (hl : ¬ isLeaf t.k = true) (h23 : t.k ≠ 23) (hS : Sim L q oi (.ok (t :: r) o)) (hP : q.ps.length + (Sg.ok (t :: r) o).pot + 5000 * (Sg.ok (t :: r) o).g <= 85000) : Does L q .atom (.ok (t :: r) o) s' v oi oi 2 50 0 := by
 have hk := hS.kind
 rw [pot_ok,g_ok] at hP
 have hl2 : t.k ≠ 1 /\ t.k ≠ 2 /\ t.k ≠ 11 /\ t.k ≠ 12 /\ t.k ≠ 13 := by
  refine ⟨?_,?_,?_,?_,?_⟩ <;> (intro h;rw [h] at hl;exact hl rfl)
 rcases jx_inv hJ with ⟨_,rfl⟩ | ⟨ss,fin,r0,hx,hs,hf⟩
 ·have f0 := hS.fine hL (by omega)
  have S1 := hS.failT 4 (by omega)
  have f1 := S1.fine hL (show q.ps.length <= 90000 by omega)
  refine ⟨1,-1,q.fail L 4,?_,S1,⟨[],by simp [Q.fail]⟩,fun h => (by cases h),(by rw [g_ok];exact Nat.zero_le _),by rw [pot_ok,g_ok];show q.ps.length + 0 + _ * 0 <= _;omega⟩
  rw [pr,if_pos f0,pstp,hk,if_neg hl2.1,if_neg hl2.2.1,if_neg hl2.2.2.1,if_neg hl2.2.2.2.1,if_neg hl2.2.2.2.2,if_neg h23]
  exact if_pos f1
 ·simp only [expand,if_neg h23,if_neg hl] at hx;cases hx
theorem do_open (hL : L.length <= 1000) (A : Al L M) {t : Tok} {r : List Tok} {o : Nat} (hJ : Jx .atom (.ok (t :: r) o) s' v) (h23 : t.k = 23) (hS : Sim L q oi (.ok (t :: r) o)) (hP : q.ps.length + (Sg.ok (t :: r) o).pot + 5000 * (Sg.ok (t :: r) o).g <= 85000) (hM : (Sg.ok (t :: r) o).pot + 2 < M + 1) : Does L q .atom (.ok (t :: r) o) s' v oi oi 2 50 0 := by
 have hk := hS.kind
 have hlo := hS.lo
 rw [pot_ok,g_ok] at hP
 rw [pot_ok] at hM
 rcases jx_inv hJ with ⟨h,_⟩ | ⟨ss,fin,r0,hx,hs,hf⟩
 ·rw [h23] at h;cases h
 rw [h23] at hx
 cases hx
 obtain ⟨r1,hs1,rfl⟩ := sx_op hs h23
 have S1 := hS.beg h23 (by omega)
 obtain ⟨o1p,o1q,o1e⟩ := op_b t r o
 obtain ⟨v2,r2,s2,j2,hs2,rfl⟩ := sx_jb hs1
 have hr := sx_nil hs2
 subst hr
 simp only [res_eq,cons_res] at hf
 obtain ⟨rfl,hout⟩ := fx_out hf (fun j' h => by cases h)
 have f0 := hS.fine hL (by omega)
 have z1 : (q.beg L 12 23).ps.length = q.ps.length := rfl
 have f1 := S1.fine hL (by omega)
 have hopen : ∀ n,pr L 12 (n + 2) .atom q = pstp L 12 (pr L 12 n) .brk q := fun n => by
  rw [pr,if_pos f0,pstp,hk,if_neg (by omega),if_neg (by omega),if_neg (by omega),if_neg (by omega),if_neg (by omega),if_pos h23,pr,if_pos f0]
 have hrep : ∀ {x : Int} {q' : Q},(s'.g = 1 -> ∃ c,v2 = .tr c /\ Rep q'.ps x c /\ c.k ≠ 25) -> (s'.g = 1 -> ∃ c,v = .tr c /\ Rep q'.ps x c /\ c.k ≠ 25) := fun h hg => by
  obtain ⟨c,rfl,h1,h2⟩ := h hg
  have ho := hout (g_good.2 hg)
  injection ho with ho
  exact ⟨c,ho.symm,h1,h2⟩
 obtain ⟨tt,htt⟩ : ∃ tt,tt = q.begW L 12 23 := ⟨_,rfl⟩
 have hdead : ∀ {q1 : Q} {x1 : Int} {n e p : Nat},Sim L q1 (oi + 1) (.bad e p) -> q1.ps.length <= 90000 -> pr L 12 (n + 1) (.tupL tt [x1]) q1 = some (x1,q1.finish L) := fun hd hl => by
  have k1 := hd.kind0
  have g1 := hd.fine hL hl
  have g2 := (hd.finish (by omega)).fine hL (show _ <= _ from hl)
  rw [pr,if_pos g1,st_tup1 (by rw [k1];omega)]
  exact if_pos g2
 cases hos : opS t r o with
 | bad e p =>
   rw [hos] at S1 j2
   have hs' : s' = .bad e p := j2
   subst hs'
   have k1 := S1.kind0
   have p2 := pr_dead S1 hL (by omega) .expr (.inl rfl)
   have S2 := S1.failB 4
   have f2 := S2.fine hL (show q.ps.length <= 90000 by omega)
   have S3 := S2.finish (by omega)
   rw [show oi + 1 - 1 = oi by omega] at S3
   refine ⟨11,-1,((q.beg L 12 23).fail L 4).finish L,?_,S3,⟨[],by simp [Q.finish,Q.fail,Q.beg]⟩,fun h => (by cases h),(by rw [g_ok];exact Nat.zero_le _),by rw [pot_ok,g_ok];show q.ps.length + 0 + _ * 0 <= _;omega⟩
   rw [hopen 9,pstp]
   simp only [k1]
   rw [if_neg (by omega),p2]
   simp only [bnd,if_pos f2]
   rw [<- htt]
   exact hdead S2 (show q.ps.length <= 90000 by omega)
 | ok lx ox =>
   rw [hos] at S1 j2 o1p
   obtain ⟨t2,rr,rfl⟩ := S1.st.2.2.2.1.ne
   have k1 := S1.kind
   rw [pot_ok] at o1p
   rcases jx_inv j2 with ⟨h,_⟩ | ⟨ss,fin,r0,hx,hs5,hf5⟩
   ·simp only [expand] at h;split at h <;> cases h
   by_cases h24 : t2.k = 24
   ·simp only [expand,if_pos h24] at hx
    cases hx
    obtain ⟨v6,r6,hs6,rfl⟩ := sx_cl hs5
    have S6 := S1.finish (by omega)
    rw [show oi + 1 - 1 = oi by omega] at S6
    rw [cl_ok,if_pos h24] at hs6 S6
    have hr := sx_nil hs6
    subst hr
    obtain ⟨rfl,hout5⟩ := fx_out (s := .ok rr (ox - 1)) (fin := fun _ => .out (.tr (.nd 0 6 0 0 [] []))) (vs := [v6]) hf5 (fun j' h => by cases h)
    have ho5 := hout5 rfl
    injection ho5 with ho5
    have z6 : ((q.beg L 12 23).finish L).ps.length = q.ps.length := rfl
    have f6 := S6.fine hL (by omega)
    refine ⟨2,(q.ps.length : Int),((q.beg L 12 23).finish L).add ⟨6,tt.p,0,0,[],[]⟩,?_,got_add S6 ⟨[],by simp [Q.finish,Q.beg]⟩ (hrep (q' := ((q.beg L 12 23).finish L).add ⟨6,tt.p,0,0,[],[]⟩) (fun _ => ⟨_,ho5.symm,rep_new rfl (by omega) rfl (fun h => by omega) rfl trivial,by show (6 : Nat) ≠ 25;omega⟩)) (by rw [g_ok,g_ok];exact Nat.le_refl _) (by rw [pot_ok,pot_ok',g_ok,g_ok];omega)⟩
    rw [hopen 0,pstp]
    simp only [k1]
    rw [if_pos h24,<- htt]
    exact if_pos f6
   ·simp only [expand,if_neg h24] at hx
    cases hx
    obtain ⟨v6,r6,s6,j6,hs6,rfl⟩ := sx_jb hs5
    obtain ⟨n6,x6,q6,p6,g6⟩ := A.tr .expr rfl j6 S1 (by rw [pot_ok,g_ok];omega) (by rw [pot_ok];simp only [jlv];omega)
    have m6 := g6.mon
    have l6 := g6.len
    have b6 := g6.bnd
    rw [pot_ok,g_ok] at b6
    simp only [jlv,jdn,jmd] at b6 p6
    have y6 := g_le s6
    have hr := sx_nil hs6
    subst hr
    simp only [res_eq,cons_res] at hf5
    have f6 := g6.sim.fine hL (by omega)
    have hx6 : ∃ z,q6.ps = q.ps ++ z := g6.ext
    have hstep : ∀ n,n6 <= n -> pr L 12 (n + 2) .atom q = pr L 12 n (.tupL tt [x6]) q6 := fun n hn => by
     rw [hopen n,pstp]
     simp only [k1]
     rw [if_neg h24,pr_up hn p6]
     simp only [bnd,if_pos f6]
     rw [<- htt]
    rcases fx_go hf5 (fun hg v h => by
     obtain ⟨c1,rfl,_⟩ := g6.rep (g_good.1 hg)
     cases h) with ⟨hb,e⟩ | ⟨hg,j',h,hJ'⟩
    ·have g00 := g_of hb
     obtain ⟨e',p',hst⟩ := bad_of g00
     subst e
     subst hst
     have S7 := g6.sim.finish (by omega)
     rw [show oi + 1 - 1 = oi by omega] at S7
     refine ⟨n6 + 1 + 2,x6,q6.finish L,?_,S7,hx6,fun h => (by cases h),(by rw [g_ok];exact Nat.zero_le _),?_⟩
     ·rw [hstep _ (by omega)]
      exact hdead g6.sim (by omega)
     ·rw [pot_ok,g_ok]
      show q6.ps.length + 0 + _ * 0 <= _
      simp only [Sg.pot,Sg.g] at b6
      omega
    ·have hg1 := g_good.1 hg
     obtain ⟨c1,rfl,rc1,kc1⟩ := g6.rep hg1
     cases h
     obtain ⟨n9,x9,q9,p9,g9⟩ := A.items (t := tt) hJ' g6.sim (reps1 rc1 kc1) (fun c hc => by simp at hc;rw [hc];exact kc1) rfl (by simp) hg1 (by omega) (by omega) (by omega)
     have S9 := g9.sim
     rw [show oi + 1 - 1 = oi by omega] at S9
     have m9 := g9.mon
     have b9 := g9.bnd
     refine ⟨n6 + n9 + 2,x9,q9,?_,S9,ext_trans hx6 g9.ext,hrep g9.rep,by rw [g_ok];omega,by rw [pot_ok,g_ok];omega⟩
     rw [hstep _ (by omega)]
     exact pr_up (by omega) p9
theorem do_tr (hL : L.length <= 1000) (A : Al L M) (j : J) (hj : tj j = true) (hJ : Jx j s s' v) (hS : Sim L q oi s) (hP : q.ps.length + s.pot + 5000 * s.g <= 85000) (hM : s.pot + jlv j < M + 1) : Does L q (jmd j) s s' v oi oi (jlv j) (jdn j) 0 := by
 cases s with
 | bad e p =>
   refine does_dead hL ?_ rfl hJ hS hP
   cases j <;> simp [tj] at hj <;> simp [jmd]
 | ok l o =>
   obtain ⟨t,r,rfl⟩ := hS.st.2.2.2.1.ne
   cases j <;> simp [tj] at hj
   case expr =>
    by_cases h3 : t.k = 3
    ·have hS1 := hS.take (by omega)
     rcases jx_inv hJ with ⟨h,_⟩ | ⟨ss,fin,r0,hx,hs,hf⟩
     ·rw [h3] at h;cases h
     rw [h3] at hx
     cases hx
     obtain ⟨v0,r1,hs1,rfl,-⟩ := sx_tm hs
     rw [tm_ok,if_pos h3] at hs1
     obtain ⟨v1,r2,s1,j1,hs2,rfl⟩ := sx_jb hs1
     have hr := sx_nil hs2
     subst hr
     simp only [res_eq,cons_res] at hf
     obtain ⟨rfl,hout⟩ := fx_out hf (fun j' h => by cases h)
     obtain ⟨t2,r3,rfl⟩ := hS1.st.2.2.2.1.ne
     have key : Does L q .expr (.ok (t :: t2 :: r3) o) s' v1 oi oi 20 40 0 := by
      by_cases h4 : t2.k = 4
      ·exact do_rec hL A j1 h3 h4 hS hP hM
      ·by_cases h23 : t2.k = 23
       ·exact do_pair hL A j1 h3 h23 hS hP hM
       ·exact do_let hL A j1 h3 h4 h23 hS hP hM
     obtain ⟨n,x,q',p,g⟩ := key
     refine ⟨n,x,q',p,g.sim,g.ext,fun hg => ?_,g.mon,g.bnd⟩
     obtain ⟨c,rfl,h1,h2⟩ := g.rep hg
     have ho := hout (g_good.2 hg)
     injection ho with ho
     exact ⟨c,ho.symm,h1,h2⟩
    ·by_cases h6 : t.k = 6
     ·exact do_if hL A hJ h6 hS hP hM
     ·by_cases h9 : t.k = 9
      ·exact do_fun hL A hJ h9 hS hP hM
      ·exact do_seq hL A hJ h3 h6 h9 hS hP hM
   case cmp => exact do_cmp hL A hJ hS hP hM
   case sum => exact do_sum hL A hJ hS hP hM
   case prod => exact do_prod hL A hJ hS hP hM
   case sign =>
    by_cases h31 : t.k = 31
    ·exact do_neg hL A hJ h31 hS hP hM
    ·by_cases h10 : t.k = 10
     ·exact do_not hL A hJ h10 hS hP hM
     ·exact do_sign hL A hJ h31 h10 hS hP hM
   case call =>
    by_cases h14 : t.k = 14
    ·exact do_print hL A hJ h14 hS hP hM
    ·by_cases h15 : t.k = 15
     ·exact do_len hL A hJ h15 hS hP hM
     ·by_cases h16 : t.k = 16
      ·exact do_array hL A hJ h16 hS hP hM
      ·by_cases h17 : t.k = 17
       ·exact do_put hL A hJ h17 hS hP hM
       ·exact do_callv hL A hJ h14 h15 h16 h17 hS hP hM
   case operand => exact do_operand hL A hJ hS hP hM
   case atom =>
    by_cases h23 : t.k = 23
    ·exact do_open hL A hJ h23 hS hP hM
    ·by_cases hl : isLeaf t.k = true
     ·exact do_leaf hL hJ hl hS hP
     ·exact do_none hL hJ hl h23 hS hP
theorem al_all (hL : L.length <= 1000) : ∀ M,Al L M := by
 intro M
 induction M with
 | zero => exact ⟨fun _ _ _ _ _ _ _ _ _ _ h => by omega,fun _ _ _ _ _ _ h => by omega,fun _ _ _ _ _ _ h => by omega,fun _ _ _ _ _ _ h => by omega,fun _ _ _ _ _ _ _ _ h => by omega,fun _ _ _ _ _ _ _ _ _ h => by omega⟩
 | succ M A => exact ⟨fun j hj _ _ _ _ _ hJ hS hP hM => do_tr hL A j hj hJ hS hP hM,do_terms hL A,do_facs hL A,do_index hL A,do_args hL A,do_items hL A⟩
end
def WrL (o : ByteArray) (l : List Tk) : ByteArray := l.foldl (fun o t => wr1 o (wt t)) o
theorem WrL_app (o : ByteArray) (a b : List Tk) : WrL o (a ++ b) = WrL (WrL o a) b := by simp [WrL]
theorem WrL_nil (o : ByteArray) : WrL o [] = o := rfl
theorem WrL_cons (o : ByteArray) (t : Tk) (l : List Tk) : WrL o (t :: l) = WrL (wr1 o (wt t)) l := rfl
theorem WrL_size : ∀ (l : List Tk) (o : ByteArray),o.size <= (WrL o l).size
 | [],o => Nat.le_refl _
 | t :: l,o => Nat.le_trans (wr1_size o (wt t)).1 (WrL_size l _)
theorem wr_of {o : ByteArray} {k : Nat} (h : 3 <= k) : wr1 o (wt (Tk.of k)) = wr1 o (txt k) := by rw [wt_of h]
theorem wr_nm (o x : ByteArray) : wr1 o (wt (nmTk x)) = wr1 o x := by simp [wt,nmTk]
theorem wr_nu (o : ByteArray) (n : Nat) : wr1 o (wt (nuTk n)) = wr1 o (dec n) := by simp [wt,nuTk]
theorem wr_0 (o : ByteArray) : wr1 o (txt 0) = o := by
 unfold wr1
 rw [if_pos (by decide)]
theorem lw_0 : ∀ (ns : List ByteArray) (o : ByteArray) (b : Bool),lw 0 o b ns = WrL o (ns.map nmTk)
 | [],o,b => by cases b <;> rfl
 | x :: r,o,true => by rw [lw,List.map_cons,WrL_cons,wr_nm,lw_0 r]
 | x :: r,o,false => by rw [lw,List.map_cons,WrL_cons,wr_nm,wr_0,lw_0 r]
theorem lw_25' : ∀ (ns : List ByteArray) (o : ByteArray),lw 25 o false ns = WrL o (ns.flatMap fun x => [Tk.of 25,nmTk x])
 | [],o => rfl
 | x :: r,o => by
   rw [lw,List.flatMap_cons]
   show _ = WrL o (Tk.of 25 :: nmTk x :: _)
   rw [WrL_cons,WrL_cons,wr_of (by omega),wr_nm,lw_25' r]
   rfl
theorem lw_25 (ns : List ByteArray) (o : ByteArray) : lw 25 o true ns = WrL o (commas ns) := by
 cases ns with
 | nil => rfl
 | cons x r => rw [lw,commas_eq,WrL_cons,wr_nm,lw_25']
theorem mik_get (k : Nat) : ∀ (l : List T) (i j : Nat),(mik k i l)[j]? = (l[j]?).map (fun c => mi (wanted k (i + j)) c)
 | [],i,j => by simp [mik]
 | c :: r,i,0 => by simp [mik]
 | c :: r,i,j + 1 => by
   rw [mik,List.getElem?_cons_succ,List.getElem?_cons_succ,mik_get k r (i + 1) j]
   congr 2
   funext c
   rw [show i + 1 + j = i + (j + 1) by omega]
def kfT (k off : Nat) (kids : List T) (j : Nat) (o : ByteArray) : ByteArray :=
 match kids[j + off]? with
 | some c => WrL o (fl (mi (wanted k j) c))
 | none => o
theorem kfT_mono (k off : Nat) (kids : List T) (j : Nat) (o : ByteArray) : o.size <= (kfT k off kids j o).size := by
 unfold kfT
 split
 ·exact WrL_size _ _
 ·exact Nat.le_refl _
theorem kfT_at {k off : Nat} {kids : List T} {j : Nat} {c : T} (h : kids[j + off]? = some c) (o : ByteArray) : kfT k off kids j o = WrL o (fl (mi (wanted k j) c)) := by
 unfold kfT;rw [h]
theorem flk_snoc (k s : Nat) (a : List T) (c : T) : flk k s 0 (a ++ [c]) = flk k s 0 a ++ (sep k s a.length ++ fl c) := by
 rw [flk_app]
 simp [flk]
theorem ksF_eq {k s sg : Nat} {kids : List T} (o : ByteArray) (hs : ∀ i o,wr1 o (txt sg) = WrL o (sep k s (i + 1))) : ∀ n,n <= kids.length -> ksF sg (kfT k 0 kids) n o = WrL o (flk k s 0 ((mik k 0 kids).take n)) := by
 intro n
 induction n with
 | zero => intro _;simp [ksF,flk,WrL]
 | succ n ih =>
   intro hn
   have hlen : (mik k 0 kids).length = kids.length := mik_len k kids 0
   have hg : (mik k 0 kids)[n]? = some (mi (wanted k n) kids[n]) := by
    rw [mik_get,List.getElem?_eq_getElem (by omega)]
    simp
   rw [ksF,ih (by omega),kfT_at (c := kids[n]) (by simp),List.take_add_one,hg]
   show _ = WrL o (flk k s 0 (List.take n (mik k 0 kids) ++ [mi (wanted k n) kids[n]]))
   rw [flk_snoc,WrL_app,WrL_app,List.length_take,hlen]
   congr 1
   have hmin : min n kids.length = n := by omega
   rw [hmin]
   cases n with
   | zero => rfl
   | succ m => rw [if_neg (by omega),hs m]
theorem ksF_all {k s sg : Nat} {kids : List T} (o : ByteArray) (hs : ∀ i o,wr1 o (txt sg) = WrL o (sep k s (i + 1))) : ksF sg (kfT k 0 kids) kids.length o = WrL o (flk k s 0 (mik k 0 kids)) := by
 rw [ksF_eq o hs _ (Nat.le_refl _),List.take_of_length_le (by rw [mik_len];exact Nat.le_refl _)]
theorem Reps.at {ps : List CP} {j : Nat} : ∀ (cs : List T) (is : List Int) (m : Nat) (c : T),Reps ps j is cs -> cs[m]? = some c -> ∃ i : Int,is[m]? = some i /\ i < j /\ Rep ps i c
 | [],is,m,c,h,hc => by simp at hc
 | d :: cs,is,m,c,h,hc => by
   cases is with
   | nil => rw [Reps] at h;exact h.elim;all_goals (intros;simp_all)
   | cons i is =>
     rw [Reps] at h
     cases m with
     | zero => simp at hc;subst hc;exact ⟨i,rfl,h.1,h.2.1⟩
     | succ m => exact Reps.at cs is m c h.2.2 (by simpa using hc)
theorem arB_k {k s m : Nat} {xs : List ByteArray} (h : arB k s xs m = true) : k < 26 /\ k ≠ 0 /\ wdO k s < 35 /\ m <= 6 /\ xs.length <= 6 := by
 unfold arB at h
 split at h <;> first
  | (simp at h;done)
  | (simp at h;refine ⟨by omega,by omega,by (simp [wdO] <;> omega),by omega,?_⟩;(try obtain ⟨h1,h2⟩ := h);simp_all;done)
  | (simp at h;obtain ⟨h1,h2⟩ := h;simp_all [wdO];done)
  | (simp at h;obtain ⟨h1,h2⟩ := h;simp_all [wdO];omega)
  | (simp at h;obtain ⟨⟨h1,h2⟩,h3⟩ := h;simp_all [wdO];omega)
  | (simp at h;obtain ⟨⟨h1,h2⟩,h3⟩ := h;simp_all [wdO];done)
  | (simp at h;simp_all [wdO];omega)
def bodT (k s n : Nat) (xs : List ByteArray) (kids : List T) : List Tk := (if k = 7 then [oB] else []) ++ (pre k s n xs ++ (flk k s 0 (mik k 0 kids) ++ (post k ++ (if k = 7 then [cB] else []))))
theorem fl_mi {q b k s n : Nat} {xs : List ByteArray} {kids : List T} (h25 : k ≠ 25) (hq : q <= 7) : fl (mi q (.nd b k s n xs kids)) = if rk k < q then oB :: (bodT k s n xs kids ++ [cB]) else bodT k s n xs kids := by
 rw [mi,fl]
 unfold need bodT
 by_cases h7 : k = 7
 ·subst h7
  have : ¬ rk 7 < q := by show ¬ 7 < q;omega
  rw [if_pos (.inl rfl),if_neg this]
  simp
 ·rw [if_neg (by omega)]
  split
  ·simp [h7]
  ·simp [h7]
def okW (t : Tk) : Prop := (wt t).size <= 1000 /\ (t.k = 1 -> t.n <= 4611686018427387903)
theorem mem_flk {k s : Nat} {t : Tk} : ∀ (l : List T) (i j : Nat) (c : T),l[j]? = some c -> t ∈ fl c -> t ∈ flk k s i l
 | [],i,j,c,h,ht => by simp at h
 | d :: r,i,0,c,h,ht => by simp at h;subst h;rw [flk];simp [ht]
 | d :: r,i,j + 1,c,h,ht => by
   rw [flk]
   have := mem_flk (k := k) (s := s) r (i + 1) j c (by simpa using h) ht
   simp [this]
theorem kid_okW {q b k s n : Nat} {xs : List ByteArray} {kids : List T} {j : Nat} {c : T} (h25 : k ≠ 25) (hq : q <= 7) (h : ∀ t ∈ fl (mi q (.nd b k s n xs kids)),okW t) (hc : kids[j]? = some c) : ∀ t ∈ fl (mi (wanted k j) c),okW t := fun t ht => by
 refine h t ?_
 have hm : t ∈ flk k s 0 (mik k 0 kids) := mem_flk _ 0 j (mi (wanted k j) c) (by rw [mik_get,hc];simp) ht
 rw [fl_mi h25 hq]
 unfold bodT
 split <;> simp [hm]
theorem pre_okW {q b k s n : Nat} {xs : List ByteArray} {kids : List T} (h25 : k ≠ 25) (hq : q <= 7) (h : ∀ t ∈ fl (mi q (.nd b k s n xs kids)),okW t) : ∀ t ∈ pre k s n xs,okW t := fun t ht => by
 refine h t ?_
 rw [fl_mi h25 hq]
 unfold bodT
 split <;> simp [ht]
theorem patss_at {k : Nat} : ∀ (l : List T) (i j : Nat) (c : T),patss k i l -> l[j]? = some c -> patOk k (i + j) c /\ pats c
 | [],i,j,c,h,hc => by simp at hc
 | d :: r,i,0,c,h,hc => by simp at hc;subst hc;exact ⟨h.1,h.2.1⟩
 | d :: r,i,j + 1,c,h,hc => by
   have := patss_at r (i + 1) j c h.2.2 (by simpa using hc)
   rw [show i + 1 + j = i + (j + 1) by omega] at this
   exact this
theorem fines_at : ∀ (l : List T) (j : Nat) (c : T),fines l -> l[j]? = some c -> fine c
 | [],j,c,h,hc => by simp at hc
 | d :: r,0,c,h,hc => by simp at hc;subst hc;exact h.1
 | d :: r,j + 1,c,h,hc => fines_at r j c h.2 (by simpa using hc)
section
variable {w0 : World} {p base : Nat} {pv : Value} {ps : List CP} {vs : List (Value × Value)}
theorem pt_of (E : WE w0 p base pv ps vs) {i : Nat} {c : CP} (hc : ps[i]? = some c) : ∃ na nc ka kc,PtI ps vs i c.k c.a c.wd c.nm na c.ns.length nc ka c.ks.length kc /\ w0.ownsRow base 9 1 (.slice na c.ns.length nc) c.ns.length (c.ns.map Value.string) := by
 obtain ⟨hi,rfl⟩ := List.getElem?_eq_some_iff.1 hc
 have hi' : i < vs.length := by rw [E.pt.len];exact hi
 have hr := E.pt.rows i hi hi'
 obtain ⟨na,nc,hn⟩ := own_slice hr.names
 obtain ⟨ka,kc,hk⟩ := own_slice hr.kids
 refine ⟨na,nc,ka,kc,⟨hi,hi',rfl,rfl,rfl,rfl,hn,hk,rfl,rfl⟩,?_⟩
 have := hr.names
 rw [hn] at this
 exact this
end
theorem W3 (o : ByteArray) (k : Nat) (l : List Tk) (h : 3 <= k) : WrL o (Tk.of k :: l) = WrL (wr1 o (txt k)) l := by rw [WrL_cons,wr_of h]
theorem sep_no {k s sg : Nat} (hsg : sg = 0) (hk : ∀ i,sep k s (i + 1) = []) : ∀ i o,wr1 o (txt sg) = WrL o (sep k s (i + 1)) := fun i o => by rw [hsg,hk i,wr_0];rfl
theorem sep_one {k s sg : Nat} (hsg : 3 <= sg) (hk : ∀ i,sep k s (i + 1) = [Tk.of sg]) : ∀ i o,wr1 o (txt sg) = WrL o (sep k s (i + 1)) := fun i o => by rw [hk i,W3 _ _ _ hsg];rfl
theorem k_cases {k : Nat} (h : k < 26) (h0 : k ≠ 0) (h25 : k ≠ 25) : k = 1 \/ k = 5 \/ (k = 6 \/ k = 7) \/ k = 8 \/ k = 9 \/ k = 10 \/ k = 11 \/ k = 12 \/ (k = 15 \/ k = 16 \/ k = 17 \/ k = 18) \/ k = 20 \/ (k = 2 \/ k = 3 \/ k = 4 \/ k = 13 \/ k = 14 \/ k = 19 \/ k = 21 \/ k = 22 \/ k = 23 \/ k = 24) := by omega
theorem bod1 (o : ByteArray) (s n : Nat) (xs : List ByteArray) : wr1 o (dec n) = WrL o (bodT 1 s n xs []) := by
 simp [bodT,pre,flk,mik,post]
 rw [WrL_cons,wr_nu];rfl
theorem bod5 (o : ByteArray) (s n : Nat) (xs : List ByteArray) : lw 0 o true xs = WrL o (bodT 5 s n xs []) := by
 simp [bodT,pre,flk,mik,post]
 exact lw_0 xs o true
theorem bod6 (o : ByteArray) (s n : Nat) (xs : List ByteArray) : wr1 (wr1 o (txt 23)) (txt 24) = WrL o (bodT 6 s n xs []) := by
 simp [bodT,pre,flk,mik,post]
 rw [W3 _ _ _ (by omega),W3 _ _ _ (by omega)];rfl
theorem bod7 (o : ByteArray) (s n : Nat) (xs : List ByteArray) (kids : List T) : wr1 (ksF 25 (kfT 7 0 kids) kids.length (wr1 o (txt 23))) (txt 24) = WrL o (bodT 7 s n xs kids) := by
 rw [ksF_all (s := s) _ (sep_one (by omega) (fun i => rfl))]
 simp [bodT,pre,post]
 rw [W3 _ _ _ (by omega),WrL_app,W3 _ _ _ (by omega)];rfl
theorem bod8 (o : ByteArray) (s n : Nat) (xs : List ByteArray) (a b : T) : kfT 8 0 [a,b] 1 (wr1 (kfT 8 0 [a,b] 0 (wr1 (lw 0 (wr1 o (txt 3)) true xs) (txt 27))) (txt 5)) = WrL o (bodT 8 s n xs [a,b]) := by
 rw [kfT_at (j := 0) (c := a) rfl,kfT_at (j := 1) (c := b) rfl,lw_0]
 simp [bodT,pre,flk,mik,post,sep]
 rw [W3 _ _ _ (by omega),WrL_app,W3 _ _ _ (by omega),WrL_app,W3 _ _ _ (by omega)]
theorem bod9 (o : ByteArray) (s n : Nat) (xs : List ByteArray) (a b : T) : kfT 9 0 [a,b] 1 (wr1 (kfT 9 0 [a,b] 0 (wr1 (lw 0 (wr1 (wr1 o (txt 3)) (txt 4)) true xs) (txt 27))) (txt 5)) = WrL o (bodT 9 s n xs [a,b]) := by
 rw [kfT_at (j := 0) (c := a) rfl,kfT_at (j := 1) (c := b) rfl,lw_0]
 simp [bodT,pre,flk,mik,post,sep]
 rw [W3 _ _ _ (by omega),W3 _ _ _ (by omega),WrL_app,W3 _ _ _ (by omega),WrL_app,W3 _ _ _ (by omega)]
theorem bod10 (o : ByteArray) (s n : Nat) (xs ys : List ByteArray) (s2 n2 b2 : Nat) (ks2 : List T) (hk2 : ks2 = []) (a b : T) : kfT 10 1 [.nd b2 25 s2 n2 ys ks2,a,b] 1 (wr1 (kfT 10 1 [.nd b2 25 s2 n2 ys ks2,a,b] 0 (wr1 (wr1 (lw 25 (wr1 (wr1 o (txt 3)) (txt 23)) true ys) (txt 24)) (txt 27))) (txt 5)) = WrL o (bodT 10 s n xs [.nd b2 25 s2 n2 ys ks2,a,b]) := by
 subst hk2
 rw [kfT_at (j := 0) (c := a) rfl,kfT_at (j := 1) (c := b) rfl,lw_25]
 simp [bodT,pre,flk,mik,post,sep,mi,fl,need]
 rw [W3 _ _ _ (by omega),W3 _ _ _ (by omega),WrL_app,W3 _ _ _ (by omega),W3 _ _ _ (by omega),WrL_app,W3 _ _ _ (by omega)]
 rfl
theorem bod11 (o : ByteArray) (s n : Nat) (xs : List ByteArray) (a b c : T) : kfT 11 0 [a,b,c] 2 (wr1 (kfT 11 0 [a,b,c] 1 (wr1 (kfT 11 0 [a,b,c] 0 (wr1 o (txt 6))) (txt 7))) (txt 8)) = WrL o (bodT 11 s n xs [a,b,c]) := by
 rw [kfT_at (j := 0) (c := a) rfl,kfT_at (j := 1) (c := b) rfl,kfT_at (j := 2) (c := c) rfl]
 simp [bodT,pre,flk,mik,post,sep]
 rw [W3 _ _ _ (by omega),WrL_app,W3 _ _ _ (by omega),WrL_app,W3 _ _ _ (by omega)]
theorem bod12 (o : ByteArray) (s n : Nat) (xs : List ByteArray) (a : T) : kfT 12 0 [a] 0 (wr1 (lw 0 (wr1 o (txt 9)) true xs) (txt 22)) = WrL o (bodT 12 s n xs [a]) := by
 rw [kfT_at (j := 0) (c := a) rfl,lw_0]
 simp [bodT,pre,flk,mik,post,sep]
 rw [W3 _ _ _ (by omega),WrL_app,W3 _ _ _ (by omega)]
theorem bodB (o : ByteArray) (k s n : Nat) (xs : List ByteArray) (kids : List T) (hk : k = 15 \/ k = 16 \/ k = 17 \/ k = 18) (hs : 3 <= wdO k s) : ksF (wdO k s) (kfT k 0 kids) kids.length o = WrL o (bodT k s n xs kids) := by
 rcases hk with rfl | rfl | rfl | rfl
 all_goals
  rw [ksF_all (s := s) _ (sep_one hs (fun i => rfl))]
  simp [bodT,pre,post]
theorem bod20 (o : ByteArray) (s n : Nat) (xs : List ByteArray) (kids : List T) : wr1 (ksF 18 (kfT 20 0 kids) kids.length o) (txt 24) = WrL o (bodT 20 s n xs kids) := by
 rw [ksF_all (s := s) _ (sep_one (by omega) (fun i => rfl))]
 simp [bodT,pre,post]
 rw [WrL_app,W3 _ _ _ (by omega)];rfl
theorem bodD (o : ByteArray) (k s n : Nat) (xs : List ByteArray) (kids : List T) (hk : k = 2 \/ k = 3 \/ k = 4 \/ k = 13 \/ k = 14 \/ k = 19 \/ k = 21 \/ k = 22 \/ k = 23 \/ k = 24) : ksF 0 (kfT k 0 kids) kids.length (wr1 o (txt (wdO k s))) = WrL o (bodT k s n xs kids) := by
 rcases hk with rfl | rfl | rfl | rfl | rfl | rfl | rfl | rfl | rfl | rfl
 all_goals
  rw [ksF_all (s := s) _ (sep_no rfl (fun i => rfl))]
  simp [bodT,pre,post,wdO]
  first
   | rw [W3 _ _ _ (by omega)]
   | rw [wr_0]
theorem ar2 {k s : Nat} {xs : List ByteArray} {kids : List T} (h : arB k s xs kids.length = true) : (k = 1 \/ k = 5 \/ k = 6 -> kids = []) /\ (k = 8 \/ k = 9 -> ∃ a b,kids = [a,b]) /\ (k = 10 -> ∃ a b c,kids = [a,b,c]) /\ (k = 11 -> ∃ a b c,kids = [a,b,c]) /\ (k = 12 -> ∃ a,kids = [a]) /\ (k = 25 -> kids = []) /\ (k = 15 \/ k = 16 \/ k = 17 \/ k = 18 -> 3 <= wdO k s) := by
 have two : kids.length = 2 -> ∃ a b,kids = [a,b] := fun h => by
  match kids,h with
  | [a,b],_ => exact ⟨a,b,rfl⟩
 have three : kids.length = 3 -> ∃ a b c,kids = [a,b,c] := fun h => by
  match kids,h with
  | [a,b,c],_ => exact ⟨a,b,c,rfl⟩
 have one : kids.length = 1 -> ∃ a,kids = [a] := fun h => by
  match kids,h with
  | [a],_ => exact ⟨a,rfl⟩
 have zero : kids.length = 0 -> kids = [] := List.length_eq_zero_iff.1
 refine ⟨fun h0 => ?_,fun h0 => ?_,fun h0 => ?_,fun h0 => ?_,fun h0 => ?_,fun h0 => ?_,fun h0 => ?_⟩
 ·rcases h0 with rfl | rfl | rfl <;> (simp [arB] at h;exact h.1)
 ·rcases h0 with rfl | rfl <;> (simp [arB] at h;exact two (by omega))
 ·subst h0;simp [arB] at h;exact three h.1
 ·subst h0;simp [arB] at h;exact three h.1
 ·subst h0;simp [arB] at h;exact one (by omega)
 ·subst h0;simp [arB] at h;first | exact h.1 | exact h.1.1
 ·rcases h0 with rfl | rfl | rfl | rfl <;> (simp [arB,wdO] at h ⊢;try omega)
end Go.Proofs.YtmkdoejpgkgpbaaGreatDoor
