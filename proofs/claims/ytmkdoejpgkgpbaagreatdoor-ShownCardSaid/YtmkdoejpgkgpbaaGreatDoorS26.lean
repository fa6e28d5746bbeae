import Derived.Test.YtmkdoejpgkgpbaaGreatDoorS25
set_option linter.unusedVariables false
set_option linter.unusedSimpArgs false
set_option maxHeartbeats 20000000
namespace Go.Proofs.YtmkdoejpgkgpbaaGreatDoor
open Go.RowKit Sl
noncomputable def sameB (g g' : G) : Bool := @decide (er g = er g') (Classical.propDecidable _)
theorem sameB_iff {g g' : G} : sameB g g' = true ↔ er g = er g' := by unfold sameB;simp
mutual
def smG : G -> Prop
 | .nd _ _ _ _ xs ks => xs.length <= 100 /\ ks.length <= 100 /\ smGs ks
def smGs : List G -> Prop
 | [] => True
 | g :: r => smG g /\ smGs r
end
theorem ers_len : ∀ l : List G,(ers l).length = l.length
 | [] => rfl
 | g :: r => by rw [ers,List.length_cons,ers_len r];rfl
theorem gts_len : ∀ l : List T,(gts l).length = l.length
 | [] => rfl
 | g :: r => by rw [gts,List.length_cons,gts_len r];rfl
mutual
theorem smG_er : ∀ g : G,smG (er g) -> smG g
 | .nd _ _ _ _ xs ks,h => by
   rw [er,smG] at h
   rw [smG]
   exact ⟨h.1,by rw [<- ers_len];exact h.2.1,smGs_er ks h.2.2⟩
theorem smGs_er : ∀ l : List G,smGs (ers l) -> smGs l
 | [],_ => trivial
 | g :: r,h => by
   rw [ers,smGs] at h
   exact ⟨smG_er g h.1,smGs_er r h.2⟩
end
theorem smGs_of : ∀ l : List T,(∀ c ∈ l,smG (gt c)) -> smGs (gts l)
 | [],_ => trivial
 | c :: r,h => ⟨h c (by simp),smGs_of r (fun d hd => h d (by simp [hd]))⟩
theorem smGs_tail {l : List G} (h : smGs l) : smGs l.tail := by
 cases l with
 | nil => trivial
 | cons g r => exact h.2
theorem smG_gt : ∀ (m : Nat) (c : T),SizeOf.sizeOf c <= m -> fine c -> smG (gt c) := by
 intro m
 induction m with
 | zero => intro c h;cases c;simp at h
 | succ m ih =>
   intro c hs hf
   cases c with
   | nd b k s n xs kids =>
     rw [fine] at hf
     have hk : smGs (gts kids) := smGs_of kids (fun c hc => ih c (by have := List.sizeOf_lt_of_mem hc;simp at hs;omega) (fines_mem hf.2 c hc))
     have ha := hf.1
     have hl : xs.length <= 100 /\ kids.length <= 100 := by
      unfold arB at ha
      split at ha <;> first
       | (simp at ha;done)
       | (simp at ha;obtain ⟨h1,h2⟩ := ha;simp_all;done)
       | (simp at ha;obtain ⟨h1,h2⟩ := ha;simp_all;omega)
       | (simp at ha;obtain ⟨⟨h1,h2⟩,h3⟩ := ha;simp_all;omega)
       | (simp at ha;omega)
     have hpn : k = 10 -> (patNames kids).length <= 100 := fun h10 => by
      cases kids with
      | nil => simp [patNames]
      | cons c r =>
        cases c with
        | nd b1 k1 s1 n1 xs1 kids1 =>
          show xs1.length <= 100
          have hf1 := hf.2.1
          rw [fine] at hf1
          have ha1 := hf1.1
          unfold arB at ha1
          split at ha1 <;> first
           | (simp at ha1;done)
           | (simp at ha1;obtain ⟨h1,h2⟩ := ha1;simp_all;done)
           | (simp at ha1;obtain ⟨h1,h2⟩ := ha1;simp_all;omega)
           | (simp at ha1;obtain ⟨⟨h1,h2⟩,h3⟩ := ha1;simp_all;omega)
           | (simp at ha1;omega)
     have hkl : (gts kids).length <= 100 := by rw [gts_len];exact hl.2
     rw [gt]
     unfold gNode
     split <;> (refine ⟨?_,?_,?_⟩ <;> first
      | exact hkl
      | exact hk
      | trivial
      | exact hpn rfl
      | exact smGs_tail hk
      | exact hl.1
      | (rw [List.length_tail];omega)
      | (simp;done))
theorem HTs.at {w : World} {B n : Nat} : ∀ {ps : List Value} {gs : List G},HTs w B n ps gs -> ∀ (i : Nat) (u : Value),ps[i]? = some u -> ∃ g,gs[i]? = some g /\ HT w B n u g := by
 intro ps
 induction ps with
 | nil => intro gs _ i u hu;simp at hu
 | cons p r ih =>
   intro gs h i u hu
   cases h with
   | cons h1 h2 =>
     cases i with
     | zero => simp at hu;subst hu;exact ⟨_,rfl,h1⟩
     | succ i => simp at hu;exact ih h2 i u hu
theorem ers_ext : ∀ (l l' : List G),ers l = ers l' ↔ l.length = l'.length /\ ∀ (i : Nat) (g g' : G),l[i]? = some g -> l'[i]? = some g' -> er g = er g'
 | [],[] => by simp [ers]
 | [],_ :: _ => by simp [ers]
 | _ :: _,[] => by simp [ers]
 | a :: r,a' :: r' => by
   rw [ers,ers]
   constructor
   ·intro h
    injection h with h1 h2
    obtain ⟨i1,i2⟩ := (ers_ext r r').1 h2
    refine ⟨by simp [i1],fun i g g' hg hg' => ?_⟩
    cases i with
    | zero => simp at hg hg';subst hg hg';exact h1
    | succ i => simp at hg hg';exact i2 i g g' hg hg'
   ·rintro ⟨h1,h2⟩
    rw [h2 0 a a' rfl rfl,(ers_ext r r').2 ⟨by simpa using h1,fun i g g' hg hg' => h2 (i + 1) g g' (by simpa using hg) (by simpa using hg')⟩]
theorem smGs_mem : ∀ {l : List G},smGs l -> ∀ g ∈ l,smG g
 | [],_,g,hg => by simp at hg
 | d :: r,h,g,hg => by
   rcases List.mem_cons.1 hg with rfl | hg
   ·exact h.1
   ·exact smGs_mem h.2 g hg
theorem same_any : ∀ (m : Nat) (g g' : G),SizeOf.sizeOf g <= m -> smG g -> ∀ (w : World) (B n B' n' : Nat) (v v' : Value),HT w B n v g -> HT w B' n' v' g' ->
 Calls Tryz.prog 123 #[v,v'] w fun e w' => e = .returned (.bool (sameB g g')) /\ ∃ q,w' = w.drewN q := by
 intro m
 induction m with
 | zero => intro g g' h;cases g;simp at h
 | succ m ih =>
   intro g g' hs hsm w B n B' n' v v' ht ht'
   cases ht with
   | nd h1 h2 h3 h4 h5 h6 =>
   cases ht' with
   | nd k1 k2 k3 k4 k5 k6 =>
     rename_i bt form name pos num names kids nv kv ps bt' form' name' pos' num' names' kids' nv' kv' ps'
     rw [smG] at hsm
     refine same_walk (sb := fun i => sameB (kids.getD i (.nd f_0 0 0 f_0 [] [])) (kids'.getD i (.nd f_0 0 0 f_0 [] []))) h3 k3 h4 k4 h5 k5 ?_ ?_ (by omega) (by have := h6.len;omega)
     ·intro i u u' hu hu'
      obtain ⟨gi,e1,t1⟩ := h6.at i u hu
      obtain ⟨gi',e2,t2⟩ := k6.at i u' hu'
      obtain ⟨p,hp,_⟩ := t1.ptr
      obtain ⟨p',hp',_⟩ := t2.ptr
      refine ⟨⟨p,hp⟩,⟨p',hp'⟩,fun q => ?_⟩
      have hm : gi ∈ kids := List.mem_of_getElem? e1
      have := ih gi gi' (by have := List.sizeOf_lt_of_mem hm;simp at hs;omega) (smGs_mem hsm.2.2 gi hm) (w.drewN q) B n B' n' u u' (t1.keep fun _ _ _ => rfl) (t2.keep fun _ _ _ => rfl)
      rw [List.getD_eq_getElem?_getD,List.getD_eq_getElem?_getD,e1,e2]
      exact this
     ·rw [sameB_iff,er,er]
      have hl := h6.len
      have hl' := k6.len
      constructor
      ·intro h
       injection h with a1 a2 a3 a4 a5 a6
       obtain ⟨b1,b2⟩ := (ers_ext kids kids').1 a6
       refine ⟨a1,a3,a4,a5,by omega,fun i hi => ?_⟩
       rw [sameB_iff]
       have hi1 : i < kids.length := by omega
       have hi2 : i < kids'.length := by omega
       exact b2 i _ _ (by simp [hi1]) (by simp [hi2])
      ·intro h
       obtain ⟨a1,a3,a4,a5,a6,a7⟩ := h
       subst a1 a3 a4 a5
       congr 1
       refine (ers_ext kids kids').2 ⟨by omega,fun i g g' hg hg' => ?_⟩
       have hi : i < kids.length := by
        rcases Nat.lt_or_ge i kids.length with h | h
        ·exact h
        ·rw [List.getElem?_eq_none h] at hg;simp at hg
       have := a7 i (by omega)
       rw [sameB_iff,List.getD_eq_getElem?_getD,List.getD_eq_getElem?_getD,hg,hg'] at this
       exact this
mutual
theorem can_sh : ∀ c : T,can (sh c) ↔ can c
 | .nd _ k s n xs kids => by rw [sh,can,can,cans_shs kids]
theorem cans_shs : ∀ l : List T,cans (shs l) ↔ cans l
 | [] => Iff.rfl
 | c :: r => by rw [shs,cans,cans,can_sh c,cans_shs r]
end
theorem patNames_shs : ∀ l : List T,patNames (shs l) = patNames l
 | [] => rfl
 | .nd _ _ _ _ _ _ :: _ => rfl
mutual
theorem gt_sh : ∀ c : T,gt (sh c) = gt c
 | .nd _ k s n xs kids => by rw [sh,gt,gt,patNames_shs,gts_shs kids]
theorem gts_shs : ∀ l : List T,gts (shs l) = gts l
 | [] => rfl
 | c :: r => by rw [shs,gts,gts,gt_sh c,gts_shs r]
end
mutual
theorem wf_pats : ∀ c : T,wf c -> pats c
 | .nd _ k _ _ _ kids,h => by
   rw [wf] at h
   rw [pats]
   exact wfs_patss kids k 0 h.2.2.2
theorem wfs_patss : ∀ (l : List T) (k i : Nat),wfs k i l -> patss k i l
 | [],_,_,_ => trivial
 | c :: r,k,i,h => ⟨h.2.2.1,wf_pats c h.1,wfs_patss r k (i + 1) h.2.2.2⟩
end
theorem mr_e {N n : Nat} {S : List Sy} {l : List Tok} {o : Nat} {R : Option (Nat × Nat)} (h : MR N n S l o R) : ∀ e p,R = some (e,p) -> e = 4 \/ e = 5 := by
 induction h with
 | nil => intro e p h;simp at h
 | nt _ _ ih => exact ih
 | ntBad => intro e p h;simp at h;exact .inl h.1.symm
 | tm _ _ _ _ _ ih => exact ih
 | tmBad => intro e p h;simp at h;exact .inl h.1.symm
 | op _ _ _ _ ih => exact ih
 | opNest => intro e p h;simp at h;exact .inr h.1.symm
 | cl _ _ ih => exact ih
theorem acc_yes {c : T} {L : List Tok} {N : Nat} {t : Tok} (hw : wf c) (hc : can c) (h25 : c.k ≠ 25) (hL : tks L = fl c) (hN : opc (fl c) <= N) (ht : t.k = 0) : ∃ n0,MR N n0 [.nt .Expr,.tm 0] (L ++ [t]) 0 none := by
 have h := (comp_all N _ c (Nat.le_refl _) hw hc h25 L [t] 0 hL (by simp) (by omega)).a0 (by show fol 0 t.k;rw [ht];refine ⟨?_,?_,?_,?_,?_,?_⟩ <;> intro _ <;> decide)
 exact (jb_mr h trivial).1 _ _ _ rfl _ _ _ (MR.tm ht (by decide) (by decide) (by decide) (MR.nil [] 0))
theorem acc_any {L : List Tok} {N : Nat} {t : Tok} (hL : ∀ x ∈ L,x.k ≠ 0) (ht : t.k = 0) : ∃ n0 R,MR N n0 [.nt .Expr,.tm 0] (L ++ [t]) 0 R /\ (R = none -> ∃ c,wf c /\ can c /\ c.k ≠ 25 /\ fl c = tks L) := by
 obtain ⟨res,hj,hok⟩ := tot N _ .expr (L ++ [t]) 0 ⟨L,t,rfl,ht⟩ (Nat.lt_succ_self _)
 cases res with
 | bad e p =>
   obtain ⟨n0,h⟩ := (jb_mr hj trivial).2 e p rfl [.tm 0]
   exact ⟨n0,_,h,fun h => by simp at h⟩
 | ok v l' o' =>
   obtain ⟨he,_,_⟩ := hok v l' o' rfl
   obtain ⟨u,hu,c,hv,hw,_,h25,hfl⟩ := jb_sound hj trivial v l' o' rfl
   obtain ⟨x,r,rfl⟩ := he.ne
   cases r with
   | nil =>
     have hux : u = L /\ x = t := by
      have h1 := List.append_inj' hu rfl
      exact ⟨h1.1.symm,by simpa using h1.2.symm⟩
     obtain ⟨rfl,rfl⟩ := hux
     obtain ⟨n0,h⟩ := (jb_mr hj trivial).1 v [x] o' rfl 1 [.tm 0] none (MR.tm ht (by decide) (by decide) (by decide) (MR.nil [] o'))
     have hcan := jb_can hj trivial v _ _ rfl
     subst hv
     exact ⟨n0,none,h,fun _ => ⟨c,hw,hcan,h25,hfl⟩⟩
   | cons y r =>
     have hx : x.k ≠ 0 := by
      refine hL x ?_
      have hlen := congrArg List.length hu
      simp at hlen
      have : (L ++ [t])[u.length]? = some x := by rw [hu];simp
      rw [List.getElem?_append_left (by omega)] at this
      exact List.mem_of_getElem? this
     obtain ⟨n0,h⟩ := (jb_mr hj trivial).1 v _ o' rfl 1 [.tm 0] _ (MR.tmBad (k := 0) hx)
     exact ⟨n0,_,h,fun h => by simp at h⟩
noncomputable def saysB (l : List Tk) (t : T) : Bool := @decide (Says l t) (Classical.propDecidable _)
theorem saysB_iff {l : List Tk} {t : T} : saysB l t = true ↔ Says l t := by unfold saysB;simp
theorem opc_le (l : List Tk) : opc l <= l.length := by
 induction l with
 | nil => simp [opc]
 | cons t r ih => rw [opc,List.length_cons];split <;> omega
theorem means_plain {l : List Tk} {c : T} {g : G} (hg : ∀ t ∈ l,gw t) (hcn : ∀ t ∈ l,cn t) (hc : Nice c) (he : er g = gt c) (N : Nat) (hN : l.length <= N) :
 (∃ n0 e p,MR N n0 [.nt .Expr,.tm 0] (l.map tokOf ++ [endT]) 0 (some (e,p)) /\ (e = 4 \/ e = 5) /\ saysB l (sh c) = false) \/
 (∃ n0 g',MR N n0 [.nt .Expr,.tm 0] (l.map tokOf ++ [endT]) 0 none /\ TreeOK (l.map tokOf) g' /\ sameB g g' = saysB l (sh c)) := by
 have hL : tks (l.map tokOf) = l := tks_tokOf hcn
 have hgd : ∀ t ∈ l.map tokOf,gd t := fun t ht => by
  rw [List.mem_map] at ht
  obtain ⟨x,hx,rfl⟩ := ht
  exact tokOf_gd (hg x hx)
 by_cases hs : Says l (sh c)
 ·obtain ⟨c',hw,h25,hfl,hsh⟩ := hs
  have hcan : can c' := (can_sh c').1 (by rw [hsh];exact (can_sh c).2 hc.can)
  obtain ⟨n0,h⟩ := acc_yes (t := endT) (N := N) hw hcan h25 (hL.trans hfl.symm) (by rw [hfl];exact Nat.le_trans (opc_le l) hN) rfl
  obtain ⟨g',t1,t2⟩ := tree_fl hw h25 (hL.trans hfl.symm) hgd
  refine .inr ⟨n0,g',h,t1,?_⟩
  have e1 : saysB l (sh c) = true := saysB_iff.2 ⟨c',hw,h25,hfl,hsh⟩
  rw [e1,sameB_iff,he,t2,<- gt_sh c',hsh,gt_sh]
 ·have e1 : saysB l (sh c) = false := by
   cases h : saysB l (sh c)
   ·rfl
   ·exact absurd (saysB_iff.1 h) hs
  obtain ⟨n0,R,h,hR⟩ := acc_any (L := l.map tokOf) (N := N) (t := endT) (fun x hx => by
   rw [List.mem_map] at hx
   obtain ⟨y,hy,rfl⟩ := hx
   exact (hg y hy).ne) rfl
  cases R with
  | some q => exact .inl ⟨n0,q.1,q.2,h,mr_e h q.1 q.2 rfl,e1⟩
  | none =>
    obtain ⟨c',hw,hcan,h25,hfl⟩ := hR rfl
    obtain ⟨g',t1,t2⟩ := tree_fl hw h25 hfl.symm hgd
    refine .inr ⟨n0,g',h,t1,?_⟩
    rw [e1]
    cases hb : sameB g g'
    ·rfl
    ·exfalso
     have h1 := sameB_iff.1 hb
     rw [he,t2] at h1
     exact hs ⟨c',hw,h25,hfl.trans hL,(gt_inj _ c c' (Nat.le_refl _) hc ⟨wf_fine c' hw,hcan,wf_pats c' hw,h25⟩ h1).symm⟩
theorem own_shapeP3 {wr : World} {B n : Nat} {e : TypeId} {v : Value} {xs : List Value} (h : wr.ownsRow B e 3 v (n + 1) xs) : ∃ g cap,v = .slice (some ⟨g,0,none⟩) (n + 1) cap /\ B <= g /\ g < wr.heap.size /\ n + 1 <= cap /\ cap <= maxLen := by
 rcases h.2 with ⟨_,h2⟩ | ⟨g,cap,cur,h1,h2,h3,h4,h5,_⟩
 ·omega
 ·exact ⟨g,cap,h1,h2,lt_of_block h3,h4,h5⟩
theorem accepts_at {L : List Tok} {n b off cap N m0 : Nat} {R : Option (Nat × Nat)} {w : World} (hn : L.length = n) (hL : L.length <= 100000) (hN : N <= 1000000) (hc : L.length <= cap) (hr : RW w b off L) (hb : b < w.heap.size) (hok : ∀ t ∈ L,okTok t)
 (hM : MR N m0 [.nt .Expr,.tm 0] L 0 R) :
 Calls Tryz.prog 68 #[.slice (some ⟨b,off,none⟩) n cap,.int .i64 N] w fun e w' => e = .returned (.tuple #[.int .i64 ((R.map (·.1)).getD 0 : Nat),.int .i64 ((R.map (·.2)).getD 0 : Nat)]) /\ Below w.heap.size w w' := by
 subst hn
 exact accepts_any L b off cap N m0 R w hL hN hc hr hb hok hM
theorem rw_left {w : World} {b off : Nat} {L M : List Tok} (h : RW w b off (L ++ M)) : RW w b off L := fun i hi => by
 have := h i (by simp;omega)
 rw [List.getElem_append_left hi] at this
 exact this
theorem same_at {g g' : G} {sv : Bool} {w : World} {B n B' n' : Nat} {v v' : Value} (hsb : sameB g g' = sv) (hsm : smG g) (ht : HT w B n v g) (ht' : HT w B' n' v' g') :
 Calls Tryz.prog 123 #[v,v'] w fun e w' => e = .returned (.bool sv) /\ Below w.heap.size w w' := by
 subst hsb
 refine (same_any _ g g' (Nat.le_refl _) hsm w B n B' n' v v' ht ht').mono ?_
 rintro e w' ⟨rfl,q,rfl⟩
 exact ⟨rfl,⟨rfl,rfl,rfl,Nat.le_refl _,fun _ _ => rfl⟩⟩
set_option maxRecDepth 100000 in
theorem means_any {l : List Tk} {b cap n0 B n : Nat} {v : Value} {g : G} {c : T} {w : World} (hn0 : n0 = l.length) (hl1 : 1 <= l.length) (hl : l.length <= 90000) (hc : l.length <= cap) (hb : b < w.heap.size) (hr : SR w b (l.map wt)) (hg : ∀ t ∈ l,gw t) (hcn : ∀ t ∈ l,cn t)
 (ht : HT w B n v g) (hnw : n <= w.heap.size) (hsm : smG g) (hnc : Nice c) (he : er g = gt c) :
 Calls Tryz.prog 73 #[.slice (some ⟨b,0,none⟩) n0 cap,v] w fun e w' => e = .returned (.bool (saysB l (sh c))) /\ Below w.heap.size w w' := by
 subst hn0
 obtain ⟨p,rfl,hp1,hp2⟩ := ht.ptr
 have HP := means_plain hg hcn hnc he (l.length + 1) (by omega)
 have HR : Hid (SR w b (l.map wt)) := hr
 have HG : Hid (∀ t ∈ l,gw t) := hg
 have HH : Hid (HT w B n (.pointer (some ⟨p,0,none⟩)) g) := ht
 have HSM : Hid (smG g) := hsm
 have HOK : Hid (∀ t ∈ l.map tokOf ++ [endT],okTok t) := fun t ht => by
  rw [List.mem_append,List.mem_map] at ht
  rcases ht with ⟨x,hx,rfl⟩ | ht
  ·exact (tokOf_gd (hg x hx)).1
  ·simp at ht;subst ht;exact endT_ok
 have hLn : (l.map tokOf ++ [endT]).length = l.length + 1 := by simp
 have hLm : (l.map tokOf).length = l.length := by simp
 obtain ⟨L,hLL⟩ : ∃ L,L = l.map tokOf := ⟨_,rfl⟩
 rw [<- hLL] at HP hLn HOK hLm
 have HLL : Hid (L = l.map tokOf) := hLL
 obtain ⟨sv,hsv⟩ : ∃ sv,saysB l (sh c) = sv := ⟨_,rfl⟩
 rw [hsv] at HP ⊢
 clear hr hg hcn ht hsm hnc he hLL hsv
 rcases HP with ⟨m0,e,q,hM,h45,hsf⟩ | ⟨m0,g',hM,hT,hsb⟩
 ·have HM : Hid (MR (l.length + 1) m0 [.nt .Expr,.tm 0] (L ++ [endT]) 0 (some (e,q))) := hM
  have he0 : ((e : Int) == 0) = false := by simp;omega
  have HSF : Hid (sv = false) := hsf
  clear hM h45 hsf
  go_enter Tryz.func73,Tryz.ntmps73
  go_wp2_with (first
   | (go_at_call 122;refine (words_any l b cap _ _ rfl hl hc hb HR.out HG.out).mono ?_;rintro _ w1 ⟨v1,rfl,ho1,hb1⟩;rw [<- HLL.out,hLn] at ho1;obtain ⟨wg,wcap,rfl,hw1,hw2,hw3,hw4⟩ := own_shapeP3 ho1)
   | (go_at_call 68;refine (accepts_at (L := L ++ [endT]) (N := l.length + 1) (R := some (e,q)) hLn (by omega) (by omega) (by omega) (rw_own ho1) hw2 HOK.out HM.out).mono ?_;rintro _ w2 ⟨rfl,hb2⟩))
  go_ret
  exact ⟨by rw [HSF.out];rfl,hb1.trans (hb2.mono hb1.size)⟩
 ·have HM : Hid (MR (l.length + 1) m0 [.nt .Expr,.tm 0] (L ++ [endT]) 0 none) := hM
  have HTR : Hid (TreeOK L g') := hT
  have HSB : Hid (sameB g g' = sv) := hsb
  clear hM hT hsb
  go_enter Tryz.func73,Tryz.ntmps73
  go_wp2_with (first
   | (go_at_call 122;refine (words_any l b cap _ _ rfl hl hc hb HR.out HG.out).mono ?_;rintro _ w1 ⟨v1,rfl,ho1,hb1⟩;rw [<- HLL.out,hLn] at ho1;obtain ⟨wg,wcap,rfl,hw1,hw2,hw3,hw4⟩ := own_shapeP3 ho1)
   | (go_at_call 68;refine (accepts_at (L := L ++ [endT]) (N := l.length + 1) (R := none) hLn (by omega) (by omega) (by omega) (rw_own ho1) hw2 HOK.out HM.out).mono ?_;rintro _ w2 ⟨rfl,hb2⟩;have hs1 := hb1.size;have hs2 := hb2.size;have HR2 : Hid (RW w2 wg 0 L) := rw_left ((rw_own ho1).below hb2 hw2))
   | (go_at_call 69;refine (HTR.out _ wg 0 wcap _ (by omega) (by omega) (by omega) (by omega) HR2.out (fun t ht => HOK.out t (by simp [ht]))).mono ?_;rintro _ w3 ⟨v3,rfl,ht3,hb3⟩;obtain ⟨p3,rfl,hp3,hp3'⟩ := ht3.ptr;have hs3 := hb3.size;have HH3 : Hid (HT w3 B n (.pointer (some ⟨p,0,none⟩)) g) := HH.out.keep (belowHeld ((hb1.mono hnw).trans ((hb2.mono (by omega)).trans (hb3.mono (by omega)))) B))
   | (go_at_call 123;refine (same_at HSB.out HSM.out HH3.out ht3).mono ?_;rintro _ w4 ⟨rfl,hb4⟩))
  go_ret
  exact ⟨rfl,hb1.trans ((hb2.mono (by omega)).trans ((hb3.mono (by omega)).trans (hb4.mono (by omega))))⟩
theorem lexF_bad (s : ByteArray) : ∀ (f a e p : Nat),lexF s f a = .bad e p -> e = 2 \/ e = 3 := by
 intro f
 induction f with
 | zero => intro a e p h;simp [lexF] at h
 | succ f ih =>
   intro a e p h
   rw [lexF] at h
   split at h
   ·cases hw : wordR s a with
    | err e' => rw [hw] at h;simp at h;rw [<- h.1];exact wordR_err hw
    | ok k n t z =>
      rw [hw] at h
      simp only at h
      cases hx : lexF s f (skp s z) with
      | bad e' p' => rw [hx] at h;simp [LR.pre] at h;rw [<- h.1];exact ih _ _ _ hx
      | good l => rw [hx] at h;simp [LR.pre] at h
   ·simp at h
def two (l : List Tok) (x y : ByteArray) : Bool :=
 match l with
 | [t1,t2] => t1.t.toList == x.toList && t2.t.toList == y.toList
 | _ => false
def apB (x y : ByteArray) : Bool :=
 if 400 < (x ++ y).size then true else match lex (x ++ y) (skp (x ++ y) 0) with
  | .bad _ _ => true
  | .good l => !two l x y
set_option maxRecDepth 100000 in
theorem apart_any (x y : ByteArray) (w : World) (hx : x.size <= 1000) (hy : y.size <= 1000) :
 Calls Tryz.prog 74 #[.string x,.string y] w fun e w' => e = .returned (.bool (apB x y)) /\ Below w.heap.size w w' := by
 have hsz : (x ++ y).size = x.size + y.size := ByteArray.size_append
 have hm : x.size + y.size <= 9223372036854775807 := by omega
 obtain ⟨ap,hap⟩ : ∃ ap,apB x y = ap := ⟨_,rfl⟩
 rw [hap]
 unfold apB at hap
 by_cases hl : 400 < (x ++ y).size
 ·rw [if_pos hl] at hap
  have HL : Hid (400 < (x ++ y).size) := hl
  have HM : Hid ((x ++ y).size <= maxLen) := by show _ <= _;unfold maxLen;omega
  have HA : Hid (true = ap) := hap
  clear hl hap hsz
  go_enter Tryz.func74,Tryz.ntmps74
  go_wp2_with (go_at_call 67;refine (words_long (x ++ y) HL.out HM.out _).mono ?_;rintro _ w1 ⟨rfl,hw1⟩;subst hw1)
  go_ret
  exact ⟨by rw [<- HA.out];rfl,Below.refl _ _⟩
 ·rw [if_neg hl] at hap
  have HS : Hid ((x ++ y).size <= 400) := by show _ <= _;omega
  cases hlx : lex (x ++ y) (skp (x ++ y) 0) with
  | bad e p =>
    rw [hlx] at hap
    have h23 := lexF_bad _ _ _ _ _ hlx
    have HX : Hid (lex (x ++ y) (skp (x ++ y) 0) = .bad e p) := hlx
    have HA : Hid (true = ap) := hap
    clear hl hap hsz hlx
    rcases h23 with rfl | rfl
    all_goals
     go_enter Tryz.func74,Tryz.ntmps74
     go_wp2_with (go_at_call 67;refine (words_short (x ++ y) HS.out _).mono ?_;rw [HX.out];simp only [LR.e,LR.p];rintro _ w1 ⟨v1,rfl,hv1,hb1⟩;have hv2 : v1 = .slice none 0 0 := hv1;subst hv2)
     go_ret
     exact ⟨by rw [<- HA.out];rfl,hb1⟩
  | good l =>
    rw [hlx] at hap
    have HX : Hid (lex (x ++ y) (skp (x ++ y) 0) = .good l) := hlx
    have HA : Hid ((!two l x y) = ap) := hap
    clear hl hap hsz hlx
    by_cases h2 : l.length = 2
    ·match l,h2 with
     | [t1,t2],_ =>
       obtain ⟨b1,hb1⟩ : ∃ b1,(t1.t.toList == x.toList) = b1 := ⟨_,rfl⟩
       obtain ⟨b2,hb2⟩ : ∃ b2,(t2.t.toList == y.toList) = b2 := ⟨_,rfl⟩
       have HAB : Hid (ap = !(b1 && b2)) := by show _ = _;rw [<- HA.out,<- hb1,<- hb2];rfl
       cases b1 <;> cases b2
       all_goals
        go_enter Tryz.func74,Tryz.ntmps74
        go_wp2_with (go_at_call 67;refine (words_short (x ++ y) HS.out _).mono ?_;rw [HX.out];rintro _ w1 ⟨v1,rfl,hv1,hbw⟩;obtain ⟨wg,wcap,rfl,hw1,hw2,hw3,hw4⟩ := own_shapeP3 (n := 2) hv1;have hrw := rw_own hv1;have q1 := (hrw 0 (by simp)).2.1;have q2 := (hrw 1 (by simp)).2.1;simp only [List.cons_append,List.getElem_cons_zero,List.getElem_cons_succ,Nat.zero_mul,Nat.zero_add,Nat.one_mul] at q1 q2;clear hrw)
        go_ret
        exact ⟨by rw [HAB.out];rfl,hbw⟩
    ·have htw : two l x y = false := by
      unfold two
      split
      ·simp at h2
      ·rfl
     have HAB : Hid (ap = true) := by show _ = _;rw [<- HA.out,htw];rfl
     have hl3 : ((((l.length + 1 : Nat)) : Int) == 3) = false := by simp;omega
     have hl3' : (((l.length : Nat) : Int) + 1 == 3) = false := by simp;omega
     clear htw
     go_enter Tryz.func74,Tryz.ntmps74
     go_wp2_with (go_at_call 67;refine (words_short (x ++ y) HS.out _).mono ?_;rw [HX.out];rintro _ w1 ⟨v1,rfl,hv1,hbw⟩;have hv2 : w1.ownsRow w.heap.size 200 3 v1 (l.length + 1) ((l ++ [endTok (x ++ y)]).flatMap Tok.rcells) := (by have := hv1;simpa [WordsOwn] using this);obtain ⟨wg,wcap,rfl,hw1,hw2,hw3,hw4⟩ := own_shapeP3 hv2)
     go_ret
     exact ⟨by rw [HAB.out];rfl,hbw⟩
end Go.Proofs.YtmkdoejpgkgpbaaGreatDoor
namespace Go.Proofs.YtmkdoejpgkgpbaaGreatDoor
namespace Sl
inductive Run (t : T) : List Tk -> List Tk -> List Tk -> Prop
 | stop (P : List Tk) : Run t P [] P
 | skip {P S z : List Tk} {x : Tk} : x ≠ oB -> Run t (P ++ [x]) S z -> Run t P (x :: S) z
 | keep {P M R z : List Tk} : dep 0 M = some 0 -> ¬ Says (P ++ (M ++ R)) t -> Run t (P ++ [oB]) (M ++ cB :: R) z -> Run t P (oB :: (M ++ cB :: R)) z
 | drop {P M R z : List Tk} : dep 0 M = some 0 -> Says (P ++ (M ++ R)) t -> Run t P (M ++ R) z -> Run t P (oB :: (M ++ cB :: R)) z
theorem Run.skips {t : T} {z S : List Tk} : ∀ (X P : List Tk),(∀ x ∈ X,x ≠ oB) -> Run t (P ++ X) S z -> Run t P (X ++ S) z
 | [],P,_,h => by simpa using h
 | x :: X,P,hX,h => by
   refine Run.skip (hX x (by simp)) ?_
   exact Run.skips X (P ++ [x]) (fun y hy => hX y (by simp [hy])) (by simpa using h)
theorem wantC_le : ∀ C : List Frame,wantC C <= 7
 | [] => Nat.zero_le _
 | f :: _ => wanted_le f.k f.l.length
theorem patC_k (C : List Frame) (c d : T) (h : c.k = d.k) (hp : patC C c) : patC C d := by
 cases C with
 | nil => exact fun e => hp (by rw [h];exact e)
 | cons f C =>
   show d.k = 25 ↔ _
   rw [<- h];exact hp
theorem says_yes {C : List Frame} {c : T} (hC : okC C) (hc : wf c) (hw : wantC C <= rkT c) (hp : patC C c) : Says (ahead C ++ (fl c ++ behind C)) (sh (plug C c)) := by
 have h := ok_plug C c hC hc hw hp
 exact ⟨plug C c,h.1,h.2,fl_plug C c,rfl⟩
theorem says_no {C : List Frame} {c : T} (hf : fine (plug C c)) (hn : ¬ (wf c /\ wantC C <= rkT c)) : ¬ Says (ahead C ++ (fl c ++ behind C)) (sh (plug C c)) := by
 rintro ⟨c',hw,_,he,hs⟩
 have h := inj c' (plug C c) (wf_fine c' hw) hf hs [] [] (by rw [List.append_nil,List.append_nil,he,fl_plug])
 rw [h.1] at hw
 exact hn (of_plug C c hw)
theorem pre_skip {k s n m : Nat} {xs : List ByteArray} (h : arB k s xs m = true) (hk : k ≠ 6) : ∀ x ∈ pre k s n xs,x ≠ oB := by
 have hnm : ∀ x ∈ xs.map nmTk,x ≠ oB := by
  intro x hx
  rw [List.mem_map] at hx
  obtain ⟨y,_,rfl⟩ := hx
  simp [nmTk,Tk.of]
 have hco : ∀ ys : List ByteArray,∀ x ∈ commas ys,x ≠ oB := by
  intro ys
  induction ys with
  | nil => intro x hx;simp [commas] at hx
  | cons y q ih =>
    cases q with
    | nil => intro x hx;simp [commas] at hx;subst hx;simp [nmTk,Tk.of]
    | cons y2 q =>
      intro x hx
      simp only [commas,List.mem_cons] at hx
      rcases hx with rfl | rfl | hx
      ·simp [nmTk,Tk.of]
      ·simp [Tk.of]
      ·exact ih x hx
 intro x hx
 unfold pre at hx
 split at hx <;> first
  | (simp at hx;subst hx;simp [nuTk,Tk.of];done)
  | exact hnm x hx
  | exact absurd rfl hk
  | exact hco xs x hx
  | (simp only [List.mem_cons,List.mem_append,List.not_mem_nil,or_false] at hx
     rcases hx with rfl | rfl | hx | rfl <;> first | exact hnm x hx | simp [Tk.of])
  | (simp only [List.mem_cons,List.mem_append,List.not_mem_nil,or_false] at hx
     rcases hx with rfl | hx | rfl <;> first | exact hnm x hx | simp [Tk.of])
  | (simp at hx;done)
theorem sep_skip {k s m : Nat} {xs : List ByteArray} (h : arB k s xs m = true) (i : Nat) : ∀ x ∈ sep k s i,x ≠ oB := by
 intro x hx
 cases i with
 | zero => simp [sep] at hx
 | succ i =>
   unfold arB at h
   unfold sep at hx
   split at h <;> first
    | (simp at hx;done)
    | (simp at hx;subst hx;simp [Tk.of];done)
    | (simp at hx;subst hx;simp at h;simp [Tk.of];omega)
    | (simp only at hx;split at hx <;> (simp at hx;subst hx;simp [Tk.of]))
    | (simp at h;done)
theorem post_skip (k : Nat) : ∀ x ∈ post k,x ≠ oB := by
 intro x hx
 unfold post at hx
 split at hx
 ·simp at hx;subst hx;decide
 ·simp at hx
theorem lo_flk (k s : Nat) : ∀ (l : List T) (i : Nat) (p : Bool),fines l -> l ≠ [] -> lo p (flk k s i l) = false
 | [],_,_,_,h => absurd rfl h
 | c :: r,i,p,hf,_ => by
   have hb := fl_bal c hf.1
   rw [flk,lo_app,lo_app,hb.lo]
   cases r with
   | nil => rfl
   | cons d q => exact lo_flk k s (d :: q) (i + 1) false hf.2 (by simp)
theorem lo_pre {k s n m : Nat} {xs : List ByteArray} (h : arB k s xs m = true) (hp : pre k s n xs ≠ []) (p : Bool) : lo p (pre k s n xs) = false := by
 have hx : ∀ q (xs : List ByteArray),lo q (xs.map nmTk ++ [Tk.of 27]) = false /\ lo q (xs.map nmTk ++ [Tk.of 22]) = false := by
  intro q xs
  rw [lo_app,lo_app];exact ⟨rfl,rfl⟩
 unfold pre at *
 unfold arB at h
 split at h <;> first
  | rfl
  | exact absurd rfl hp
  | (simp at h;done)
  | exact (hx _ xs).1
  | exact (hx _ xs).2
  | (simp only at hp ⊢;refine lo_names xs p (fun e => ?_);subst e;exact hp rfl)
  | (simp only at hp ⊢;refine lo_commas xs (fun e => ?_) p;subst e;exact hp rfl)
theorem lo_sep {k s m : Nat} {xs : List ByteArray} (h : arB k s xs m = true) (i : Nat) : lo false (sep k s i) = false := by
 cases i with
 | zero => rfl
 | succ i =>
   unfold arB at h
   unfold sep
   split at h <;> first
    | rfl
    | (simp at h;simp [lo,isO,Tk.of];omega)
    | (simp only;split <;> rfl)
    | (simp at h;done)
theorem unit_stays {C : List Frame} {b s n : Nat} {xs : List ByteArray} (hf : fine (plug C (.nd b 6 s n xs []))) : ¬ Says (ahead C ++ behind C) (sh (plug C (.nd b 6 s n xs []))) := by
 rintro ⟨c',hw,_,he,hs⟩
 have hu : fine (.nd 0 6 s n xs []) := by
  have := fine_plug.fine_hole C _ hf
  exact this
 have hf0 := fine_plug C _ (.nd 0 6 s n xs []) hf hu
 have hs0 : sh c' = sh (plug C (.nd 0 6 s n xs [])) := by rw [hs];exact sh_plug C _ _ rfl
 have hl := lv_sh c' _ (wf_fine c' hw) hf0 hs0
 unfold lv at hl
 rw [he,fl_plug] at hl
 have e : fl (.nd 0 6 s n xs []) = [oB,cB] := rfl
 rw [e,lf_app,lf_app] at hl
 have e2 : lf (lo false (ahead C)) ([oB,cB] ++ behind C) = 1 + lf false (behind C) := by
  simp [lf,isO,isC,Tk.of]
 rw [e2] at hl
 have hd : lf (lo false (ahead C)) (behind C) = lf false (behind C) := by
  cases C with
  | nil => rfl
  | cons f C =>
    have hfr : fine (f.plug (.nd 0 6 s n xs [])) := by
     rw [plug] at hf0
     exact fine_plug.fine_hole C _ hf0
    rw [Frame.plug,fine,fines_app,fines] at hfr
    obtain ⟨ha,hl',_,hr'⟩ := hfr
    by_cases hlo : lo false (ahead (f :: C)) = true
    ·have hpl : pre f.k f.s f.n f.xs = [] /\ f.l = [] := by
      rw [ahead,lo_app,lo_app,lo_app,lo_app] at hlo
      by_cases hl0 : f.l = []
      ·refine ⟨?_,hl0⟩
       by_cases hp : pre f.k f.s f.n f.xs = []
       ·exact hp
       ·exfalso
        rw [lo_pre ha hp,hl0] at hlo
        cases hlo
      ·exfalso
       rw [lo_flk f.k f.s f.l 0 _ hl' hl0,lo_sep ha] at hlo
       cases hlo
     have h2 := two_kids (n := f.n) ha hpl.1
     rw [hpl.2] at h2
     simp at h2
     rw [behind]
     cases hr : f.r with
     | nil => rw [hr] at h2;simp at h2
     | cons d q =>
       rw [hr] at hr' ha
       have hhead : ∀ X : List Tk,lf (lo false (ahead (f :: C))) (flk f.k f.s (f.l.length + 1) (d :: q) ++ X) = lf false (flk f.k f.s (f.l.length + 1) (d :: q) ++ X) := by
        intro X
        have hne : ∀ (Y : List Tk) (t : Tk) (r : List Tk),Y = t :: r -> isC t = false -> ∀ p,lf p Y = lf false Y := by
         intro Y t r hY hc p
         subst hY
         simp [lf,hc]
        rw [flk]
        cases hsp : sep f.k f.s (f.l.length + 1) with
        | cons t r' =>
          have hdp : isC t = false := by
           cases hc : isC t with
           | false => rfl
           | true =>
             exfalso
             by_cases h20 : f.k = 20
             ·rw [h20] at hsp
              simp [sep] at hsp
              rw [<- hsp.1] at hc
              revert hc;decide
             ·have := dep_sep ha h20 (f.l.length + 1) 0
              rw [hsp,dep] at this
              have hn := isC_not hc
              simp [hn.1,hn.2,hc] at this
          exact hne _ t _ rfl hdp _
        | nil =>
          have hb := fl_bal d hr'.1
          cases hfd : fl d with
          | nil => exact absurd hfd hb.ne
          | cons t r' => rw [hfd] at hb;exact hne _ t _ rfl hb.head _
       exact hhead _
    ·rw [show lo false (ahead (f :: C)) = false by simpa using hlo]
 omega
end Sl
end Go.Proofs.YtmkdoejpgkgpbaaGreatDoor
namespace Go.Proofs.YtmkdoejpgkgpbaaGreatDoor
namespace Sl
theorem atom_of {k s m : Nat} {xs : List ByteArray} (h : arB k s xs m = true) (hk : k <= 6) : m = 0 /\ rk k = 7 := by
 unfold arB at h
 split at h <;> first
  | omega
  | (simp at h;exact ⟨h.1,rfl⟩)
  | (simp at h;done)
theorem need_atom {k q : Nat} (hk : k <= 6) (hr : rk k = 7) (hq : q <= 7) : need q k = 0 := by
 unfold need
 rw [if_neg (by omega),if_neg (by omega)]
mutual
theorem greedy : ∀ c : T,fine c -> pats c -> ∀ C,okC C -> patC C c -> fine (plug C c) -> ∀ z,
 Run (sh (plug C c)) (ahead C ++ fl (mi (wantC C) c)) (behind C) z -> Run (sh (plug C c)) (ahead C) (fl (fu c) ++ behind C) z
 | .nd b k s n xs kids,hf,hp => by
   intro C hC hpat hfp z hrun
   by_cases hk : k <= 6
   ·obtain ⟨hm,hr⟩ := atom_of hf.1 hk
    have hkids : kids = [] := List.eq_nil_of_length_eq_zero hm
    subst hkids
    have e1 : fl (fu (.nd b k s n xs [])) = pre k s n xs := by
     rw [fu,fb,if_pos hk,fl_eq];simp [bod,fus,flk,post];omega
    have e2 : fl (mi (wantC C) (.nd b k s n xs [])) = pre k s n xs := by
     rw [mi,need_atom hk hr (wantC_le C),fl_eq];simp [bod,mik,flk,post];omega
    rw [e1]
    rw [e2] at hrun
    by_cases h6 : k = 6
    ·subst h6
     have e3 : pre 6 s n xs = [oB,cB] := rfl
     rw [e3] at hrun ⊢
     have hx : Run (sh (plug C (.nd b 6 s n xs []))) (ahead C) (oB :: ([] ++ cB :: behind C)) z := by
      refine Run.keep rfl ?_ ?_
      ·simpa using unit_stays hfp
      ·refine Run.skip (by decide) ?_
       simpa using hrun
     exact hx
    ·exact Run.skips _ _ (pre_skip hf.1 h6) hrun
   ·have h6 : k ≠ 6 := by omega
    have hkf := fus_wf kids hf.2 k 0 hp
    have hff : fines (fus kids) := wfs_fines _ _ _ hkf
    have hal : arB k s xs (fus kids).length = true := by rw [fus_len];exact hf.1
    have hb : Bal (bod k s n xs (fus kids)) := bod_bal hal hff
    have e1 : fl (fu (.nd b k s n xs kids)) ++ behind C = oB :: (bod k s n xs (fus kids) ++ cB :: behind C) := by
     rw [fu,fb,if_neg hk,fl_eq];simp
    rw [e1]
    have e0 : fl (.nd 0 k s n xs (fus kids)) = bod k s n xs (fus kids) := by rw [fl_eq];simp
    have hsh : sh (plug C (.nd 0 k s n xs (fus kids))) = sh (plug C (.nd b k s n xs kids)) := sh_plug C _ _ (by rw [sh,sh,shs_fus])
    have hpre := pre_skip (n := n) hf.1 h6
    by_cases hd : (k = 7 \/ k = 25) \/ rk k < wantC C
    ·
     have hneed : need (wantC C) k = 1 := by
      unfold need
      rcases hd with hd | hd
      ·rw [if_pos hd]
      ·split
       ·rfl
       ·first | rfl | rw [if_pos hd]
     refine Run.keep (hb.dep 0) ?_ ?_
     ·rw [<- hsh,<- e0]
      refine says_no (fine_plug C _ _ hfp ⟨hal,hff⟩) ?_
      rintro ⟨hw,hr⟩
      rw [wf] at hw
      rcases hd with (rfl | rfl) | hd
      ·have := hw.2.1 rfl;omega
      ·have := hw.2.2.1 rfl;omega
      ·rw [rkT,if_neg (by omega)] at hr;omega
     ·have hstep := greedyk kids hf.2 C 1 k s n xs [] hC (by simpa using hf.1) (fun _ => Nat.le_refl _) (fun _ => rfl) (by rw [rkT,if_pos (by omega)];exact wantC_le C) (patC_k C (.nd b k s n xs kids) _ rfl hpat) trivial hp (fine_plug C _ (.nd 1 k s n xs kids) hfp hf) z
      rw [show sh (plug C (.nd 1 k s n xs ([] ++ kids))) = sh (plug C (.nd b k s n xs kids)) from sh_plug C _ _ rfl] at hstep
      have e4 : ahead C ++ [oB] ++ pre k s n xs = ahead C ++ (List.replicate 1 oB ++ (pre k s n xs ++ flk k s 0 [])) := by simp [flk]
      unfold bod
      rw [List.append_assoc]
      refine Run.skips _ _ hpre ?_
      rw [e4]
      have e5 : flk k s 0 (fus kids) ++ post k ++ cB :: behind C = flk k s ([] : List T).length (fus kids) ++ (post k ++ (List.replicate 1 cB ++ behind C)) := by simp
      rw [e5]
      refine hstep ?_
      refine Run.skips _ _ (post_skip k) ?_
      refine Run.skips _ _ (by intro x hx;simp at hx;subst hx;decide) ?_
      have e6 : ahead C ++ (List.replicate 1 oB ++ (pre k s n xs ++ flk k s 0 ([] ++ mik k ([] : List T).length kids))) ++ post k ++ List.replicate 1 cB = ahead C ++ fl (mi (wantC C) (.nd b k s n xs kids)) := by
       rw [mi,hneed,fl_eq,bod];simp
      rw [e6]
      exact hrun
    ·
     have hd1 : k ≠ 7 := fun h => hd (.inl (.inl h))
     have hd2 : k ≠ 25 := fun h => hd (.inl (.inr h))
     have hd3 : wantC C <= rk k := by
      rcases Nat.lt_or_ge (rk k) (wantC C) with h | h
      ·exact absurd (.inr h) hd
      ·exact h
     have hneed : need (wantC C) k = 0 := by
      unfold need
      rw [if_neg (by omega),if_neg (by omega)]
     refine Run.drop (hb.dep 0) ?_ ?_
     ·rw [<- hsh,<- e0]
      refine says_yes hC ⟨hal,fun h => absurd h hd1,fun h => absurd h hd2,hkf⟩ ?_ (patC_k C (.nd b k s n xs kids) _ rfl hpat)
      rw [rkT,if_neg (by omega)];exact hd3
     ·have hstep := greedyk kids hf.2 C 0 k s n xs [] hC (by simpa using hf.1) (fun h => absurd h hd1) (fun h => absurd h hd2) (by rw [rkT,if_neg (by omega)];exact hd3) (patC_k C (.nd b k s n xs kids) _ rfl hpat) trivial hp (fine_plug C _ (.nd 0 k s n xs kids) hfp hf) z
      rw [show sh (plug C (.nd 0 k s n xs ([] ++ kids))) = sh (plug C (.nd b k s n xs kids)) from sh_plug C _ _ rfl] at hstep
      have e4 : ahead C ++ pre k s n xs = ahead C ++ (List.replicate 0 oB ++ (pre k s n xs ++ flk k s 0 [])) := by simp [flk]
      unfold bod
      rw [List.append_assoc]
      refine Run.skips _ _ hpre ?_
      rw [e4]
      have e5 : flk k s 0 (fus kids) ++ post k ++ behind C = flk k s ([] : List T).length (fus kids) ++ (post k ++ (List.replicate 0 cB ++ behind C)) := by simp
      rw [e5]
      refine hstep ?_
      refine Run.skips _ _ (post_skip k) ?_
      have e6 : ahead C ++ (List.replicate 0 oB ++ (pre k s n xs ++ flk k s 0 ([] ++ mik k ([] : List T).length kids))) ++ post k = ahead C ++ fl (mi (wantC C) (.nd b k s n xs kids)) := by
       rw [mi,hneed,fl_eq,bod];simp
      rw [e6]
      simpa using hrun
theorem greedyk : ∀ r : List T,fines r -> ∀ (C : List Frame) (b k s n : Nat) (xs : List ByteArray) (l : List T),okC C -> arB k s xs (l ++ r).length = true -> (k = 7 -> 1 <= b) -> (k = 25 -> b = 1) ->
 wantC C <= rkT (.nd b k s n xs []) -> patC C (.nd b k s n xs []) -> wfs k 0 l -> patss k l.length r -> (hfp : fine (plug C (.nd b k s n xs (l ++ r)))) -> ∀ z,
 Run (sh (plug C (.nd b k s n xs (l ++ r)))) (ahead C ++ (List.replicate b oB ++ (pre k s n xs ++ flk k s 0 (l ++ mik k l.length r)))) (post k ++ (List.replicate b cB ++ behind C)) z ->
 Run (sh (plug C (.nd b k s n xs (l ++ r)))) (ahead C ++ (List.replicate b oB ++ (pre k s n xs ++ flk k s 0 l))) (flk k s l.length (fus r) ++ (post k ++ (List.replicate b cB ++ behind C))) z
 | [],_ => by
   intro C b k s n xs l _ _ _ _ _ _ _ _ _ z h
   simpa [mik,fus,flk] using h
 | c :: r,hr => by
   intro C b k s n xs l hC ha h7 h25 hw hpC hl hp hfp z h
   have hlen : (l ++ c :: r).length = l.length + 1 + r.length := by simp;omega
   have hF : okC (⟨b,k,s,n,xs,l,fus r⟩ :: C) := by
    refine ⟨?_,?_,?_,hC⟩
    ·intro c' hp' hw' hr'
     rw [Frame.plug,wf]
     refine ⟨?_,h7,h25,?_⟩
     ·have : (l ++ c' :: fus r).length = (l ++ c :: r).length := by simp [fus_len]
      rw [this];exact ha
     ·rw [wfs_app,Nat.zero_add,wfs]
      exact ⟨hl,hw',hr',hp',fus_wf r hr.2 k (l.length + 1) hp.2.2⟩
    ·intro c'
     exact hw
    ·intro c'
     exact patC_k C (.nd b k s n xs []) _ rfl hpC
   have hsh : sh (plug (⟨b,k,s,n,xs,l,fus r⟩ :: C) c) = sh (plug C (.nd b k s n xs (l ++ c :: r))) := by
    rw [plug]
    refine sh_plug C _ _ ?_
    rw [Frame.plug,sh,sh,shs_app,shs_app,shs,shs,shs_fus]
   have hfF : fine (plug (⟨b,k,s,n,xs,l,fus r⟩ :: C) c) := by
    rw [plug]
    refine fine_plug C _ _ hfp ?_
    rw [Frame.plug,fine,fines_app,fines]
    refine ⟨?_,wfs_fines l k 0 hl,hr.1,wfs_fines _ _ _ (fus_wf r hr.2 k (l.length + 1) hp.2.2)⟩
    have : (l ++ c :: fus r).length = (l ++ c :: r).length := by simp [fus_len]
    rw [this];exact ha
   have hg := greedy c hr.1 hp.2.1 (⟨b,k,s,n,xs,l,fus r⟩ :: C) hF hp.1 hfF z
   rw [hsh] at hg
   have hl' : wfs k 0 (l ++ [mi (wanted k l.length) c]) := by
    rw [wfs_app,Nat.zero_add]
    exact ⟨hl,mi_wf c hr.1 hp.2.1 _,rkT_mi _ c (wanted_le k l.length),by rw [mi_k];exact hp.1,trivial⟩
   have hll : (l ++ [mi (wanted k l.length) c]).length = l.length + 1 := by simp
   have hfp' : fine (plug C (.nd b k s n xs ((l ++ [mi (wanted k l.length) c]) ++ r))) := by
    refine fine_plug C _ _ hfp ?_
    rw [fine,fines_app,fines_app,fines]
    refine ⟨?_,⟨wfs_fines l k 0 hl,wf_fine _ (mi_wf c hr.1 hp.2.1 _),trivial⟩,hr.2⟩
    have : (l ++ [mi (wanted k l.length) c] ++ r).length = (l ++ c :: r).length := by simp
    rw [this];exact ha
   have hk := greedyk r hr.2 C b k s n xs (l ++ [mi (wanted k l.length) c]) hC (by
    have : (l ++ [mi (wanted k l.length) c] ++ r).length = (l ++ c :: r).length := by simp
    rw [this];exact ha) h7 h25 hw hpC hl' (by rw [hll];exact hp.2.2) hfp' z
   have hsh2 : sh (plug C (.nd b k s n xs ((l ++ [mi (wanted k l.length) c]) ++ r))) = sh (plug C (.nd b k s n xs (l ++ c :: r))) := by
    refine sh_plug C _ _ ?_
    rw [sh,sh]
    simp only [shs_app,shs,sh_mi,List.append_assoc,List.cons_append,List.nil_append]
   rw [hsh2,hll] at hk
   have e1 : ahead C ++ (List.replicate b oB ++ (pre k s n xs ++ flk k s 0 (l ++ [mi (wanted k l.length) c]))) = ahead (⟨b,k,s,n,xs,l,fus r⟩ :: C) ++ fl (mi (wantC (⟨b,k,s,n,xs,l,fus r⟩ :: C)) c) := by
    rw [ahead,wantC,flk_app,flk];simp [flk]
   have e2 : flk k s (l.length + 1) (fus r) ++ (post k ++ (List.replicate b cB ++ behind C)) = behind (⟨b,k,s,n,xs,l,fus r⟩ :: C) := by rw [behind]
   rw [e1,e2] at hk
   have h2 : Run (sh (plug C (.nd b k s n xs (l ++ c :: r)))) (ahead C ++ (List.replicate b oB ++ (pre k s n xs ++ flk k s 0 (l ++ [mi (wanted k l.length) c] ++ mik k (l.length + 1) r)))) (post k ++ (List.replicate b cB ++ behind C)) z := by
    have : l ++ [mi (wanted k l.length) c] ++ mik k (l.length + 1) r = l ++ mik k l.length (c :: r) := by rw [mik];simp
    rw [this];exact h
   have h3 := hg (hk h2)
   rw [fus,flk]
   have e3 : sep k s l.length ++ (fl (fu c) ++ flk k s (l.length + 1) (fus r)) ++ (post k ++ (List.replicate b cB ++ behind C)) = sep k s l.length ++ (fl (fu c) ++ behind (⟨b,k,s,n,xs,l,fus r⟩ :: C)) := by
    rw [behind];simp
   rw [e3]
   refine Run.skips _ _ (sep_skip ha l.length) ?_
   have e4 : ahead C ++ (List.replicate b oB ++ (pre k s n xs ++ flk k s 0 l)) ++ sep k s l.length = ahead (⟨b,k,s,n,xs,l,fus r⟩ :: C) := by rw [ahead];simp
   rw [e4]
   exact h3
end
theorem greedy_all (c : T) (hf : fine c) (hp : pats c) (h25 : c.k ≠ 25) : Run (sh c) [] (fl (fu c)) (fl (mi 0 c)) := by
 have h := greedy c hf hp [] trivial h25 hf (fl (mi 0 c)) (by simpa [plug,ahead,behind,wantC] using Run.stop _)
 simpa [plug,ahead,behind] using h
end Sl
end Go.Proofs.YtmkdoejpgkgpbaaGreatDoor
