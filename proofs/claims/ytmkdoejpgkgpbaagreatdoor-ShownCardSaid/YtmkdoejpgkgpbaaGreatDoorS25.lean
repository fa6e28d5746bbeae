import Derived.Test.YtmkdoejpgkgpbaaGreatDoorS24
set_option linter.unusedVariables false
set_option linter.unusedSimpArgs false
set_option maxHeartbeats 20000000
namespace Go.Proofs.YtmkdoejpgkgpbaaGreatDoor
open Go.RowKit Sl
def opK (x : ByteArray) : Nat := if x = nameK 32 \/ x = nameK 33 \/ x = nameK 34 then 15 else if x = nameK 30 \/ x = nameK 31 then 16 else 17
def kOf : G -> Nat
 | .nd f _ n x _ _ => if f = f_num then 1 else if f = f_bool then (if n = 1 then 2 else 3) else if f = f_read then 4 else if f = f_var then 5 else if f = f_unit then 6 else if f = f_tuple then 7 else if f = f_let then 8
   else if f = f_rec then 9 else if f = f_pair then 10 else if f = f_if then 11 else if f = f_fun then 12 else if f = f_neg then 13 else if f = f_not then 14 else if f = f_op then opK x else if f = f_seq then 18
   else if f = f_call then 19 else if f = f_get then 20 else if f = nameK 14 then 21 else if f = nameK 15 then 22 else if f = nameK 16 then 23 else if f = nameK 17 then 24 else 0
theorem opK15 {s : Nat} (h : s = 32 \/ s = 33 \/ s = 34) : opK (nameK s) = 15 := by rcases h with rfl | rfl | rfl <;> decide
theorem opK16 {s : Nat} (h : s = 30 \/ s = 31) : opK (nameK s) = 16 := by rcases h with rfl | rfl <;> decide
theorem opK17 {s : Nat} (h : s = 27 \/ s = 19 \/ s = 20 \/ s = 21 \/ s = 28 \/ s = 29) : opK (nameK s) = 17 := by rcases h with rfl | rfl | rfl | rfl | rfl | rfl <;> decide
theorem kOf_op (x : ByteArray) (ks : List G) : kOf (.nd f_op 0 0 x [] ks) = opK x := rfl
theorem kOf_gt {b k s n : Nat} {xs : List ByteArray} {kids : List T} (ha : arB k s xs kids.length = true) (h25 : k ≠ 25) : kOf (gt (.nd b k s n xs kids)) = k := by
 rw [gt]
 match k,h25,ha with
 | 0,_,ha => simp [arB] at ha
 | 1,_,_ => rfl
 | 2,_,_ => rfl
 | 3,_,_ => rfl
 | 4,_,_ => rfl
 | 5,_,_ => rfl
 | 6,_,_ => rfl
 | 7,_,_ => rfl
 | 8,_,_ => rfl
 | 9,_,_ => rfl
 | 10,_,_ => rfl
 | 11,_,_ => rfl
 | 12,_,_ => rfl
 | 13,_,_ => rfl
 | 14,_,_ => rfl
 | 15,_,ha =>
   simp [arB] at ha
   show opK (nameK s) = 15
   exact opK15 (by omega)
 | 16,_,ha =>
   simp [arB] at ha
   show opK (nameK s) = 16
   exact opK16 (by omega)
 | 17,_,ha =>
   simp [arB] at ha
   show opK (nameK s) = 17
   exact opK17 (by omega)
 | 18,_,_ => rfl
 | 19,_,_ => rfl
 | 20,_,_ => rfl
 | 21,_,_ => rfl
 | 22,_,_ => rfl
 | 23,_,_ => rfl
 | 24,_,_ => rfl
 | 25,h,_ => exact absurd rfl h
 | k + 26,_,ha => simp [arB] at ha
theorem nameK_inj {a b : Nat} (ha : a < 35) (hb : b < 35) (h : nameK a = nameK b) : a = b := by
 have : ∀ a b : Fin 35,nameK a.val = nameK b.val -> a.val = b.val := by decide
 exact this ⟨a,ha⟩ ⟨b,hb⟩ h
theorem sh_eq {b b' k s s' n n' : Nat} {xs xs' : List ByteArray} {kids kids' : List T} (h1 : s = s') (h2 : n = n') (h3 : xs = xs') (h4 : shs kids = shs kids') : sh (.nd b k s n xs kids) = sh (.nd b' k s' n' xs' kids') := by
 subst h1 h2 h3;rw [sh,sh,h4]
structure Nice (c : T) : Prop where
 fine : fine c
 can : can c
 pats : pats c
 n25 : c.k ≠ 25
theorem cans_mem : ∀ {l : List T},cans l -> ∀ c ∈ l,can c
 | [],_,c,hc => by simp at hc
 | d :: r,h,c,hc => by
   rcases List.mem_cons.1 hc with rfl | hc
   ·exact h.1
   ·exact cans_mem h.2 c hc
theorem nice_kid {b k s n : Nat} {xs : List ByteArray} {kids : List T} (h : Nice (.nd b k s n xs kids)) (h10 : k ≠ 10) : ∀ c ∈ kids,Nice c := fun c hc => by
 have hf := h.fine
 have hcn := h.can
 have hp := h.pats
 rw [Sl.fine] at hf
 rw [Sl.can] at hcn
 rw [Sl.pats] at hp
 obtain ⟨j,_,_,j3,j4⟩ := patss_mem hp c hc
 exact ⟨fines_mem hf.2 c hc,cans_mem hcn.2.2 c hc,j4,fun e => h10 (j3.1 e).1⟩
theorem gts_inj : ∀ (l l' : List T),(∀ c ∈ l,∀ c' ∈ l',gt c = gt c' -> sh c = sh c') -> gts l = gts l' -> shs l = shs l'
 | [],[],_,_ => rfl
 | [],_ :: _,_,h => by simp [gts] at h
 | _ :: _,[],_,h => by simp [gts] at h
 | c :: r,c' :: r',hc,h => by
   rw [gts,gts] at h
   injection h with h1 h2
   rw [shs,shs,hc c (by simp) c' (by simp) h1,gts_inj r r' (fun d hd d' hd' => hc d (by simp [hd]) d' (by simp [hd'])) h2]
theorem gt_inj : ∀ (m : Nat) (c c' : T),SizeOf.sizeOf c <= m -> Nice c -> Nice c' -> gt c = gt c' -> sh c = sh c' := by
 intro m
 induction m with
 | zero => intro c _ h;cases c;simp at h
 | succ m ih =>
   intro c c' hs hc hc' h
   cases c with
   | nd b k s n xs kids =>
   cases c' with
   | nd b' k' s' n' xs' kids' =>
     have hf := hc.fine
     have hf' := hc'.fine
     rw [fine] at hf hf'
     have hk : k = k' := by
      have h1 := kOf_gt (b := b) (s := s) (n := n) hf.1 hc.n25
      have h2 := kOf_gt (b := b') (s := s') (n := n') hf'.1 hc'.n25
      rw [h] at h1
      omega
     subst hk
     have hcn := hc.can
     have hcn' := hc'.can
     rw [can] at hcn hcn'
     have hkid : k ≠ 10 -> gts kids = gts kids' -> shs kids = shs kids' := fun h10 e => gts_inj kids kids' (fun d hd d' hd' hh => by
      have := List.sizeOf_lt_of_mem hd
      exact ih d d' (by simp at hs;omega) (nice_kid hc h10 d hd) (nice_kid hc' h10 d' hd') hh) e
     have ha := hf.1
     have ha' := hf'.1
     rw [gt,gt] at h
     match k,hc.n25 with
     | 0,_ => simp [arB] at ha
     | 1,_ =>
       simp [arB] at ha ha'
       obtain ⟨rfl,rfl⟩ := ha
       obtain ⟨rfl,rfl⟩ := ha'
       have h' : G.nd f_num 0 (n : Int) f_0 [] [] = .nd f_num 0 (n' : Int) f_0 [] [] := h
       injection h' with _ _ e3
       exact sh_eq (by have := hcn.1;have := hcn'.1;omega) (by omega) rfl rfl
     | 2,_ | 3,_ | 4,_ | 6,_ =>
       simp [arB] at ha ha'
       obtain ⟨rfl,rfl⟩ := ha
       obtain ⟨rfl,rfl⟩ := ha'
       exact sh_eq (by have := hcn.1;have := hcn'.1;omega) (by have := hcn.2.1;have := hcn'.2.1;omega) rfl rfl
     | 5,_ =>
       simp [arB] at ha ha'
       obtain ⟨rfl,hx⟩ := ha
       obtain ⟨rfl,hx'⟩ := ha'
       match xs,hx,xs',hx' with
       | [x],_,[x'],_ =>
         have h' : G.nd f_var 0 0 x [] [] = .nd f_var 0 0 x' [] [] := h
         injection h' with _ _ _ e4
         subst e4
         exact sh_eq (by have := hcn.1;have := hcn'.1;omega) (by have := hcn.2.1;have := hcn'.2.1;omega) rfl rfl
     | 8,_ =>
       simp [arB] at ha ha'
       match xs,ha.2,xs',ha'.2 with
       | [x],_,[x'],_ =>
         have h' : G.nd f_let 0 0 x [] (gts kids) = .nd f_let 0 0 x' [] (gts kids') := h
         injection h' with _ _ _ e4 _ e6
         subst e4
         exact sh_eq (by have := hcn.1;have := hcn'.1;omega) (by have := hcn.2.1;have := hcn'.2.1;omega) rfl (hkid (by decide) e6)
     | 9,_ =>
       simp [arB] at ha ha'
       have h' : G.nd f_rec 0 0 (xs.headD f_0) xs.tail (gts kids) = .nd f_rec 0 0 (xs'.headD f_0) xs'.tail (gts kids') := h
       injection h' with _ _ _ e4 e5 e6
       have hx : xs = xs' := by
        cases xs with
        | nil => simp at ha
        | cons x r =>
          cases xs' with
          | nil => simp at ha'
          | cons x' r' =>
            have h1 : x = x' := e4
            have h2 : r = r' := e5
            rw [h1,h2]
       exact sh_eq (by have := hcn.1;have := hcn'.1;omega) (by have := hcn.2.1;have := hcn'.2.1;omega) hx (hkid (by decide) e6)
     | 10,_ =>
       simp [arB] at ha ha'
       match kids,ha.1,kids',ha'.1,hc,hc',hs,h,hcn,hcn' with
       | [q,a,d],_,[q',a',d'],_,hc,hc',hs,h,hcn,hcn' =>
         have hp := hc.pats
         have hp' := hc'.pats
         rw [pats] at hp hp'
         have hfc := hc.fine
         have hfc' := hc'.fine
         rw [fine] at hfc hfc'
         obtain ⟨p1,_,p2,p2',p3,p3',_⟩ := hp
         obtain ⟨r1,_,r2,r2',r3,r3',_⟩ := hp'
         have hq : q.k = 25 := p1.2 ⟨rfl,rfl⟩
         have hq' : q'.k = 25 := r1.2 ⟨rfl,rfl⟩
         have na : Nice a := ⟨hfc.2.2.1,hcn.2.2.2.1,p2',fun e => by have := (p2.1 e).2;omega⟩
         have nd : Nice d := ⟨hfc.2.2.2.1,hcn.2.2.2.2.1,p3',fun e => by have := (p3.1 e).2;omega⟩
         have na' : Nice a' := ⟨hfc'.2.2.1,hcn'.2.2.2.1,r2',fun e => by have := (r2.1 e).2;omega⟩
         have nd' : Nice d' := ⟨hfc'.2.2.2.1,hcn'.2.2.2.2.1,r3',fun e => by have := (r3.1 e).2;omega⟩
         have h' : G.nd f_pair 0 0 f_0 (txs q) [gt a,gt d] = .nd f_pair 0 0 f_0 (txs q') [gt a',gt d'] := h
         injection h' with _ _ _ _ e5 e6
         injection e6 with e6 e7
         injection e7 with e7
         have sa := ih a a' (by simp at hs;omega) na na' e6
         have sd := ih d d' (by simp at hs;omega) nd nd' e7
         have sq : sh q = sh q' := by
          cases q with
          | nd bq kq sq nq xq yq =>
          cases q' with
          | nd bq' kq' sq' nq' xq' yq' =>
            have k1 : kq = 25 := hq
            have k2 : kq' = 25 := hq'
            subst k1 k2
            have f1 := hfc.2.1
            have f2 := hfc'.2.1
            have g1 := hcn.2.2.1
            have g2 := hcn'.2.2.1
            rw [fine] at f1 f2
            rw [can] at g1 g2
            have t1 := f1.1
            have t2 := f2.1
            simp [arB] at t1 t2
            obtain ⟨⟨rfl,_⟩,_⟩ := t1
            obtain ⟨⟨rfl,_⟩,_⟩ := t2
            exact sh_eq (by have := g1.1;have := g2.1;omega) (by have := g1.2.1;have := g2.2.1;omega) e5 rfl
         refine sh_eq (by have := hcn.1;have := hcn'.1;omega) (by have := hcn.2.1;have := hcn'.2.1;omega) ?_ ?_
         ·have h1 := ha.2;have h2 := ha'.2
          simp_all
         ·simp only [shs];rw [sq,sa,sd]
     | 12,_ =>
       have h' : G.nd f_fun 0 0 f_0 xs (gts kids) = .nd f_fun 0 0 f_0 xs' (gts kids') := h
       injection h' with _ _ _ _ e5 e6
       exact sh_eq (by have := hcn.1;have := hcn'.1;omega) (by have := hcn.2.1;have := hcn'.2.1;omega) e5 (hkid (by decide) e6)
     | 15,_ | 16,_ | 17,_ =>
       simp [arB] at ha ha'
       have h' : G.nd f_op 0 0 (nameK s) [] (gts kids) = .nd f_op 0 0 (nameK s') [] (gts kids') := h
       injection h' with _ _ _ e4 _ e6
       have hss := nameK_inj (by omega) (by omega) e4
       have hx : xs = xs' := by have h1 := ha.1.2;have h2 := ha'.1.2;simp_all
       exact sh_eq hss (by have := hcn.2.1;have := hcn'.2.1;omega) hx (hkid (by decide) e6)
     | 7,_ | 19,_ =>
       simp [arB] at ha ha'
       have e6 : gts kids = gts kids' := by injection h
       have hx : xs = xs' := by have h1 := ha.2;have h2 := ha'.2;simp_all
       exact sh_eq (by have := hcn.1;have := hcn'.1;omega) (by have := hcn.2.1;have := hcn'.2.1;omega) hx (hkid (by decide) e6)
     | 11,_ | 13,_ | 14,_ | 18,_ | 20,_ | 21,_ | 22,_ | 23,_ | 24,_ =>
       simp [arB] at ha ha'
       have e6 : gts kids = gts kids' := by injection h
       have hx : xs = xs' := by have h1 := ha.2;have h2 := ha'.2;simp_all
       exact sh_eq (by have := hcn.1;have := hcn'.1;omega) (by have := hcn.2.1;have := hcn'.2.1;omega) hx (hkid (by decide) e6)
     | 25,h => exact absurd rfl h
     | k + 26,_ => simp [arB] at ha
end Go.Proofs.YtmkdoejpgkgpbaaGreatDoor
namespace Go.Proofs.YtmkdoejpgkgpbaaGreatDoor
namespace Sl
def Cp (N : Nat) (c : T) : Prop := ∀ u r o,u.map Tok.tk = fl c -> r ≠ [] -> o + opc (fl c) <= N -> Cm N c (u ++ r) r o
theorem ne_of {c : T} {u : List Tok} (hf : fine c) (hu : u.map Tok.tk = fl c) : ∃ t l x q,u = t :: l /\ fl c = x :: q /\ t.k = x.k := by
 have hb := fl_bal c hf
 cases hc : fl c with
 | nil => exact absurd hc hb.ne
 | cons x q =>
   rw [hc] at hu
   obtain ⟨t,l,rfl,ht,_⟩ := map_cons hu
   exact ⟨t,l,x,q,rfl,rfl,by rw [<- tk_k,ht]⟩
theorem comp_brk {N : Nat} {c : T} (hw : wf c) (h25 : c.k ≠ 25) (hc : Cp N c) : Cp N (brk c) := by
 intro u r o hu hr ho
 rw [fl_brk] at hu ho
 obtain ⟨t,b,rfl,ht,hb⟩ := map_cons hu
 obtain ⟨u1,b2,rfl,hu1,hb2⟩ := map_app hb
 obtain ⟨t2,b3,rfl,ht2,hb3⟩ := map_cons hb2
 have : b3 = [] := by simpa using hb3
 subst this
 cases r with
 | nil => exact absurd rfl hr
 | cons t0 r0 =>
   have k1 := kind_of ht
   have k2 := kind_of ht2
   have ho' : o + 1 + opc (fl c) <= N := by
    simp only [opc,opc_app] at ho
    simp [isO,Tk.of] at ho
    omega
   have hcm := hc u1 (t2 :: t0 :: r0) (o + 1) hu1 (by simp) ho'
   obtain ⟨ta,la,x,q,rfl,hfx,hkx⟩ := ne_of (wf_fine c hw) hu1
   have hh : ta.k ≠ 24 := by
    have hb := fl_bal c (wf_fine c hw)
    rw [hfx] at hb
    have := hb.head
    rw [hkx]
    intro e
    simp [isC,e] at this
   have f0 : fol 0 t2.k := by rw [k2];exact ⟨fun _ => by decide,fun _ => rfl,fun _ => rfl,fun _ => rfl,fun _ => rfl,fun _ => by decide⟩
   have e1 := hcm.a0 f0
   have hat : Jb N .atom (t :: ((ta :: la) ++ (t2 :: t0 :: r0))) o (.ok (.tr (brk c)) (t0 :: r0) o) := by
    refine Jb.out (ss := [.op 23,.jb .bracket]) (by simp only [expand];rw [if_pos k1]) (Sq.op k1 (by omega) (Sq.jb (v := .tr (brk c)) (l' := t0 :: r0) (o' := o) ?_ (Sq.nil _ _))) rfl
    refine Jb.go (by simp only [expand];rw [if_neg hh]) (Sq.jb e1 (Sq.nil _ _)) rfl ?_
    exact Jb.out (by simp only [expand];rw [if_neg (by omega)]) (Sq.cl k2 (Sq.nil _ _)) rfl
   have hfst : Fst (brk c) t.k := fst_of _ (brk c) (Nat.le_refl _) (wf_brk hw h25) oB (fl c ++ [cB]) (fl_brk c) |> fun h => by rw [k1];exact h
   have hr7 : 7 <= rkT (brk c) := by rw [rkT_brk];exact Nat.le_refl _
   have := cm7 hfst hr7 hat
   simpa using this
theorem items_all {N : Nat} {o : Nat} {t2 t0 : Tok} {r0 : List Tok} (k2 : t2.k = 24) : ∀ (kids : List T) (u : List Tok) (m : Nat) (az : List T),(∀ c ∈ kids,Cp N c) -> az ≠ [] -> u.map Tok.tk = flk 7 0 az.length kids -> kids.length <= m -> o + 1 + opc (flk 7 0 az.length kids) <= N ->
 Jb N (.items m az) (u ++ t2 :: t0 :: r0) (o + 1) (.ok (.tr (itemsT (az ++ kids))) (t0 :: r0) o)
 | [],u,m,az,_,_,hu,_,_ => by
   have : u = [] := by simpa [flk] using hu
   subst this
   simp only [List.append_nil,List.nil_append]
   exact Jb.out (by simp only [expand];rw [if_neg (by omega)]) (Sq.cl k2 (Sq.nil _ _)) rfl
 | c :: kids,u,m,az,hc,hne,hu,hm,ho => by
   rw [flk] at hu ho
   have hsep : sep 7 0 az.length = [Tk.of 25] := by
    cases az with
    | nil => exact absurd rfl hne
    | cons => rfl
   rw [hsep,List.singleton_append] at hu ho
   obtain ⟨t,b,rfl,ht,hb⟩ := map_cons hu
   obtain ⟨u1,b2,rfl,hu1,hb2⟩ := map_app hb
   have k1 := kind_of ht
   simp only [opc,opc_app] at ho
   have hcm := hc c (by simp) u1 (b2 ++ t2 :: t0 :: r0) (o + 1) hu1 (by simp) (by omega)
   have hfol : fol 0 (hk (b2 ++ t2 :: t0 :: r0)) := by
    cases b2 with
    | nil => simp only [List.nil_append,hk,k2];exact ⟨fun _ => by decide,fun _ => rfl,fun _ => rfl,fun _ => rfl,fun _ => rfl,fun _ => by decide⟩
    | cons tb bb =>
      cases kids with
      | nil => simp [flk] at hb2
      | cons d ds =>
        rw [flk] at hb2
        have : sep 7 0 (az.length + 1) = [Tk.of 25] := rfl
        rw [this,List.singleton_append,List.map_cons] at hb2
        injection hb2 with e1 _
        have := kind_of e1
        simp only [List.cons_append,hk,this]
        exact ⟨fun _ => by decide,fun _ => rfl,fun _ => rfl,fun _ => rfl,fun _ => rfl,fun _ => by decide⟩
   have h := items_all (N := N) (o := o) (t0 := t0) (r0 := r0) k2 kids b2 (m - 1) (az ++ [c]) (fun d hd => hc d (by simp [hd])) (by simp) (by simpa using hb2) (by simp at hm;omega) (by simp;omega)
   rw [List.append_assoc,List.singleton_append] at h
   have e : t :: (u1 ++ b2) ++ t2 :: t0 :: r0 = t :: (u1 ++ (b2 ++ t2 :: t0 :: r0)) := by simp
   rw [e]
   exact Jb.go (by simp only [expand];rw [if_pos ⟨k1,by simp at hm;omega⟩]) (Sq.tm k1 (Sq.jb (hcm.a0 hfol) (Sq.nil _ _))) rfl h
theorem args_all {N : Nat} {o : Nat} {t0 : Tok} {r0 : List Tok} (h0 : isOpd t0.k = false) (h18 : t0.k ≠ 18) : ∀ (kids : List T) (u : List Tok) (m : Nat) (az : List T),(∀ c ∈ kids,Cp N c /\ wf c /\ 6 <= rkT c /\ c.k ≠ 25) -> u.map Tok.tk = flk 19 0 az.length kids -> kids.length <= m -> o + opc (flk 19 0 az.length kids) <= N ->
 Jb N (.args m az) (u ++ t0 :: r0) o (.ok (.tr (argsT (az ++ kids))) (t0 :: r0) o)
 | [],u,m,az,_,hu,_,_ => by
   have : u = [] := by simpa [flk] using hu
   subst this
   simp only [List.append_nil,List.nil_append]
   exact args_out (.inl h0)
 | c :: kids,u,m,az,hc,hu,hm,ho => by
   rw [flk] at hu ho
   have hsep : sep 19 0 az.length = [] := by unfold sep;split <;> rfl
   rw [hsep,List.nil_append] at hu ho
   obtain ⟨u1,b2,rfl,hu1,hb2⟩ := map_app hu
   simp only [opc_app] at ho
   obtain ⟨hcp,hcw,hc6,hc25⟩ := hc c (by simp)
   have hcm := hcp u1 (b2 ++ t0 :: r0) o hu1 (by simp) (by omega)
   obtain ⟨ta,la,x,q,rfl,hfx,hkx⟩ := ne_of (wf_fine c hcw) hu1
   have hopd : isOpd ta.k = true := by rw [hkx];exact opd_first hcw hc6 hc25 hfx
   have h := args_all (N := N) (o := o) (r0 := r0) h0 h18 kids b2 (m - 1) (az ++ [c]) (fun d hd => hc d (by simp [hd])) (by simpa using hb2) (by simp at hm;omega) (by simp;omega)
   rw [List.append_assoc,List.singleton_append] at h
   have hidx : Jb N (.index c) (b2 ++ t0 :: r0) o (.ok (.tr c) (b2 ++ t0 :: r0) o) := by
    cases b2 with
    | nil => exact idx_out h18
    | cons tb bb =>
      cases kids with
      | nil => simp [flk] at hb2
      | cons d ds =>
        obtain ⟨hdp,hdw,hd6,hd25⟩ := hc d (by simp)
        have hbd := fl_bal d (wf_fine d hdw)
        cases hfd : fl d with
        | nil => exact absurd hfd hbd.ne
        | cons y z =>
          rw [flk,hfd] at hb2
          have hsep2 : sep 19 0 (az.length + 1) = [] := rfl
          rw [hsep2,List.nil_append,List.cons_append,List.map_cons] at hb2
          injection hb2 with e1 _
          have hy := opd_first hdw hd6 hd25 hfd
          have : tb.k ≠ 18 := by
           intro e
           rw [<- e1,tk_k,e] at hy
           revert hy;decide
          exact idx_out this
   have e : (ta :: la) ++ b2 ++ t0 :: r0 = ta :: (la ++ (b2 ++ t0 :: r0)) := by simp
   rw [e]
   have hop := hcm.a6 hc6 _ hidx
   refine Jb.go (by simp only [expand];rw [if_pos (by simp at hm;simp [hopd];omega)]) (Sq.jb hop (Sq.nil _ _)) rfl h
end Sl
end Go.Proofs.YtmkdoejpgkgpbaaGreatDoor
namespace Go.Proofs.YtmkdoejpgkgpbaaGreatDoor
namespace Sl
theorem fol_of (q h : Nat) (hb : (h != 18 && !isOpd h && !isPro h && !isSum h && !isCmp h && h != 26) = true) : fol q h := by
 simp only [Bool.and_eq_true,bne_iff_ne,Bool.not_eq_true'] at hb
 exact ⟨fun _ => hb.1.1.1.1.1,fun _ => hb.1.1.1.1.2,fun _ => hb.1.1.1.2,fun _ => hb.1.1.2,fun _ => hb.1.2,fun _ => hb.2⟩
theorem commas_eq : ∀ (zs : List ByteArray) (x : ByteArray),commas (x :: zs) = nmTk x :: zs.flatMap (fun z => [Tk.of 25,nmTk z])
 | [],_ => rfl
 | z :: r,x => by rw [commas,commas_eq r z];rfl
section
variable {N : Nat}
theorem fstT {c : T} (hw : wf c) {t : Tok} {u : List Tok} (hu : (t :: u).map Tok.tk = fl c) : Fst c t.k := by
 rw [List.map_cons] at hu
 have := fst_of _ c (Nat.le_refl _) hw t.tk _ hu.symm
 exact this
theorem comp_leaf {k n : Nat} {xs : List ByteArray} {x : Tk} (hw : wf (.nd 0 k 0 n xs [])) (hr : rk k = 7) (hf : fl (.nd 0 k 0 n xs []) = [x]) (hl : isLeaf x.k = true) (h : ∀ t : Tok,t.tk = x -> leaf t = .nd 0 k 0 n xs []) : Cp N (.nd 0 k 0 n xs []) := by
 intro u r o hu hr' ho
 have hu0 := hu
 rw [hf] at hu
 obtain ⟨t,b,rfl,ht,hb⟩ := map_cons hu
 have : b = [] := by simpa using hb
 subst this
 cases r with
 | nil => exact absurd rfl hr'
 | cons t0 r0 =>
   have hk : isLeaf t.k = true := by rw [<- tk_k,ht];exact hl
   have h23 : t.k ≠ 23 := by intro e;rw [e] at hk;revert hk;decide
   refine cm7 (fstT hw hu0) (by rw [rkT,if_neg (by omega)];omega) ?_
   have := h t ht
   rw [<- this]
   exact Jb.out (by simp only [expand];rw [if_neg h23,if_pos hk]) (Sq.tm rfl (Sq.nil _ _)) rfl
theorem comp_unit (hw : wf (.nd 0 6 0 0 [] [])) : Cp N (.nd 0 6 0 0 [] []) := by
 intro u r o hu hr' ho
 have hu0 := hu
 have hf : fl (.nd 0 6 0 0 [] []) = [oB,cB] := rfl
 rw [hf] at hu ho
 obtain ⟨t,b,rfl,ht,hb⟩ := map_cons hu
 obtain ⟨t2,b2,rfl,ht2,hb2⟩ := map_cons hb
 have : b2 = [] := by simpa using hb2
 subst this
 cases r with
 | nil => exact absurd rfl hr'
 | cons t0 r0 =>
   have k1 := kind_of ht
   have k2 := kind_of ht2
   have ho' : o < N := by simp [opc,isO,isX,Tk.of] at ho;omega
   refine cm7 (fstT hw hu0) (by decide) ?_
   exact Jb.out (by simp only [expand];rw [if_pos k1]) (Sq.op k1 ho' (Sq.jb (Jb.out (by simp only [expand];rw [if_pos k2]) (Sq.cl k2 (Sq.nil _ _)) rfl) (Sq.nil _ _))) rfl
theorem comp_tuple {kids : List T} (hw : wf (.nd 1 7 0 0 [] kids)) (hc : ∀ c ∈ kids,Cp N c) : Cp N (.nd 1 7 0 0 [] kids) := by
 intro u r o hu hr' ho
 have hu0 := hu
 match kids,hw,hc with
 | [],hw,_ => have := hw.1;simp [arB] at this
 | c :: ks,hw,hc =>
   have hf : fl (.nd 1 7 0 0 [] (c :: ks)) = oB :: (fl c ++ (flk 7 0 1 ks ++ [cB])) := by rw [fl_eq];simp [bod,pre,flk,sep,post]
   rw [hf] at hu ho
   obtain ⟨t,b,rfl,ht,hb⟩ := map_cons hu
   obtain ⟨u1,b2,rfl,hu1,hb2⟩ := map_app hb
   obtain ⟨u2,b3,rfl,hu2,hb3⟩ := map_app hb2
   obtain ⟨t2,b4,rfl,ht2,hb4⟩ := map_cons hb3
   have : b4 = [] := by simpa using hb4
   subst this
   cases r with
   | nil => exact absurd rfl hr'
   | cons t0 r0 =>
     have k1 := kind_of ht
     have k2 := kind_of ht2
     simp only [opc,opc_app] at ho
     simp [isO,Tk.of] at ho
     have hcw := hw.2.2.2.1
     have hcm := hc c (by simp) u1 (u2 ++ (t2 :: t0 :: r0)) (o + 1) hu1 (by simp) (by omega)
     have hlen := hw.1
     simp [arB] at hlen
     have hit := items_all (N := N) (o := o) (t0 := t0) (r0 := r0) k2 ks u2 5 [c] (fun d hd => hc d (by simp [hd])) (by simp) hu2 (by omega) (by simp;omega)
     obtain ⟨ta,la,x,q,rfl,hfx,hkx⟩ := ne_of (wf_fine c hcw) hu1
     have hh : ta.k ≠ 24 := by
      have hb := fl_bal c (wf_fine c hcw)
      rw [hfx] at hb
      have := hb.head
      rw [hkx]
      intro e
      simp [isC,e] at this
     have hfol : fol 0 (hk (u2 ++ (t2 :: t0 :: r0))) := by
      cases u2 with
      | nil => simp only [List.nil_append,hk,k2];exact fol_of _ _ rfl
      | cons tb bb =>
        cases ks with
        | nil => simp [flk] at hu2
        | cons d ds =>
          rw [flk,show sep 7 0 1 = [Tk.of 25] from rfl,List.singleton_append,List.map_cons] at hu2
          injection hu2 with e1 _
          simp only [List.cons_append,hk,kind_of e1]
          exact fol_of _ _ rfl
     have hlen2 : ks ≠ [] := by intro e;subst e;simp at hlen
     have hT : itemsT ([c] ++ ks) = .nd 1 7 0 0 [] (c :: ks) := by
      cases ks with
      | nil => exact absurd rfl hlen2
      | cons d ds => rfl
     rw [hT] at hit
     have e : t :: ((ta :: la) ++ (u2 ++ [t2])) ++ t0 :: r0 = t :: ((ta :: la) ++ (u2 ++ (t2 :: t0 :: r0))) := by simp
     rw [e]
     refine cm7 (t := t) (fstT hw hu0) (by rw [rkT,if_pos (by omega)];omega) ?_
     refine Jb.out (ss := [.op 23,.jb .bracket]) (by simp only [expand];rw [if_pos k1]) (Sq.op k1 (by omega) (Sq.jb ?_ (Sq.nil _ _))) rfl
     exact Jb.go (by simp only [expand];rw [if_neg hh]) (Sq.jb (hcm.a0 hfol) (Sq.nil _ _)) rfl hit
theorem comp_let {x : ByteArray} {a b : T} (hw : wf (.nd 0 8 0 0 [x] [a,b])) (ha : Cp N a) (hb : Cp N b) : Cp N (.nd 0 8 0 0 [x] [a,b]) := by
 intro u r o hu hr' ho
 have hu0 := hu
 have hf : fl (.nd 0 8 0 0 [x] [a,b]) = Tk.of 3 :: nmTk x :: Tk.of 27 :: (fl a ++ (Tk.of 5 :: fl b)) := by rw [fl_eq];simp [bod,pre,flk,sep,post]
 rw [hf] at hu ho
 obtain ⟨t1,b1,rfl,h1,hb1⟩ := map_cons hu
 obtain ⟨t2,b2,rfl,h2,hb2⟩ := map_cons hb1
 obtain ⟨t3,b3,rfl,h3,hb3⟩ := map_cons hb2
 obtain ⟨ua,b4,rfl,hua,hb4⟩ := map_app hb3
 obtain ⟨t4,ub,rfl,h4,hub⟩ := map_cons hb4
 cases r with
 | nil => exact absurd rfl hr'
 | cons t0 r0 =>
   simp only [opc,opc_app] at ho
   have k1 := kind_of h1
   obtain ⟨k2,x2⟩ := name_of h2
   have k3 := kind_of h3
   have k4 := kind_of h4
   have ca := ha ua (t4 :: (ub ++ t0 :: r0)) o hua (by simp) (by omega)
   have cb := hb ub (t0 :: r0) o hub (by simp) (by omega)
   have e : (t1 :: t2 :: t3 :: (ua ++ t4 :: ub)) ++ t0 :: r0 = t1 :: t2 :: t3 :: (ua ++ (t4 :: (ub ++ t0 :: r0))) := by simp
   rw [e]
   refine cm0 (Nat.le_refl _) (fun hfol => ?_)
   refine Jb.out (ss := [.tm 3,.jb .lett]) (by simp only [expand];rw [if_pos k1]) (Sq.tm k1 (Sq.jb ?_ (Sq.nil _ _))) rfl
   have := ca.a0 (by rw [hk,k4];exact fol_of _ _ rfl)
   refine Jb.out (by simp only [expand];rw [if_neg (by omega),if_neg (by omega)]) (Sq.tm k2 (Sq.tm k3 (Sq.jb this (Sq.tm k4 (Sq.jb (cb.a0 hfol) (Sq.nil _ _)))))) ?_
   simp only [x2]
theorem comp_rec {f x : ByteArray} {xs : List ByteArray} {a b : T} (hw : wf (.nd 0 9 0 0 (f :: x :: xs) [a,b])) (ha : Cp N a) (hb : Cp N b) : Cp N (.nd 0 9 0 0 (f :: x :: xs) [a,b]) := by
 intro u r o hu hr' ho
 have hlen := hw.1
 simp [arB] at hlen
 have hf : fl (.nd 0 9 0 0 (f :: x :: xs) [a,b]) = Tk.of 3 :: Tk.of 4 :: nmTk f :: nmTk x :: (xs.map nmTk ++ (Tk.of 27 :: (fl a ++ (Tk.of 5 :: fl b)))) := by rw [fl_eq];simp [bod,pre,flk,sep,post]
 rw [hf] at hu ho
 obtain ⟨t1,b1,rfl,h1,hb1⟩ := map_cons hu
 obtain ⟨t1',b1',rfl,h1',hb1'⟩ := map_cons hb1
 obtain ⟨t2,b2,rfl,h2,hb2⟩ := map_cons hb1'
 obtain ⟨t2',b2',rfl,h2',hb2'⟩ := map_cons hb2
 obtain ⟨un,b3',rfl,hun,hb3'⟩ := map_app hb2'
 obtain ⟨t3,b3,rfl,h3,hb3⟩ := map_cons hb3'
 obtain ⟨ua,b4,rfl,hua,hb4⟩ := map_app hb3
 obtain ⟨t4,ub,rfl,h4,hub⟩ := map_cons hb4
 cases r with
 | nil => exact absurd rfl hr'
 | cons t0 r0 =>
   simp only [opc,opc_app] at ho
   have k1 := kind_of h1
   have k1' := kind_of h1'
   obtain ⟨k2,x2⟩ := name_of h2
   obtain ⟨k2',x2'⟩ := name_of h2'
   have k3 := kind_of h3
   have k4 := kind_of h4
   have ca := ha ua (t4 :: (ub ++ t0 :: r0)) o hua (by simp) (by omega)
   have cb := hb ub (t0 :: r0) o hub (by simp) (by omega)
   have hpar := params_all (N := N) (o := o) (r0 := ua ++ (t4 :: (ub ++ t0 :: r0))) (show t3.k ≠ 2 by omega) xs un 3 [] hun (by omega)
   have e : (t1 :: t1' :: t2 :: t2' :: (un ++ t3 :: (ua ++ t4 :: ub))) ++ t0 :: r0 = t1 :: t1' :: t2 :: t2' :: (un ++ t3 :: (ua ++ (t4 :: (ub ++ t0 :: r0)))) := by simp
   rw [e]
   refine cm0 (Nat.le_refl _) (fun hfol => ?_)
   refine Jb.out (ss := [.tm 3,.jb .lett]) (by simp only [expand];rw [if_pos k1]) (Sq.tm k1 (Sq.jb ?_ (Sq.nil _ _))) rfl
   have := ca.a0 (by rw [hk,k4];exact fol_of _ _ rfl)
   refine Jb.out (by simp only [expand];rw [if_pos k1']) (Sq.tm k1' (Sq.tm k2 (Sq.tm k2' (Sq.jb hpar (Sq.tm k3 (Sq.jb this (Sq.tm k4 (Sq.jb (cb.a0 hfol) (Sq.nil _ _))))))))) ?_
   simp only [x2,x2',List.nil_append]
theorem comp_pair {x y : ByteArray} {xs : List ByteArray} {a b : T} (hw : wf (.nd 0 10 0 0 [] [.nd 1 25 0 0 (x :: y :: xs) [],a,b])) (ha : Cp N a) (hb : Cp N b) : Cp N (.nd 0 10 0 0 [] [.nd 1 25 0 0 (x :: y :: xs) [],a,b]) := by
 intro u r o hu hr' ho
 have hlen := hw.2.2.2.1.1
 simp [arB] at hlen
 have hf : fl (.nd 0 10 0 0 [] [.nd 1 25 0 0 (x :: y :: xs) [],a,b]) = Tk.of 3 :: oB :: nmTk x :: Tk.of 25 :: nmTk y :: (xs.flatMap (fun z => [Tk.of 25,nmTk z]) ++ (cB :: Tk.of 27 :: (fl a ++ (Tk.of 5 :: fl b)))) := by rw [fl_eq];simp [bod,pre,flk,sep,post,fl_eq,commas_eq]
 rw [hf] at hu ho
 obtain ⟨t1,b1,rfl,h1,hb1⟩ := map_cons hu
 obtain ⟨tu,bo,rfl,hto,hbo⟩ := map_cons hb1
 obtain ⟨t2,b2,rfl,h2,hb2⟩ := map_cons hbo
 obtain ⟨tc,bc,rfl,htc,hbc⟩ := map_cons hb2
 obtain ⟨t2',b2',rfl,h2',hb2'⟩ := map_cons hbc
 obtain ⟨un,b3',rfl,hun,hb3'⟩ := map_app hb2'
 obtain ⟨tl,bl,rfl,htl,hbl⟩ := map_cons hb3'
 obtain ⟨t3,b3,rfl,h3,hb3⟩ := map_cons hbl
 obtain ⟨ua,b4,rfl,hua,hb4⟩ := map_app hb3
 obtain ⟨t4,ub,rfl,h4,hub⟩ := map_cons hb4
 cases r with
 | nil => exact absurd rfl hr'
 | cons t0 r0 =>
   simp only [opc,opc_app] at ho
   simp [isO,Tk.of] at ho
   have k1 := kind_of h1
   have ko := kind_of hto
   have kc := kind_of htc
   have kl := kind_of htl
   obtain ⟨k2,x2⟩ := name_of h2
   obtain ⟨k2',x2'⟩ := name_of h2'
   have k3 := kind_of h3
   have k4 := kind_of h4
   have ca := ha ua (t4 :: (ub ++ t0 :: r0)) o hua (by simp) (by omega)
   have cb := hb ub (t0 :: r0) o hub (by simp) (by omega)
   have hpar := names_all (N := N) (o := o + 1) (r0 := t3 :: (ua ++ (t4 :: (ub ++ t0 :: r0)))) (show tl.k ≠ 25 by omega) xs un 4 [] hun (by omega)
   have e : (t1 :: tu :: t2 :: tc :: t2' :: (un ++ tl :: t3 :: (ua ++ t4 :: ub))) ++ t0 :: r0 = t1 :: tu :: t2 :: tc :: t2' :: (un ++ tl :: t3 :: (ua ++ (t4 :: (ub ++ t0 :: r0)))) := by simp
   rw [e]
   refine cm0 (Nat.le_refl _) (fun hfol => ?_)
   refine Jb.out (ss := [.tm 3,.jb .lett]) (by simp only [expand];rw [if_pos k1]) (Sq.tm k1 (Sq.jb ?_ (Sq.nil _ _))) rfl
   have := ca.a0 (by rw [hk,k4];exact fol_of _ _ rfl)
   refine Jb.out (by simp only [expand];rw [if_neg (by omega),if_pos ko]) (Sq.op ko (by omega) (Sq.tm k2 (Sq.tm kc (Sq.tm k2' (Sq.jb hpar (Sq.cl kl (Sq.tm k3 (Sq.jb this (Sq.tm k4 (Sq.jb (cb.a0 hfol) (Sq.nil _ _))))))))))) ?_
   simp only [x2,x2',List.nil_append]
theorem comp_if {a b c : T} (hw : wf (.nd 0 11 0 0 [] [a,b,c])) (ha : Cp N a) (hb : Cp N b) (hc : Cp N c) : Cp N (.nd 0 11 0 0 [] [a,b,c]) := by
 intro u r o hu hr' ho
 have hf : fl (.nd 0 11 0 0 [] [a,b,c]) = Tk.of 6 :: (fl a ++ (Tk.of 7 :: (fl b ++ (Tk.of 8 :: fl c)))) := by rw [fl_eq];simp [bod,pre,flk,sep,post]
 rw [hf] at hu ho
 obtain ⟨t1,b1,rfl,h1,hb1⟩ := map_cons hu
 obtain ⟨ua,b4,rfl,hua,hb4⟩ := map_app hb1
 obtain ⟨t4,b5,rfl,h4,hb5⟩ := map_cons hb4
 obtain ⟨ub,b6,rfl,hub,hb6⟩ := map_app hb5
 obtain ⟨t5,uc,rfl,h5,huc⟩ := map_cons hb6
 cases r with
 | nil => exact absurd rfl hr'
 | cons t0 r0 =>
   simp only [opc,opc_app] at ho
   have k1 := kind_of h1
   have k4 := kind_of h4
   have k5 := kind_of h5
   have ca := ha ua (t4 :: (ub ++ t5 :: (uc ++ t0 :: r0))) o hua (by simp) (by omega)
   have cb := hb ub (t5 :: (uc ++ t0 :: r0)) o hub (by simp) (by omega)
   have cc := hc uc (t0 :: r0) o huc (by simp) (by omega)
   have e : (t1 :: (ua ++ t4 :: (ub ++ t5 :: uc))) ++ t0 :: r0 = t1 :: (ua ++ t4 :: (ub ++ t5 :: (uc ++ t0 :: r0))) := by simp
   rw [e]
   refine cm0 (Nat.le_refl _) (fun hfol => ?_)
   have e1 := ca.a0 (by rw [hk,k4];exact fol_of _ _ rfl)
   have e2 := cb.a0 (by rw [hk,k5];exact fol_of _ _ rfl)
   exact Jb.out (by simp only [expand];rw [if_neg (by omega),if_pos k1]) (Sq.tm k1 (Sq.jb e1 (Sq.tm k4 (Sq.jb e2 (Sq.tm k5 (Sq.jb (cc.a0 hfol) (Sq.nil _ _))))))) rfl
theorem comp_fun {x : ByteArray} {xs : List ByteArray} {a : T} (hw : wf (.nd 0 12 0 0 (x :: xs) [a])) (ha : Cp N a) : Cp N (.nd 0 12 0 0 (x :: xs) [a]) := by
 intro u r o hu hr' ho
 have hlen := hw.1
 simp [arB] at hlen
 have hf : fl (.nd 0 12 0 0 (x :: xs) [a]) = Tk.of 9 :: nmTk x :: (xs.map nmTk ++ (Tk.of 22 :: fl a)) := by rw [fl_eq];simp [bod,pre,flk,sep,post]
 rw [hf] at hu ho
 obtain ⟨t1,b1,rfl,h1,hb1⟩ := map_cons hu
 obtain ⟨t2,b2,rfl,h2,hb2⟩ := map_cons hb1
 obtain ⟨un,b3',rfl,hun,hb3'⟩ := map_app hb2
 obtain ⟨t3,ua,rfl,h3,hua⟩ := map_cons hb3'
 cases r with
 | nil => exact absurd rfl hr'
 | cons t0 r0 =>
   simp only [opc,opc_app] at ho
   have k1 := kind_of h1
   obtain ⟨k2,x2⟩ := name_of h2
   have k3 := kind_of h3
   have ca := ha ua (t0 :: r0) o hua (by simp) (by omega)
   have hpar := params_all (N := N) (o := o) (r0 := ua ++ t0 :: r0) (show t3.k ≠ 2 by omega) xs un 3 [] hun (by omega)
   have e : (t1 :: t2 :: (un ++ t3 :: ua)) ++ t0 :: r0 = t1 :: t2 :: (un ++ t3 :: (ua ++ t0 :: r0)) := by simp
   rw [e]
   refine cm0 (Nat.le_refl _) (fun hfol => ?_)
   refine Jb.out (by simp only [expand];rw [if_neg (by omega),if_neg (by omega),if_pos k1]) (Sq.tm k1 (Sq.tm k2 (Sq.jb hpar (Sq.tm k3 (Sq.jb (ca.a0 hfol) (Sq.nil _ _)))))) ?_
   simp only [x2,List.nil_append]
end
end Sl
end Go.Proofs.YtmkdoejpgkgpbaaGreatDoor
namespace Go.Proofs.YtmkdoejpgkgpbaaGreatDoor
namespace Sl
section
variable {N : Nat}
theorem comp_un {k w : Nat} {a : T} (hk : (k = 13 /\ w = 31) \/ (k = 14 /\ w = 10)) (hw : wf (.nd 0 k 0 0 [] [a])) (ha : Cp N a) : Cp N (.nd 0 k 0 0 [] [a]) := by
 intro u r o hu hr' ho
 have hu0 := hu
 have hf : fl (.nd 0 k 0 0 [] [a]) = Tk.of w :: fl a := by rw [fl_eq];rcases hk with ⟨rfl,rfl⟩ | ⟨rfl,rfl⟩ <;> simp [bod,pre,flk,sep,post]
 have hr4 : rkT (.nd 0 k 0 0 [] [a]) = 4 := by rcases hk with ⟨rfl,rfl⟩ | ⟨rfl,rfl⟩ <;> rfl
 have ha4 : 4 <= rkT a := by
  have := hw.2.2.2.2.1
  rcases hk with ⟨rfl,rfl⟩ | ⟨rfl,rfl⟩ <;> exact this
 rw [hf] at hu ho
 obtain ⟨t1,ua,rfl,h1,hua⟩ := map_cons hu
 cases r with
 | nil => exact absurd rfl hr'
 | cons t0 r0 =>
   simp only [opc] at ho
   have k1 := kind_of h1
   have ca := ha ua (t0 :: r0) o hua (by simp) (by omega)
   rw [List.cons_append]
   refine cm4 (fstT hw hu0) (by omega) (by omega) (fun hfol => ?_)
   have e1 := ca.a4 ha4 hfol
   rcases hk with ⟨rfl,rfl⟩ | ⟨rfl,rfl⟩
   ·exact Jb.out (by simp only [expand];rw [if_pos k1]) (Sq.tm k1 (Sq.jb e1 (Sq.nil _ _))) rfl
   ·exact Jb.out (by simp only [expand];rw [if_neg (by omega),if_pos k1]) (Sq.tm k1 (Sq.jb e1 (Sq.nil _ _))) rfl
theorem comp_prod {s : Nat} {a b : T} (hs : isPro s = true) (hw : wf (.nd 0 15 s 0 [] [a,b])) (ha : Cp N a) (hb : Cp N b) : Cp N (.nd 0 15 s 0 [] [a,b]) := by
 intro u r o hu hr' ho
 have hu0 := hu
 have hf : fl (.nd 0 15 s 0 [] [a,b]) = fl a ++ (Tk.of s :: fl b) := by rw [fl_eq];simp [bod,pre,flk,sep,post]
 have ha3 : 3 <= rkT a := hw.2.2.2.2.1
 have hb4 : 4 <= rkT b := hw.2.2.2.2.2.2.2.1
 rw [hf] at hu ho
 obtain ⟨ua,b1,rfl,hua,hb1⟩ := map_app hu
 obtain ⟨t1,ub,rfl,h1,hub⟩ := map_cons hb1
 cases r with
 | nil => exact absurd rfl hr'
 | cons t0 r0 =>
   simp only [opc,opc_app] at ho
   have k1 := kind_of h1
   obtain ⟨ta,la,x,q,rfl,hfx,hkx⟩ := ne_of (wf_fine a hw.2.2.2.1) hua
   have ca := ha (ta :: la) (t1 :: (ub ++ t0 :: r0)) o hua (by simp) (by omega)
   have cb := hb ub (t0 :: r0) o hub (by simp) (by omega)
   have e : (ta :: la) ++ t1 :: ub ++ t0 :: r0 = (ta :: la) ++ (t1 :: (ub ++ t0 :: r0)) := by simp
   rw [e]
   refine cm3 (t := ta) (fstT hw hu0) (by exact Nat.le_refl _) (by exact Nat.le_refl _) (fun hfol res hres => ?_)
   refine ca.a3 ha3 ?_ res ?_
   ·rw [hk,k1]
    simp only [isPro,Bool.or_eq_true,beq_iff_eq] at hs
    rcases hs with (rfl | rfl) | rfl <;> exact ⟨fun _ => by decide,fun _ => rfl,fun h => by omega,fun h => by omega,fun h => by omega,fun h => by omega⟩
   ·refine Jb.go (by simp only [expand];rw [if_pos (by rw [k1];exact hs)]) (Sq.tm rfl (Sq.jb (cb.a4 hb4 hfol) (Sq.nil _ _))) rfl ?_
    rw [k1];exact hres
theorem comp_sum {s : Nat} {a b : T} (hs : isSum s = true) (hw : wf (.nd 0 16 s 0 [] [a,b])) (ha : Cp N a) (hb : Cp N b) : Cp N (.nd 0 16 s 0 [] [a,b]) := by
 intro u r o hu hr' ho
 have hu0 := hu
 have hf : fl (.nd 0 16 s 0 [] [a,b]) = fl a ++ (Tk.of s :: fl b) := by rw [fl_eq];simp [bod,pre,flk,sep,post]
 have ha3 : 2 <= rkT a := hw.2.2.2.2.1
 have hb4 : 3 <= rkT b := hw.2.2.2.2.2.2.2.1
 rw [hf] at hu ho
 obtain ⟨ua,b1,rfl,hua,hb1⟩ := map_app hu
 obtain ⟨t1,ub,rfl,h1,hub⟩ := map_cons hb1
 cases r with
 | nil => exact absurd rfl hr'
 | cons t0 r0 =>
   simp only [opc,opc_app] at ho
   have k1 := kind_of h1
   obtain ⟨ta,la,x,q,rfl,hfx,hkx⟩ := ne_of (wf_fine a hw.2.2.2.1) hua
   have ca := ha (ta :: la) (t1 :: (ub ++ t0 :: r0)) o hua (by simp) (by omega)
   have cb := hb ub (t0 :: r0) o hub (by simp) (by omega)
   have e : (ta :: la) ++ t1 :: ub ++ t0 :: r0 = (ta :: la) ++ (t1 :: (ub ++ t0 :: r0)) := by simp
   rw [e]
   refine cm2 (t := ta) (fstT hw hu0) (by exact Nat.le_refl _) (by exact Nat.le_refl _) (fun hfol res hres => ?_)
   refine ca.a2 ha3 ?_ res ?_
   ·rw [hk,k1]
    simp only [isSum,Bool.or_eq_true,beq_iff_eq] at hs
    rcases hs with rfl | rfl <;> exact ⟨fun _ => by decide,fun _ => rfl,fun _ => rfl,fun h => by omega,fun h => by omega,fun h => by omega⟩
   ·refine Jb.go (by simp only [expand];rw [if_pos (by rw [k1];exact hs)]) (Sq.tm rfl (Sq.jb (cb.a3 hb4 (hfol.mono (by omega)) _ (fac_out (hfol.2.2.1 (by omega)))) (Sq.nil _ _))) rfl ?_
    rw [k1];exact hres
theorem comp_cmp {s : Nat} {a b : T} (hs : isCmp s = true) (hw : wf (.nd 0 17 s 0 [] [a,b])) (ha : Cp N a) (hb : Cp N b) : Cp N (.nd 0 17 s 0 [] [a,b]) := by
 intro u r o hu hr' ho
 have hu0 := hu
 have hf : fl (.nd 0 17 s 0 [] [a,b]) = fl a ++ (Tk.of s :: fl b) := by rw [fl_eq];simp [bod,pre,flk,sep,post]
 have ha3 : 2 <= rkT a := hw.2.2.2.2.1
 have hb4 : 2 <= rkT b := hw.2.2.2.2.2.2.2.1
 rw [hf] at hu ho
 obtain ⟨ua,b1,rfl,hua,hb1⟩ := map_app hu
 obtain ⟨t1,ub,rfl,h1,hub⟩ := map_cons hb1
 cases r with
 | nil => exact absurd rfl hr'
 | cons t0 r0 =>
   simp only [opc,opc_app] at ho
   have k1 := kind_of h1
   obtain ⟨ta,la,x,q,rfl,hfx,hkx⟩ := ne_of (wf_fine a hw.2.2.2.1) hua
   have ca := ha (ta :: la) (t1 :: (ub ++ t0 :: r0)) o hua (by simp) (by omega)
   have cb := hb ub (t0 :: r0) o hub (by simp) (by omega)
   have e : (ta :: la) ++ t1 :: ub ++ t0 :: r0 = (ta :: la) ++ (t1 :: (ub ++ t0 :: r0)) := by simp
   rw [e]
   have hs' := hs
   simp only [isCmp,Bool.or_eq_true,beq_iff_eq] at hs'
   refine cm1 (t := ta) (fstT hw hu0) (by exact Nat.le_refl _) (fun hfol => ?_) (by exact Nat.le_refl _)
   have e1 : Jb N .sum ((ta :: la) ++ (t1 :: (ub ++ t0 :: r0))) o (.ok (.tr a) (t1 :: (ub ++ t0 :: r0)) o) := by
    refine ca.a2 ha3 ?_ _ (ter_out ?_)
    ·rw [hk,k1]
     rcases hs' with ((((rfl | rfl) | rfl) | rfl) | rfl) | rfl <;> exact ⟨fun _ => by decide,fun _ => rfl,fun _ => rfl,fun h => by omega,fun h => by omega,fun h => by omega⟩
    ·rw [k1]
     rcases hs' with ((((rfl | rfl) | rfl) | rfl) | rfl) | rfl <;> rfl
   have e2 : Jb N .sum (ub ++ t0 :: r0) o (.ok (.tr b) (t0 :: r0) o) := cb.a2 hb4 (hfol.mono (by omega)) _ (ter_out (hfol.2.2.2.1 (by omega)))
   refine Jb.go rfl (Sq.jb e1 (Sq.nil _ _)) rfl ?_
   refine Jb.out (by simp only [expand];rw [if_pos (by rw [k1];exact hs)]) (Sq.tm rfl (Sq.jb e2 (Sq.nil _ _))) ?_
   simp only [k1]
theorem comp_seq {a b : T} (hw : wf (.nd 0 18 0 0 [] [a,b])) (ha : Cp N a) (hb : Cp N b) : Cp N (.nd 0 18 0 0 [] [a,b]) := by
 intro u r o hu hr' ho
 have hf : fl (.nd 0 18 0 0 [] [a,b]) = fl a ++ (Tk.of 26 :: fl b) := by rw [fl_eq];simp [bod,pre,flk,sep,post]
 have ha1 : 1 <= rkT a := hw.2.2.2.2.1
 rw [hf] at hu ho
 obtain ⟨ua,b1,rfl,hua,hb1⟩ := map_app hu
 obtain ⟨t1,ub,rfl,h1,hub⟩ := map_cons hb1
 cases r with
 | nil => exact absurd rfl hr'
 | cons t0 r0 =>
   simp only [opc,opc_app] at ho
   have k1 := kind_of h1
   obtain ⟨ta,la,x,q,rfl,hfx,hkx⟩ := ne_of (wf_fine a hw.2.2.2.1) hua
   have fa := fstT hw.2.2.2.1 hua
   have ca := ha (ta :: la) (t1 :: (ub ++ t0 :: r0)) o hua (by simp) (by omega)
   have cb := hb ub (t0 :: r0) o hub (by simp) (by omega)
   have e : (ta :: la) ++ t1 :: ub ++ t0 :: r0 = ta :: (la ++ (t1 :: (ub ++ t0 :: r0))) := by simp
   rw [e]
   refine cm0 (Nat.le_refl _) (fun hfol => ?_)
   have hf1 := fa.f1 ha1
   have e1 := ca.a1 ha1 (by rw [hk,k1];exact ⟨fun _ => by decide,fun _ => rfl,fun _ => rfl,fun _ => rfl,fun _ => rfl,fun h => by omega⟩)
   refine Jb.go (by simp only [expand];rw [if_neg hf1.1,if_neg hf1.2.1,if_neg hf1.2.2]) (Sq.jb e1 (Sq.nil _ _)) rfl ?_
   exact Jb.out (by simp only [expand];rw [if_pos k1]) (Sq.tm k1 (Sq.jb (cb.a0 hfol) (Sq.nil _ _))) rfl
theorem comp_call {f : T} {kids : List T} (hw : wf (.nd 0 19 0 0 [] (f :: kids))) (hf' : Cp N f) (hc : ∀ c ∈ kids,Cp N c /\ wf c /\ 6 <= rkT c /\ c.k ≠ 25) (h25 : f.k ≠ 25) : Cp N (.nd 0 19 0 0 [] (f :: kids)) := by
 intro u r o hu hr' ho
 have hu0 := hu
 have hlen := hw.1
 simp [arB] at hlen
 have hf : fl (.nd 0 19 0 0 [] (f :: kids)) = fl f ++ flk 19 0 1 kids := by rw [fl_eq];simp [bod,pre,flk,sep,post]
 have hf6 : 6 <= rkT f := hw.2.2.2.2.1
 rw [hf] at hu ho
 obtain ⟨ua,ub,rfl,hua,hub⟩ := map_app hu
 cases r with
 | nil => exact absurd rfl hr'
 | cons t0 r0 =>
   simp only [opc_app] at ho
   obtain ⟨ta,la,x,q,rfl,hfx,hkx⟩ := ne_of (wf_fine f hw.2.2.2.1) hua
   have fa := fstT hw.2.2.2.1 hua
   have ca := hf' (ta :: la) (ub ++ t0 :: r0) o hua (by simp) (by omega)
   have e : (ta :: la) ++ ub ++ t0 :: r0 = ta :: (la ++ (ub ++ t0 :: r0)) := by simp
   rw [e]
   refine cm5 (fstT hw hu0) (by exact Nat.le_refl _) (by exact Nat.le_refl _) (fun hfol => ?_)
   have hf6' := fa.f6 hf6
   have harg := args_all (N := N) (o := o) (r0 := r0) (hfol.2.1 (by omega)) (hfol.1 (by omega)) kids ub 4 [f] hc hub (by omega) (by simp;omega)
   have hT : argsT ([f] ++ kids) = .nd 0 19 0 0 [] (f :: kids) := by
    cases kids with
    | nil => simp at hlen
    | cons d ds => rfl
   rw [hT] at harg
   have hidx : Jb N (.index f) (ub ++ t0 :: r0) o (.ok (.tr f) (ub ++ t0 :: r0) o) := by
    cases kids with
    | nil => simp at hlen
    | cons d ds =>
      obtain ⟨_,hdw,hd6,hd25⟩ := hc d (by simp)
      rw [flk,show sep 19 0 1 = [] from rfl,List.nil_append] at hub
      obtain ⟨ud,ue,rfl,hud,_⟩ := map_app hub
      obtain ⟨td,ld,y,z,rfl,hfy,hky⟩ := ne_of (wf_fine d hdw) hud
      have hy := opd_first hdw hd6 hd25 hfy
      refine idx_out ?_
      intro e
      rw [<- hky,e] at hy
      revert hy;decide
   exact Jb.go (by simp only [expand];rw [if_neg hf6'.1,if_neg hf6'.2.1,if_neg hf6'.2.2.1,if_neg hf6'.2.2.2]) (Sq.jb (ca.a6 hf6 _ hidx) (Sq.nil _ _)) rfl harg
theorem comp_get {a b : T} (hw : wf (.nd 0 20 0 0 [] [a,b])) (ha : Cp N a) (hb : Cp N b) : Cp N (.nd 0 20 0 0 [] [a,b]) := by
 intro u r o hu hr' ho
 have hu0 := hu
 have hf : fl (.nd 0 20 0 0 [] [a,b]) = fl a ++ (Tk.of 18 :: (fl b ++ [cB])) := by rw [fl_eq];simp [bod,pre,flk,sep,post]
 have ha6 : 6 <= rkT a := hw.2.2.2.2.1
 rw [hf] at hu ho
 obtain ⟨ua,b1,rfl,hua,hb1⟩ := map_app hu
 obtain ⟨t1,b2,rfl,h1,hb2⟩ := map_cons hb1
 obtain ⟨ub,b3,rfl,hub,hb3⟩ := map_app hb2
 obtain ⟨t2,b4,rfl,h2,hb4⟩ := map_cons hb3
 have : b4 = [] := by simpa using hb4
 subst this
 cases r with
 | nil => exact absurd rfl hr'
 | cons t0 r0 =>
   simp only [opc,opc_app] at ho
   simp [isO,isX,Tk.of] at ho
   have k1 := kind_of h1
   have k2 := kind_of h2
   obtain ⟨ta,la,x,q,rfl,hfx,hkx⟩ := ne_of (wf_fine a hw.2.2.2.1) hua
   have ca := ha (ta :: la) (t1 :: (ub ++ t2 :: t0 :: r0)) o hua (by simp) (by omega)
   have cb := hb ub (t2 :: t0 :: r0) (o + 1) hub (by simp) (by omega)
   have e : (ta :: la) ++ t1 :: (ub ++ [t2]) ++ t0 :: r0 = (ta :: la) ++ (t1 :: (ub ++ t2 :: t0 :: r0)) := by simp
   rw [e]
   refine cm6 (t := ta) (fstT hw hu0) (by exact Nat.le_refl _) (fun h => absurd h (by show ¬ 7 <= 6;omega)) (fun res hres => ?_)
   refine ca.a6 ha6 res ?_
   have e1 := cb.a0 (by rw [hk,k2];exact fol_of _ _ rfl)
   exact Jb.go (by simp only [expand];rw [if_pos k1]) (Sq.op k1 (by omega) (Sq.jb e1 (Sq.cl k2 (Sq.nil _ _)))) rfl hres
theorem opd_run {c d : T} (hc : Cp N c) (h6 : 6 <= rkT c) {u : List Tok} {t0 : Tok} {r0 : List Tok} {o : Nat} (hu : u.map Tok.tk = fl c) (ho : o + opc (fl c) <= N) (h18 : t0.k ≠ 18) : Jb N .operand (u ++ t0 :: r0) o (.ok (.tr c) (t0 :: r0) o) :=
 (hc u (t0 :: r0) o hu (by simp) ho).a6 h6 _ (idx_out h18)
theorem not18 {c : T} (hw : wf c) (h6 : 6 <= rkT c) (h25 : c.k ≠ 25) {u : List Tok} (hu : u.map Tok.tk = fl c) : ∃ t l,u = t :: l /\ t.k ≠ 18 := by
 obtain ⟨t,l,x,q,rfl,hfx,hkx⟩ := ne_of (wf_fine c hw) hu
 refine ⟨t,l,rfl,?_⟩
 intro e
 have hy := opd_first hw h6 h25 hfx
 rw [<- hkx,e] at hy
 revert hy;decide
theorem comp_pre1 {k w : Nat} {a : T} (hk : (k = 21 /\ w = 14) \/ (k = 22 /\ w = 15)) (hw : wf (.nd 0 k 0 0 [] [a])) (ha : Cp N a) : Cp N (.nd 0 k 0 0 [] [a]) := by
 intro u r o hu hr' ho
 have hu0 := hu
 have hf : fl (.nd 0 k 0 0 [] [a]) = Tk.of w :: fl a := by rw [fl_eq];rcases hk with ⟨rfl,rfl⟩ | ⟨rfl,rfl⟩ <;> simp [bod,pre,flk,sep,post]
 have hr5 : rkT (.nd 0 k 0 0 [] [a]) = 5 := by rcases hk with ⟨rfl,rfl⟩ | ⟨rfl,rfl⟩ <;> rfl
 have ha6 : 6 <= rkT a := by
  have := hw.2.2.2.2.1
  rcases hk with ⟨rfl,rfl⟩ | ⟨rfl,rfl⟩ <;> exact this
 rw [hf] at hu ho
 obtain ⟨t1,ua,rfl,h1,hua⟩ := map_cons hu
 cases r with
 | nil => exact absurd rfl hr'
 | cons t0 r0 =>
   simp only [opc] at ho
   have k1 := kind_of h1
   rw [List.cons_append]
   refine cm5 (fstT hw hu0) (by omega) (by omega) (fun hfol => ?_)
   have e1 := opd_run (d := a) (r0 := r0) (o := o) ha ha6 hua (by omega) (hfol.1 (by omega))
   rcases hk with ⟨rfl,rfl⟩ | ⟨rfl,rfl⟩
   ·exact Jb.out (by simp only [expand];rw [if_pos k1]) (Sq.tm k1 (Sq.jb e1 (Sq.nil _ _))) rfl
   ·exact Jb.out (by simp only [expand];rw [if_neg (by omega),if_pos k1]) (Sq.tm k1 (Sq.jb e1 (Sq.nil _ _))) rfl
theorem comp_array {a b : T} (hw : wf (.nd 0 23 0 0 [] [a,b])) (ha : Cp N a) (hb : Cp N b) (hb25 : b.k ≠ 25) : Cp N (.nd 0 23 0 0 [] [a,b]) := by
 intro u r o hu hr' ho
 have hu0 := hu
 have hf : fl (.nd 0 23 0 0 [] [a,b]) = Tk.of 16 :: (fl a ++ fl b) := by rw [fl_eq];simp [bod,pre,flk,sep,post]
 have ha6 : 6 <= rkT a := hw.2.2.2.2.1
 have hb6 : 6 <= rkT b := hw.2.2.2.2.2.2.2.1
 have hbw := hw.2.2.2.2.2.2.1
 rw [hf] at hu ho
 obtain ⟨t1,b1,rfl,h1,hb1⟩ := map_cons hu
 obtain ⟨ua,ub,rfl,hua,hub⟩ := map_app hb1
 cases r with
 | nil => exact absurd rfl hr'
 | cons t0 r0 =>
   simp only [opc,opc_app] at ho
   have k1 := kind_of h1
   obtain ⟨tb,lb,rfl,hb18⟩ := not18 hbw hb6 hb25 hub
   have e : t1 :: (ua ++ tb :: lb) ++ t0 :: r0 = t1 :: (ua ++ tb :: (lb ++ t0 :: r0)) := by simp
   rw [e]
   refine cm5 (fstT hw hu0) (by exact Nat.le_refl _) (by exact Nat.le_refl _) (fun hfol => ?_)
   have e1 := opd_run (d := a) (r0 := lb ++ t0 :: r0) (o := o) ha ha6 hua (by omega) hb18
   have e2 := opd_run (d := a) (r0 := r0) (o := o) hb hb6 hub (by omega) (hfol.1 (by omega))
   exact Jb.out (by simp only [expand];rw [if_neg (by omega),if_neg (by omega),if_pos k1]) (Sq.tm k1 (Sq.jb e1 (Sq.jb e2 (Sq.nil _ _)))) rfl
theorem comp_put {a b c : T} (hw : wf (.nd 0 24 0 0 [] [a,b,c])) (ha : Cp N a) (hb : Cp N b) (hc : Cp N c) (hb25 : b.k ≠ 25) (hc25 : c.k ≠ 25) : Cp N (.nd 0 24 0 0 [] [a,b,c]) := by
 intro u r o hu hr' ho
 have hu0 := hu
 have hf : fl (.nd 0 24 0 0 [] [a,b,c]) = Tk.of 17 :: (fl a ++ (fl b ++ fl c)) := by rw [fl_eq];simp [bod,pre,flk,sep,post]
 have ha6 : 6 <= rkT a := hw.2.2.2.2.1
 have hb6 : 6 <= rkT b := hw.2.2.2.2.2.2.2.1
 have hbw := hw.2.2.2.2.2.2.1
 have hcw := hw.2.2.2.2.2.2.2.2.2.1
 have hc6 : 6 <= rkT c := hw.2.2.2.2.2.2.2.2.2.2.1
 rw [hf] at hu ho
 obtain ⟨t1,b1,rfl,h1,hb1⟩ := map_cons hu
 obtain ⟨ua,b2,rfl,hua,hb2⟩ := map_app hb1
 obtain ⟨ub,uc,rfl,hub,huc⟩ := map_app hb2
 cases r with
 | nil => exact absurd rfl hr'
 | cons t0 r0 =>
   simp only [opc,opc_app] at ho
   have k1 := kind_of h1
   obtain ⟨tb,lb,rfl,hb18⟩ := not18 hbw hb6 hb25 hub
   obtain ⟨tc,lc,rfl,hc18⟩ := not18 hcw hc6 hc25 huc
   have e : t1 :: (ua ++ ((tb :: lb) ++ tc :: lc)) ++ t0 :: r0 = t1 :: (ua ++ tb :: (lb ++ tc :: (lc ++ t0 :: r0))) := by simp
   rw [e]
   refine cm5 (fstT hw hu0) (by exact Nat.le_refl _) (by exact Nat.le_refl _) (fun hfol => ?_)
   have e1 := opd_run (d := a) (r0 := lb ++ tc :: (lc ++ t0 :: r0)) (o := o) ha ha6 hua (by omega) hb18
   have e2 := opd_run (d := a) (r0 := lc ++ t0 :: r0) (o := o) hb hb6 hub (by omega) hc18
   have e3 := opd_run (d := a) (r0 := r0) (o := o) hc hc6 huc (by omega) (hfol.1 (by omega))
   exact Jb.out (by simp only [expand];rw [if_neg (by omega),if_neg (by omega),if_neg (by omega),if_pos k1]) (Sq.tm k1 (Sq.jb e1 (Sq.jb e2 (Sq.jb e3 (Sq.nil _ _))))) rfl
end
end Sl
end Go.Proofs.YtmkdoejpgkgpbaaGreatDoor
namespace Go.Proofs.YtmkdoejpgkgpbaaGreatDoor
namespace Sl
theorem comp_all (N : Nat) : ∀ (m : Nat) (c : T),SizeOf.sizeOf c <= m -> wf c -> can c -> c.k ≠ 25 -> Cp N c := by
 intro m
 induction m with
 | zero => intro c h;cases c;simp at h
 | succ m ih =>
   intro c hs hw hc h25
   cases c with
   | nd b k s n xs kids =>
     have hw0 := hw
     rw [wf] at hw
     rw [can] at hc
     have hkids : ∀ d ∈ kids,SizeOf.sizeOf d <= m := by
      intro d hd
      have := List.sizeOf_lt_of_mem hd
      simp at hs
      omega
     have hsub : ∀ (l : List T) (i : Nat),wfs k i l -> cans l -> (∀ d ∈ l,SizeOf.sizeOf d <= m) -> ∀ d ∈ l,d.k ≠ 25 -> Cp N d := by
      intro l
      induction l with
      | nil => intro i _ _ _ d hd;simp at hd
      | cons e r ihl =>
        intro i h1 h2 h3 d hd h25'
        rcases List.mem_cons.1 hd with rfl | hd
        ·exact ih d (h3 d (by simp)) h1.1 h2.1 h25'
        ·exact ihl (i + 1) h1.2.2.2 h2.2 (fun x hx => h3 x (by simp [hx])) d hd h25'
     have hcp : ∀ d ∈ kids,d.k ≠ 25 -> Cp N d := hsub kids 0 hw.2.2.2 hc.2.2 hkids
     have hpat : k ≠ 10 -> ∀ (l : List T) (i : Nat),wfs k i l -> ∀ d ∈ l,d.k ≠ 25 := by
      intro hk10 l
      induction l with
      | nil => intro i _ d hd;simp at hd
      | cons e r ihl =>
        intro i h1 d hd
        rcases List.mem_cons.1 hd with rfl | hd
        ·intro e25;exact hk10 (h1.2.2.1.1 e25).1
        ·exact ihl (i + 1) h1.2.2.2 d hd
     have hwk : ∀ (l : List T) (i : Nat),wfs k i l -> (∀ j,wanted k j = 6) -> ∀ d ∈ l,wf d /\ 6 <= rkT d := by
      intro l
      induction l with
      | nil => intro i _ _ d hd;simp at hd
      | cons e r ihl =>
        intro i h1 h2 d hd
        rcases List.mem_cons.1 hd with rfl | hd
        ·exact ⟨h1.1,by have := h1.2.1;rw [h2] at this;exact this⟩
        ·exact ihl (i + 1) h1.2.2.2 h2 d hd
     cases b with
     | succ b =>
       by_cases h7 : k = 7 /\ b = 0
       ·obtain ⟨rfl,rfl⟩ := h7
        have hs0 : s = 0 := by rcases hc.1 with h | h | h | h <;> omega
        have hn0 : n = 0 := by rcases hc.2.1 with h | h <;> omega
        have hx0 : xs = [] := by have := hw.1;simp [arB] at this;exact this.2
        subst hs0 hn0 hx0
        exact comp_tuple hw0 (fun d hd => hcp d hd (hpat (by decide) kids 0 hw.2.2.2 d hd))
       ·have hw' : wf (.nd b k s n xs kids) := by
         rw [wf]
         exact ⟨hw.1,fun e => by omega,fun e => absurd e h25,hw.2.2.2⟩
        have := ih (.nd b k s n xs kids) (by simp at hs ⊢;omega) hw' ⟨hc.1,hc.2.1,hc.2.2⟩ h25
        exact comp_brk hw' h25 this
     | zero =>
       have ha := hw.1
       unfold arB at ha
       have hs0 : (k = 15 \/ k = 16 \/ k = 17) \/ s = 0 := by rcases hc.1 with h | h | h | h <;> simp [h]
       have hn0 := hc.2.1
       split at ha
       ·have e1 : kids = [] := by simp at ha;exact ha.1
        have e2 : xs = [] := by simp at ha;exact ha.2
        subst e1 e2
        have : s = 0 := by omega
        subst this
        exact comp_leaf hw0 rfl rfl rfl (fun t ht => by
         have hk : t.k = 1 := by rw [<- tk_k,ht];rfl
         have : t.n = n := by rw [tk_num hk] at ht;injection ht
         simp [leaf,hk,this])
       ·have e1 : kids = [] := by simp at ha;exact ha.1
        have e2 : xs = [] := by simp at ha;exact ha.2
        have : s = 0 := by omega
        have : n = 0 := by omega
        subst e1 e2;subst s n
        exact comp_leaf hw0 rfl rfl rfl (fun t ht => by
         have hk : t.k = 11 := kind_of ht
         simp [leaf,hk])
       ·have e1 : kids = [] := by simp at ha;exact ha.1
        have e2 : xs = [] := by simp at ha;exact ha.2
        have : s = 0 := by omega
        have : n = 0 := by omega
        subst e1 e2;subst s n
        exact comp_leaf hw0 rfl rfl rfl (fun t ht => by
         have hk : t.k = 12 := kind_of ht
         simp [leaf,hk])
       ·have e1 : kids = [] := by simp at ha;exact ha.1
        have e2 : xs = [] := by simp at ha;exact ha.2
        have : s = 0 := by omega
        have : n = 0 := by omega
        subst e1 e2;subst s n
        exact comp_leaf hw0 rfl rfl rfl (fun t ht => by
         have hk : t.k = 13 := kind_of ht
         simp [leaf,hk])
       ·have e1 : kids = [] := by simp at ha;exact ha.1
        have e2 : xs = [] := by simp at ha;exact ha.2
        have : s = 0 := by omega
        have : n = 0 := by omega
        subst e1 e2;subst s n
        exact comp_unit hw0
       ·have e1 : kids = [] := by simp at ha;exact ha.1
        have e2 : xs.length = 1 := by simp at ha;exact ha.2
        have : s = 0 := by omega
        have : n = 0 := by omega
        subst e1;subst s n
        match xs,e2 with
        | [x],_ =>
          exact comp_leaf hw0 rfl rfl rfl (fun t ht => by
           obtain ⟨hk,hx⟩ := name_of ht
           simp [leaf,hk,hx])
       ·have := hw.2.1 rfl;omega
       ·have : s = 0 := by omega
        have : n = 0 := by omega
        subst s n
        have e1 : kids.length = 2 := by simp at ha;exact ha.1
        have e2 : xs.length = 1 := by simp at ha;exact ha.2
        match kids,xs,e1,e2 with
        | [a,b],[x],_,_ => exact comp_let hw0 (hcp a (by simp) (hpat (by decide) _ 0 hw.2.2.2 a (by simp))) (hcp b (by simp) (hpat (by decide) _ 0 hw.2.2.2 b (by simp)))
       ·have : s = 0 := by omega
        have : n = 0 := by omega
        subst s n
        have e1 : kids.length = 2 := by simp at ha;exact ha.1.1
        have e2 : 2 <= xs.length := by simp at ha;exact ha.1.2
        match kids,xs,e1,e2 with
        | [a,b],f :: x :: xs,_,_ => exact comp_rec hw0 (hcp a (by simp) (hpat (by decide) _ 0 hw.2.2.2 a (by simp))) (hcp b (by simp) (hpat (by decide) _ 0 hw.2.2.2 b (by simp)))
       ·have : s = 0 := by omega
        have : n = 0 := by omega
        subst s n
        have e1 : kids.length = 3 := by simp at ha;exact ha.1
        have e2 : xs = [] := by simp at ha;exact ha.2
        subst e2
        match kids,e1 with
        | [p,a,b],_ =>
          have hp25 : p.k = 25 := hw.2.2.2.2.2.1.2 ⟨rfl,rfl⟩
          have ha25 : a.k ≠ 25 := fun e => by have := (hw.2.2.2.2.2.2.2.2.1.1 e).2;omega
          have hb25 : b.k ≠ 25 := fun e => by have := (hw.2.2.2.2.2.2.2.2.2.2.2.1.1 e).2;omega
          have hpw := hw.2.2.2.1
          have hpc := hc.2.2.1
          cases p with
          | nd pb pk ps pn pxs pkids =>
            have hpk : pk = 25 := hp25
            subst hpk
            rw [wf] at hpw
            rw [can] at hpc
            have hpa := hpw.1
            simp [arB] at hpa
            have e3 : pkids = [] := hpa.1.1
            have e4 : pb = 1 := hpw.2.2.1 rfl
            have e5 : ps = 0 := by rcases hpc.1 with h | h | h | h <;> omega
            have e6 : pn = 0 := by rcases hpc.2.1 with h | h <;> omega
            subst e3 e4 e5 e6
            match pxs,hpa.1.2 with
            | x :: y :: pxs,_ => exact comp_pair hw0 (hcp a (by simp) ha25) (hcp b (by simp) hb25)
       ·have : s = 0 := by omega
        have : n = 0 := by omega
        subst s n
        have e1 : kids.length = 3 := by simp at ha;exact ha.1
        have e2 : xs = [] := by simp at ha;exact ha.2
        subst e2
        match kids,e1 with
        | [a,b,c],_ => exact comp_if hw0 (hcp a (by simp) (hpat (by decide) _ 0 hw.2.2.2 a (by simp))) (hcp b (by simp) (hpat (by decide) _ 0 hw.2.2.2 b (by simp))) (hcp c (by simp) (hpat (by decide) _ 0 hw.2.2.2 c (by simp)))
       ·have : s = 0 := by omega
        have : n = 0 := by omega
        subst s n
        have e1 : kids.length = 1 := by simp at ha;exact ha.1.1
        have e2 : 1 <= xs.length := by simp at ha;exact ha.1.2
        match kids,xs,e1,e2 with
        | [a],x :: xs,_,_ => exact comp_fun hw0 (hcp a (by simp) (hpat (by decide) _ 0 hw.2.2.2 a (by simp)))
       ·have : s = 0 := by omega
        have : n = 0 := by omega
        subst s n
        have e1 : kids.length = 1 := by simp at ha;exact ha.1
        have e2 : xs = [] := by simp at ha;exact ha.2
        subst e2
        match kids,e1 with
        | [a],_ => exact comp_un (.inl ⟨rfl,rfl⟩) hw0 (hcp a (by simp) (hpat (by decide) _ 0 hw.2.2.2 a (by simp)))
       ·have : s = 0 := by omega
        have : n = 0 := by omega
        subst s n
        have e1 : kids.length = 1 := by simp at ha;exact ha.1
        have e2 : xs = [] := by simp at ha;exact ha.2
        subst e2
        match kids,e1 with
        | [a],_ => exact comp_un (.inr ⟨rfl,rfl⟩) hw0 (hcp a (by simp) (hpat (by decide) _ 0 hw.2.2.2 a (by simp)))
       ·have : s = 0 := by omega
        have : n = 0 := by omega
        subst s n
        have e1 : kids.length = 1 := by simp at ha;exact ha.1
        have e2 : xs = [] := by simp at ha;exact ha.2
        subst e2
        match kids,e1 with
        | [a],_ => exact comp_pre1 (.inl ⟨rfl,rfl⟩) hw0 (hcp a (by simp) (hpat (by decide) _ 0 hw.2.2.2 a (by simp)))
       ·have : s = 0 := by omega
        have : n = 0 := by omega
        subst s n
        have e1 : kids.length = 1 := by simp at ha;exact ha.1
        have e2 : xs = [] := by simp at ha;exact ha.2
        subst e2
        match kids,e1 with
        | [a],_ => exact comp_pre1 (.inr ⟨rfl,rfl⟩) hw0 (hcp a (by simp) (hpat (by decide) _ 0 hw.2.2.2 a (by simp)))
       ·have : n = 0 := by omega
        subst n
        simp only [Bool.and_eq_true,beq_iff_eq,List.isEmpty_iff] at ha
        obtain ⟨⟨e1,e2⟩,e3⟩ := ha
        subst e2
        match kids,e1 with
        | [a,b],_ => exact comp_prod e3 hw0 (hcp a (by simp) (hpat (by decide) _ 0 hw.2.2.2 a (by simp))) (hcp b (by simp) (hpat (by decide) _ 0 hw.2.2.2 b (by simp)))
       ·have : n = 0 := by omega
        subst n
        simp only [Bool.and_eq_true,beq_iff_eq,List.isEmpty_iff] at ha
        obtain ⟨⟨e1,e2⟩,e3⟩ := ha
        subst e2
        match kids,e1 with
        | [a,b],_ => exact comp_sum e3 hw0 (hcp a (by simp) (hpat (by decide) _ 0 hw.2.2.2 a (by simp))) (hcp b (by simp) (hpat (by decide) _ 0 hw.2.2.2 b (by simp)))
       ·have : n = 0 := by omega
        subst n
        simp only [Bool.and_eq_true,beq_iff_eq,List.isEmpty_iff] at ha
        obtain ⟨⟨e1,e2⟩,e3⟩ := ha
        subst e2
        match kids,e1 with
        | [a,b],_ => exact comp_cmp e3 hw0 (hcp a (by simp) (hpat (by decide) _ 0 hw.2.2.2 a (by simp))) (hcp b (by simp) (hpat (by decide) _ 0 hw.2.2.2 b (by simp)))
       ·have : s = 0 := by omega
        have : n = 0 := by omega
        subst s n
        have e1 : kids.length = 2 := by simp at ha;exact ha.1
        have e2 : xs = [] := by simp at ha;exact ha.2
        subst e2
        match kids,e1 with
        | [a,b],_ => exact comp_seq hw0 (hcp a (by simp) (hpat (by decide) _ 0 hw.2.2.2 a (by simp))) (hcp b (by simp) (hpat (by decide) _ 0 hw.2.2.2 b (by simp)))
       ·have : s = 0 := by omega
        have : n = 0 := by omega
        subst s n
        have e1 : kids.length = 2 := by simp at ha;exact ha.1
        have e2 : xs = [] := by simp at ha;exact ha.2
        subst e2
        match kids,e1 with
        | [a,b],_ => exact comp_get hw0 (hcp a (by simp) (hpat (by decide) _ 0 hw.2.2.2 a (by simp))) (hcp b (by simp) (hpat (by decide) _ 0 hw.2.2.2 b (by simp)))
       ·have : s = 0 := by omega
        have : n = 0 := by omega
        subst s n
        have e1 : kids.length = 2 := by simp at ha;exact ha.1
        have e2 : xs = [] := by simp at ha;exact ha.2
        subst e2
        match kids,e1 with
        | [a,b],_ => exact comp_array hw0 (hcp a (by simp) (hpat (by decide) _ 0 hw.2.2.2 a (by simp))) (hcp b (by simp) (hpat (by decide) _ 0 hw.2.2.2 b (by simp))) (hpat (by decide) _ 0 hw.2.2.2 b (by simp))
       ·have : s = 0 := by omega
        have : n = 0 := by omega
        subst s n
        have e2 : xs = [] := by simp at ha;exact ha.2
        subst e2
        match kids,ha with
        | f :: ks,_ =>
          refine comp_call hw0 (hcp f (by simp) (hpat (by decide) _ 0 hw.2.2.2 f (by simp))) (fun c hc' => ?_) (hpat (by decide) _ 0 hw.2.2.2 f (by simp))
          have h25c := hpat (by decide) _ 0 hw.2.2.2 c (by simp [hc'])
          have := hwk _ 0 hw.2.2.2 (fun _ => rfl) c (by simp [hc'])
          exact ⟨hcp c (by simp [hc']) h25c,this.1,this.2,h25c⟩
       ·have : s = 0 := by omega
        have : n = 0 := by omega
        subst s n
        have e1 : kids.length = 3 := by simp at ha;exact ha.1
        have e2 : xs = [] := by simp at ha;exact ha.2
        subst e2
        match kids,e1 with
        | [a,b,c],_ => exact comp_put hw0 (hcp a (by simp) (hpat (by decide) _ 0 hw.2.2.2 a (by simp))) (hcp b (by simp) (hpat (by decide) _ 0 hw.2.2.2 b (by simp))) (hcp c (by simp) (hpat (by decide) _ 0 hw.2.2.2 c (by simp))) (hpat (by decide) _ 0 hw.2.2.2 b (by simp)) (hpat (by decide) _ 0 hw.2.2.2 c (by simp))
       ·exact absurd rfl h25
       ·cases ha
end Sl
end Go.Proofs.YtmkdoejpgkgpbaaGreatDoor
namespace Go.Proofs.YtmkdoejpgkgpbaaGreatDoor
namespace Sl
def CanV : V -> Prop
 | .tr c => can c
 | _ => True
def CanJ : J -> Prop
 | .rest a | .cmpd a | .terms a | .facs a | .index a => can a
 | .args _ az | .items _ az => cans az
 | _ => True
theorem cans_app : ∀ a b : List T,cans (a ++ b) ↔ cans a /\ cans b
 | [],b => by simp [cans]
 | c :: r,b => by
   rw [List.cons_append,cans,cans,cans_app r b]
   exact ⟨fun h => ⟨⟨h.1,h.2.1⟩,h.2.2⟩,fun h => ⟨h.1.1,h.1.2,h.2⟩⟩
theorem can_brk {c : T} (h : can c) : can (brk c) := by cases c;exact h
theorem can_args {az : List T} (h : cans az) : can (argsT az) := by
 unfold argsT
 split
 ·exact h.1
 ·exact ⟨.inr (.inr (.inr rfl)),.inr rfl,h⟩
theorem can_items {az : List T} (h : cans az) : can (itemsT az) := by
 unfold itemsT
 split
 ·exact can_brk h.1
 ·exact ⟨.inr (.inr (.inr rfl)),.inr rfl,h⟩
theorem can_leaf (t : Tok) : can (leaf t) := by
 unfold leaf
 repeat' split
 all_goals simp [can,cans]
theorem can_nop : ∀ v,nop = .out v -> CanV v := by intro v h;injection h with h;subst h;trivial
def CanF : Fin' -> Prop
 | .out v => CanV v
 | .go j => CanJ j
theorem fin_can {j : J} {h : Nat} {ss : List St} {fin : List V -> Fin'} {vs : List V} (hj : CanJ j) (he : expand j h = some (ss,fin)) (hv : ∀ v ∈ vs,CanV v) : CanF (fin vs) := by
 unfold expand at he
 split at he <;> (try split at he) <;> (try split at he) <;> (try split at he) <;> (try split at he) <;> first
  | (simp at he;done)
  | (injection he with he;injection he with _ h2;subst h2;exact hj)
  | (injection he with he;injection he with _ h2;subst h2;exact can_args hj)
  | (injection he with he;injection he with _ h2;subst h2;exact can_items hj)
  | (injection he with he;injection he with _ h2;subst h2;trivial)
  | (injection he with he;injection he with _ h2;subst h2;simp [CanF,CanV,can,cans];done)
  | (injection he with he;injection he with _ h2;subst h2;simp only;split <;> first | (simp [CanF,nop,CanV];done) | (simp only [List.mem_cons,List.not_mem_nil,or_false,forall_eq_or_imp,forall_eq] at hv;simp only [CanF,CanJ,CanV,can,cans,cans_app] at hv hj ⊢ <;> (simp [hv,hj,can_leaf];done)))
mutual
theorem sq_can {N : Nat} {ss : List St} {l : List Tok} {o : Nat} {r : Res (List V)} (H : Sq N ss l o r) (hp : ∀ j,St.jb j ∈ ss -> CanJ j) (vs : List V) (l' : List Tok) (o' : Nat) (h : r = .ok vs l' o') : ∀ v ∈ vs,CanV v := by
 match H with
 | .nil l o => injection h with h1 _ _;subst h1;intro v hv;simp at hv
 | .tm (t := t) hk hs =>
   obtain ⟨vs1,rfl,hr⟩ := Res.cons_ok h
   have := sq_can hs (fun j hj => hp j (by simp [hj])) vs1 l' o' hr
   intro v hv
   rcases List.mem_cons.1 hv with rfl | hv
   ·trivial
   ·exact this v hv
 | .tmBad _ => cases h
 | .op (t := t) hk _ hs =>
   obtain ⟨vs1,rfl,hr⟩ := Res.cons_ok h
   have := sq_can hs (fun j hj => hp j (by simp [hj])) vs1 l' o' hr
   intro v hv
   rcases List.mem_cons.1 hv with rfl | hv
   ·trivial
   ·exact this v hv
 | .opBad _ => cases h
 | .opNest _ _ => cases h
 | .cl (t := t) hk hs =>
   obtain ⟨vs1,rfl,hr⟩ := Res.cons_ok h
   have := sq_can hs (fun j hj => hp j (by simp [hj])) vs1 l' o' hr
   intro v hv
   rcases List.mem_cons.1 hv with rfl | hv
   ·trivial
   ·exact this v hv
 | .clBad _ => cases h
 | .jb (v := v0) hj hs =>
   obtain ⟨vs1,rfl,hr⟩ := Res.cons_ok h
   have h1 := sq_can hs (fun j hj => hp j (by simp [hj])) vs1 l' o' hr
   have h2 := jb_can hj (hp _ (by simp)) v0 _ _ rfl
   intro v hv
   rcases List.mem_cons.1 hv with rfl | hv
   ·exact h2
   ·exact h1 v hv
 | .jbBad _ => cases h
theorem jb_can {N : Nat} {j : J} {l : List Tok} {o : Nat} {r : Res V} (H : Jb N j l o r) (hp : CanJ j) (v : V) (l' : List Tok) (o' : Nat) (h : r = .ok v l' o') : CanV v := by
 match H with
 | .none _ => cases h
 | .bad _ _ => cases h
 | .out (vs := vs) he hs hf =>
   injection h with h1 h2 h3
   have := fin_can hp he (sq_can hs (steps_can he) vs _ _ rfl)
   rw [hf] at this
   rw [<- h1];exact this
 | .go (vs := vs) he hs hf hj =>
   have := fin_can hp he (sq_can hs (steps_can he) vs _ _ rfl)
   rw [hf] at this
   exact jb_can hj this v l' o' h
theorem steps_can {j : J} {h : Nat} {ss : List St} {fin : List V -> Fin'} (he : expand j h = some (ss,fin)) : ∀ j',St.jb j' ∈ ss -> CanJ j' := by
 unfold expand at he
 split at he <;> (try split at he) <;> (try split at he) <;> (try split at he) <;> (try split at he) <;> first
  | (simp at he;done)
  | (injection he with he;injection he with h1 _;subst h1;intro j' hj';simp at hj';done)
  | (injection he with he;injection he with h1 _;subst h1;intro j' hj';simp at hj';rcases hj' with rfl | rfl | rfl <;> trivial)
  | (injection he with he;injection he with h1 _;subst h1;intro j' hj';simp at hj';rcases hj' with rfl | rfl <;> trivial)
  | (injection he with he;injection he with h1 _;subst h1;intro j' hj';simp at hj';subst hj';trivial)
end
def Ends (l : List Tok) : Prop := ∃ u t,l = u ++ [t] /\ t.k = 0
theorem Ends.ne {l : List Tok} (h : Ends l) : ∃ t r,l = t :: r := by
 obtain ⟨u,t,rfl,_⟩ := h
 cases u with
 | nil => exact ⟨t,[],rfl⟩
 | cons x u => exact ⟨x,u ++ [t],rfl⟩
theorem Ends.tail {t : Tok} {l : List Tok} (h : Ends (t :: l)) (hk : t.k ≠ 0) : Ends l := by
 obtain ⟨u,e,h1,h2⟩ := h
 cases u with
 | nil => simp at h1;rw [h1.1] at hk;exact absurd h2 hk
 | cons x u => simp at h1;exact ⟨u,e,h1.2,h2⟩
def lvl : J -> Nat
 | .bracket => 13 | .expr => 12 | .cmp => 11 | .sum => 10 | .prod => 9 | .sign => 8 | .call => 7 | .args _ _ => 6 | .operand => 5 | .atom => 4 | _ => 0
def strict : J -> Bool
 | .params _ _ | .names _ _ | .rest _ | .cmpd _ | .terms _ | .facs _ | .index _ | .args _ _ => false
 | _ => true
def nzS : List St -> Bool
 | [] => true
 | .tm k :: ss => k != 0 && nzS ss
 | .op k :: ss => k != 0 && nzS ss
 | _ :: ss => nzS ss
def fstS (j : J) : List St -> Bool
 | .jb j' :: _ => decide (lvl j' < lvl j) && strict j'
 | _ => true
theorem expand_ok {j : J} {h : Nat} {ss : List St} {fin : List V -> Fin'} (he : expand j h = some (ss,fin)) : nzS ss = true /\ fstS j ss = true /\ (strict j = true -> ss ≠ []) /\ (ss = [] -> ∀ vs j',fin vs ≠ .go j') := by
 unfold expand at he
 split at he <;> (try split at he) <;> (try split at he) <;> (try split at he) <;> (try split at he) <;> first
  | (simp at he;done)
  | (injection he with he;injection he with h1 h2;subst h1 h2;simp [nzS,fstS,strict,lvl];done)
  | (rename_i hh;injection he with he;injection he with h1 h2;subst h1 h2;simp only [isCmp,isSum,isPro,isLeaf,Bool.or_eq_true,beq_iff_eq] at hh;simp [nzS,fstS,strict,lvl];omega)
theorem tot_sq {N : Nat} {L : Nat} (H : ∀ j l o,Ends l -> l.length < L -> ∃ res,Jb N j l o res /\ ∀ v l' o',res = .ok v l' o' -> Ends l' /\ l'.length <= l.length) :
 ∀ (ss : List St) (l : List Tok) (o : Nat),nzS ss = true -> Ends l -> l.length < L -> ∃ res,Sq N ss l o res /\ ∀ vs l' o',res = .ok vs l' o' -> Ends l' /\ l'.length <= l.length := by
 intro ss
 induction ss with
 | nil =>
   intro l o _ he hl
   exact ⟨_,Sq.nil l o,fun vs l' o' h => by injection h with _ h2 _;subst h2;exact ⟨he,Nat.le_refl _⟩⟩
 | cons s ss ih =>
   intro l o hn he hl
   obtain ⟨t,r,rfl⟩ := he.ne
   cases s with
   | tm k =>
     simp only [nzS,Bool.and_eq_true,bne_iff_ne] at hn
     by_cases hk : t.k = k
     ·obtain ⟨res,hs,hp⟩ := ih r o hn.2 (he.tail (by rw [hk];exact hn.1)) (by simp at hl;omega)
      refine ⟨_,Sq.tm hk hs,fun vs l' o' h => ?_⟩
      obtain ⟨vs1,_,hr⟩ := Res.cons_ok h
      have := hp vs1 l' o' hr
      exact ⟨this.1,by simp;omega⟩
     ·exact ⟨_,Sq.tmBad hk,fun _ _ _ h => by cases h⟩
   | op k =>
     simp only [nzS,Bool.and_eq_true,bne_iff_ne] at hn
     by_cases hk : t.k = k
     ·by_cases hN : o < N
      ·obtain ⟨res,hs,hp⟩ := ih r (o + 1) hn.2 (he.tail (by rw [hk];exact hn.1)) (by simp at hl;omega)
       refine ⟨_,Sq.op hk hN hs,fun vs l' o' h => ?_⟩
       obtain ⟨vs1,_,hr⟩ := Res.cons_ok h
       have := hp vs1 l' o' hr
       exact ⟨this.1,by simp;omega⟩
      ·exact ⟨_,Sq.opNest hk (by omega),fun _ _ _ h => by cases h⟩
     ·exact ⟨_,Sq.opBad hk,fun _ _ _ h => by cases h⟩
   | cl =>
     simp only [nzS] at hn
     by_cases hk : t.k = 24
     ·obtain ⟨res,hs,hp⟩ := ih r (o - 1) hn (he.tail (by omega)) (by simp at hl;omega)
      refine ⟨_,Sq.cl hk hs,fun vs l' o' h => ?_⟩
      obtain ⟨vs1,_,hr⟩ := Res.cons_ok h
      have := hp vs1 l' o' hr
      exact ⟨this.1,by simp;omega⟩
     ·exact ⟨_,Sq.clBad hk,fun _ _ _ h => by cases h⟩
   | jb j =>
     simp only [nzS] at hn
     obtain ⟨res,hj,hp⟩ := H j (t :: r) o he hl
     cases res with
     | bad e p => exact ⟨_,Sq.jbBad hj,fun _ _ _ h => by cases h⟩
     | ok v l1 o1 =>
       have h1 := hp v l1 o1 rfl
       obtain ⟨res,hs,hp2⟩ := ih l1 o1 hn h1.1 (by omega)
       refine ⟨_,Sq.jb hj hs,fun vs l' o' h => ?_⟩
       obtain ⟨vs1,_,hr⟩ := Res.cons_ok h
       have := hp2 vs1 l' o' hr
       exact ⟨this.1,by omega⟩
theorem tot (N : Nat) : ∀ (M : Nat) (j : J) (l : List Tok) (o : Nat),Ends l -> 16 * l.length + lvl j < M ->
 ∃ res,Jb N j l o res /\ ∀ v l' o',res = .ok v l' o' -> Ends l' /\ l'.length <= l.length /\ (strict j = true -> l'.length < l.length) := by
 intro M
 induction M with
 | zero => intro j l o _ h;omega
 | succ M ih =>
   intro j l o he hM
   obtain ⟨t,r,rfl⟩ := he.ne
   have hlv : ∀ j,lvl j <= 13 := by intro j;cases j <;> simp [lvl]
   have H : ∀ j l o,Ends l -> l.length < r.length + 1 -> ∃ res,Jb N j l o res /\ ∀ v l' o',res = .ok v l' o' -> Ends l' /\ l'.length <= l.length := by
    intro j' l1 o1 he1 hl1
    obtain ⟨res,hj,hp⟩ := ih j' l1 o1 he1 (by have := hlv j';simp at hM;omega)
    exact ⟨res,hj,fun v l' o' h => ⟨(hp v l' o' h).1,(hp v l' o' h).2.1⟩⟩
   cases hx : expand j t.k with
   | none => exact ⟨_,Jb.none hx,fun _ _ _ h => by cases h⟩
   | some p =>
     obtain ⟨ss,fin⟩ := p
     obtain ⟨hn,hf,hst,hgo⟩ := expand_ok hx
     have hsq : ∃ res,Sq N ss (t :: r) o res /\ ∀ vs l' o',res = .ok vs l' o' -> Ends l' /\ l'.length <= (t :: r).length /\ (ss ≠ [] -> l'.length < (t :: r).length) := by
      cases ss with
      | nil => exact ⟨_,Sq.nil _ _,fun vs l' o' h => by injection h with _ h2 _;subst h2;exact ⟨he,Nat.le_refl _,fun h => absurd rfl h⟩⟩
      | cons s ss =>
        cases s with
        | tm k =>
          simp only [nzS,Bool.and_eq_true,bne_iff_ne] at hn
          by_cases hk : t.k = k
          ·obtain ⟨res,hs,hp⟩ := tot_sq H ss r o hn.2 (he.tail (by rw [hk];exact hn.1)) (by omega)
           refine ⟨_,Sq.tm hk hs,fun vs l' o' h => ?_⟩
           obtain ⟨vs1,_,hr⟩ := Res.cons_ok h
           have := hp vs1 l' o' hr
           exact ⟨this.1,by simp;omega,fun _ => by simp;omega⟩
          ·exact ⟨_,Sq.tmBad hk,fun _ _ _ h => by cases h⟩
        | op k =>
          simp only [nzS,Bool.and_eq_true,bne_iff_ne] at hn
          by_cases hk : t.k = k
          ·by_cases hN : o < N
           ·obtain ⟨res,hs,hp⟩ := tot_sq H ss r (o + 1) hn.2 (he.tail (by rw [hk];exact hn.1)) (by omega)
            refine ⟨_,Sq.op hk hN hs,fun vs l' o' h => ?_⟩
            obtain ⟨vs1,_,hr⟩ := Res.cons_ok h
            have := hp vs1 l' o' hr
            exact ⟨this.1,by simp;omega,fun _ => by simp;omega⟩
           ·exact ⟨_,Sq.opNest hk (by omega),fun _ _ _ h => by cases h⟩
          ·exact ⟨_,Sq.opBad hk,fun _ _ _ h => by cases h⟩
        | cl =>
          simp only [nzS] at hn
          by_cases hk : t.k = 24
          ·obtain ⟨res,hs,hp⟩ := tot_sq H ss r (o - 1) hn (he.tail (by omega)) (by omega)
           refine ⟨_,Sq.cl hk hs,fun vs l' o' h => ?_⟩
           obtain ⟨vs1,_,hr⟩ := Res.cons_ok h
           have := hp vs1 l' o' hr
           exact ⟨this.1,by simp;omega,fun _ => by simp;omega⟩
          ·exact ⟨_,Sq.clBad hk,fun _ _ _ h => by cases h⟩
        | jb j1 =>
          simp only [nzS] at hn
          simp only [fstS,Bool.and_eq_true,decide_eq_true_eq] at hf
          obtain ⟨res,hj,hp⟩ := ih j1 (t :: r) o he (by omega)
          cases res with
          | bad e p => exact ⟨_,Sq.jbBad hj,fun _ _ _ h => by cases h⟩
          | ok v l1 o1 =>
            have h1 := hp v l1 o1 rfl
            have h2 := h1.2.2 hf.2
            obtain ⟨res,hs,hp2⟩ := tot_sq H ss l1 o1 hn h1.1 (by simpa using h2)
            refine ⟨_,Sq.jb hj hs,fun vs l' o' h => ?_⟩
            obtain ⟨vs1,_,hr⟩ := Res.cons_ok h
            have := hp2 vs1 l' o' hr
            exact ⟨this.1,by omega,fun _ => by omega⟩
     obtain ⟨res,hs,hp⟩ := hsq
     cases res with
     | bad e p => exact ⟨_,Jb.bad hx hs,fun _ _ _ h => by cases h⟩
     | ok vs l1 o1 =>
       have h1 := hp vs l1 o1 rfl
       cases hfin : fin vs with
       | out v =>
         refine ⟨_,Jb.out hx hs hfin,fun v' l' o' h => ?_⟩
         injection h with _ h2 _;subst h2
         exact ⟨h1.1,h1.2.1,fun hst' => h1.2.2 (hst hst')⟩
       | go j' =>
         have hne : ss ≠ [] := fun e => hgo e vs j' hfin
         have hlt := h1.2.2 hne
         obtain ⟨res2,hj2,hp2⟩ := ih j' l1 o1 h1.1 (by have := hlv j';omega)
         refine ⟨_,Jb.go hx hs hfin hj2,fun v' l' o' h => ?_⟩
         have := hp2 v' l' o' h
         exact ⟨this.1,by omega,fun _ => by omega⟩
end Sl
end Go.Proofs.YtmkdoejpgkgpbaaGreatDoor
namespace Go.Proofs.YtmkdoejpgkgpbaaGreatDoor
namespace Sl
mutual
theorem sq_mr {N : Nat} {ss : List St} {l : List Tok} {o : Nat} {r : Res (List V)} (H : Sq N ss l o r) (hp : PreS ss) (hk : kindS' ss) :
 (∀ vs l' o',r = .ok vs l' o' -> ∀ n S z,MR N n S l' o' z -> ∃ n',MR N n' (symS ss ++ S) l o z) /\ (∀ e p,r = .bad e p -> ∀ S,∃ n',MR N n' (symS ss ++ S) l o (some (e,p))) := by
 match H with
 | .nil l o =>
   exact ⟨fun vs l' o' h n S z hm => (by injection h with _ h2 h3;subst h2 h3;exact ⟨n,hm⟩),fun e p h => by cases h⟩
 | .tm (t := t) (r := r1) h1 hs =>
   have ih := sq_mr hs hp hk.2.2.2
   refine ⟨fun vs l' o' h n S z hm => ?_,fun e p h S => ?_⟩
   ·obtain ⟨vs1,_,hr⟩ := Res.cons_ok h
    obtain ⟨n',hn⟩ := ih.1 vs1 l' o' hr n S z hm
    exact ⟨n' + 1,MR.tm h1 hk.1 hk.2.1 hk.2.2.1 hn⟩
   ·have hr : r1 = .bad e p := by cases r1 <;> simp [Res.cons] at h ⊢;exact h
    obtain ⟨n',hn⟩ := ih.2 e p hr S
    exact ⟨n' + 1,MR.tm h1 hk.1 hk.2.1 hk.2.2.1 hn⟩
 | .tmBad h1 => exact ⟨fun vs l' o' h => (by cases h),fun e p h S => by injection h with h2 h3;subst h2 h3;exact ⟨1,MR.tmBad h1⟩⟩
 | .op (t := t) (r := r1) h1 hN hs =>
   have ih := sq_mr hs hp hk.2
   refine ⟨fun vs l' o' h n S z hm => ?_,fun e p h S => ?_⟩
   ·obtain ⟨vs1,_,hr⟩ := Res.cons_ok h
    obtain ⟨n',hn⟩ := ih.1 vs1 l' o' hr n S z hm
    exact ⟨n' + 1,MR.op h1 hk.1 hN hn⟩
   ·have hr : r1 = .bad e p := by cases r1 <;> simp [Res.cons] at h ⊢;exact h
    obtain ⟨n',hn⟩ := ih.2 e p hr S
    exact ⟨n' + 1,MR.op h1 hk.1 hN hn⟩
 | .opBad h1 => exact ⟨fun vs l' o' h => (by cases h),fun e p h S => by injection h with h2 h3;subst h2 h3;exact ⟨1,MR.tmBad h1⟩⟩
 | .opNest h1 hN => exact ⟨fun vs l' o' h => (by cases h),fun e p h S => by injection h with h2 h3;subst h2 h3;exact ⟨1,MR.opNest h1 hk.1 hN⟩⟩
 | .cl (t := t) (r := r1) h1 hs =>
   have ih := sq_mr hs hp hk
   refine ⟨fun vs l' o' h n S z hm => ?_,fun e p h S => ?_⟩
   ·obtain ⟨vs1,_,hr⟩ := Res.cons_ok h
    obtain ⟨n',hn⟩ := ih.1 vs1 l' o' hr n S z hm
    exact ⟨n' + 1,MR.cl h1 hn⟩
   ·have hr : r1 = .bad e p := by cases r1 <;> simp [Res.cons] at h ⊢;exact h
    obtain ⟨n',hn⟩ := ih.2 e p hr S
    exact ⟨n' + 1,MR.cl h1 hn⟩
 | .clBad h1 => exact ⟨fun vs l' o' h => (by cases h),fun e p h S => by injection h with h2 h3;subst h2 h3;exact ⟨1,MR.tmBad h1⟩⟩
 | .jb (v := v) (r := r1) hj hs =>
   have ih := sq_mr hs hp.2 hk
   have ihj := jb_mr hj hp.1
   refine ⟨fun vs l' o' h n S z hm => ?_,fun e p h S => ?_⟩
   ·obtain ⟨vs1,_,hr⟩ := Res.cons_ok h
    obtain ⟨n',hn⟩ := ih.1 vs1 l' o' hr n S z hm
    obtain ⟨n2,hn2⟩ := ihj.1 v _ _ rfl n' _ z hn
    exact ⟨n2,by rw [symS,List.append_assoc];exact hn2⟩
   ·have hr : r1 = .bad e p := by cases r1 <;> simp [Res.cons] at h ⊢;exact h
    obtain ⟨n',hn⟩ := ih.2 e p hr S
    obtain ⟨n2,hn2⟩ := ihj.1 v _ _ rfl n' _ _ hn
    exact ⟨n2,by rw [symS,List.append_assoc];exact hn2⟩
 | .jbBad hj =>
   have ihj := jb_mr hj hp.1
   refine ⟨fun vs l' o' h => (by cases h),fun e p h S => ?_⟩
   injection h with h2 h3;subst h2 h3
   obtain ⟨n2,hn2⟩ := ihj.2 _ _ rfl (symS _ ++ S)
   exact ⟨n2,by rw [symS,List.append_assoc];exact hn2⟩
theorem jb_mr {N : Nat} {j : J} {l : List Tok} {o : Nat} {r : Res V} (H : Jb N j l o r) (hp : PreJ j) :
 (∀ v l' o',r = .ok v l' o' -> ∀ n S z,MR N n S l' o' z -> ∃ n',MR N n' (symJ j ++ S) l o z) /\ (∀ e p,r = .bad e p -> ∀ S,∃ n',MR N n' (symJ j ++ S) l o (some (e,p))) := by
 match H with
 | .none he =>
   refine ⟨fun v l' o' h => (by cases h),fun e p h S => ?_⟩
   injection h with h2 h3;subst h2 h3
   rw [symJ_eq]
   exact ⟨1,MR.ntBad (expand_none he)⟩
 | .bad he hs =>
   refine ⟨fun v l' o' h => (by cases h),fun e p h S => ?_⟩
   injection h with h2 h3;subst h2 h3
   obtain ⟨xs,q,hx,hq⟩ := rule_any he
   obtain ⟨n',hn⟩ := (sq_mr hs (preS_expand he) (expand_kinds he)).2 _ _ rfl (q ++ S)
   rw [symJ_eq]
   refine ⟨n' + 1,MR.nt hx ?_⟩
   rw [<- List.append_assoc,<- hq,List.append_assoc] at hn
   exact hn
 | .out (vs := vs) he hs hf =>
   refine ⟨fun v l' o' h n S z hm => ?_,fun e p h => by cases h⟩
   injection h with h1 h2 h3
   subst h2 h3
   obtain ⟨u,_,hsp⟩ := sq_sound hs (preS_expand he) vs _ _ rfl
   obtain ⟨xs,hx,hq⟩ := rule_out he hsp hf
   obtain ⟨n',hn⟩ := (sq_mr hs (preS_expand he) (expand_kinds he)).1 vs _ _ rfl n S z hm
   rw [symJ_eq]
   refine ⟨n' + 1,MR.nt hx ?_⟩
   rw [<- hq,List.append_assoc] at hn
   exact hn
 | .go (vs := vs) (l' := l1) (o' := o1) he hs hf hj =>
   obtain ⟨u,_,hsp⟩ := sq_sound hs (preS_expand he) vs _ _ rfl
   obtain ⟨hp',_⟩ := fin_go hp he hsp hf
   obtain ⟨xs,hx,hq⟩ := rule_go he hf
   have ihj := jb_mr hj hp'
   have ihs := (sq_mr hs (preS_expand he) (expand_kinds he)).1 vs _ _ rfl
   refine ⟨fun v l' o' h n S z hm => ?_,fun e p h S => ?_⟩
   ·obtain ⟨n2,hn2⟩ := ihj.1 v l' o' h n S z hm
    obtain ⟨n',hn⟩ := ihs n2 _ z hn2
    rw [symJ_eq]
    refine ⟨n' + 1,MR.nt hx ?_⟩
    rw [<- List.append_assoc,<- hq,List.append_assoc] at hn
    exact hn
   ·obtain ⟨n2,hn2⟩ := ihj.2 e p h S
    obtain ⟨n',hn⟩ := ihs n2 _ _ hn2
    rw [symJ_eq]
    refine ⟨n' + 1,MR.nt hx ?_⟩
    rw [<- List.append_assoc,<- hq,List.append_assoc] at hn
    exact hn
end
end Sl
end Go.Proofs.YtmkdoejpgkgpbaaGreatDoor
