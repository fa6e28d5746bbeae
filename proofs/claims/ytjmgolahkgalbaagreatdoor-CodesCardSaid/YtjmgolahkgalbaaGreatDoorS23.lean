import Derived.Test.YtjmgolahkgalbaaGreatDoorS22
set_option linter.unusedVariables false
set_option linter.unusedSimpArgs false
set_option maxHeartbeats 20000000
namespace Go.Proofs.YtjmgolahkgalbaaGreatDoor
namespace Ko
open Go.RowKit Li
variable {s : ByteArray} {w : World} {r : Nat}
def jS (p : List HB × List Nat) (fs : List V) : List HB × List Nat := fs.foldl jQ p
theorem jer (p : List HB × List Nat) (fs : List V) (u : V) : jS p (fs ++ [u]) = jQ (jS p fs) u := by unfold jS;rw [List.foldl_append];rfl
theorem jc8 (p : List HB × List Nat) : ∀ fs : List V,2 * un (jS p fs).1 + (jS p fs).2.length <= 2 * un p.1 + p.2.length := by
 intro fs
 induction fs generalizing p with
 | nil => exact jN
 | cons u l ih => exact Nat.le_trans (ih (jQ p u)) (jc7 p u)
theorem jhT (p : List HB × List Nat) : ∀ fs : List V,(jS p fs).1.length = p.1.length := by
 intro fs
 induction fs generalizing p with
 | nil => rfl
 | cons u l ih => exact (ih (jQ p u)).trans (jbA p u)
theorem jes (p : List HB × List Nat) : ∀ (fs : List V) {j : Nat} {c : HB},p.1[j]? = some c -> ∃ c' : HB,(jS p fs).1[j]? = some c' /\ c' = { c with rc := c'.rc } := by
 intro fs
 induction fs generalizing p with
 | nil => intro j c h;exact ⟨c,h,rfl⟩
 | cons u l ih =>
   intro j c h
   obtain ⟨c1,h1,h2,_⟩ := J6 p u h
   obtain ⟨c2,h3,h4⟩ := ih (jQ p u) h1
   exact ⟨c2,h3,by rw [h4,h2]⟩
def Rb (bs : List HB) (u : V) : Prop := ∀ i,u = .b i -> i < bs.length
variable {κ : Kp} {X : St}
set_option maxRecDepth 100000 in
theorem jhM (h : RM s w r κ X) {v : Value} {l : List Nat} (hv : TD w κ v l) (hll : 2 * un X.bs + l.length <= 1000000) {a : Nat} {b : HB} (ha : X.bs[a]? = some b) (hb : ∀ u ∈ b.fs,Rb X.bs u) (hbl : b.fs.length <= 100000) :
 Calls Tryz.prog 118 #[.pointer (some ⟨r,23,none⟩),v,.int .i64 a] w fun e w' => Rc s κ w r X (jS (X.bs,l) b.fs).1 (jS (X.bs,l) b.fs).2 e w' := by
 have H := jH h
 have HV := jH hv
 have HA := jH ha
 have HB := jH hb
 have HL := jH hll
 have hkn : κ w.heap.size = none := h.top _ jN
 clear h hv ha hb hll
 go_enter Tryz.func118,Tryz.ntmps118
 go_wp2
 go_loopg [1,8] b.fs.length (fun gh s1 s8 (wr : World) => ∃ (j : Nat) (κj : Kp),j <= b.fs.length /\ gh = b.fs.length - j /\ s8 = .int .i64 j /\ RM s wr r κj { X with bs := (jS (X.bs,l) (b.fs.take j)).1 } /\ TD wr κj s1 (jS (X.bs,l) (b.fs.take j)).2 /\ Fr (fun t => t = (3,0) \/ t = (9,0)) κ κj w wr /\ wr.heap[w.heap.size]? = some (.cells #[.bool true,.int .i64 a] 78 (0,0)) /\ κj w.heap.size = none)
 case atStart =>
  have hA := (Below.refl w.heap.size w).alloc jN (.cells #[.bool true,.int .i64 a] 78 (0,0))
  exact ⟨0,κ,Nat.zero_le _,rfl,rfl,H.out.on hA,HV.out.on hA,Fr.of hA,jg _ _,hkn⟩
 case round =>
  obtain ⟨j,κj,hj,hgj,rfl,hm,ht,hf,hbx,hkj⟩ := hrel
  obtain ⟨b',hb1,hb2⟩ := jes (X.bs,l) (b.fs.take j) HA.out
  have hfs : b'.fs = b.fs := by rw [hb2]
  have hlen : (jS (X.bs,l) (b.fs.take j)).1.length = X.bs.length := jhT _ _
  have hun := jc8 (X.bs,l) (b.fs.take j)
  have HUN : Hid ((jS (X.bs,l) (b.fs.take j)).2.length <= 1000000) := by have h1 := HL.out;show _ <= _;simp only at hun;omega
  have HM := jH hm
  have HT := jH ht
  have HF := jH hf
  have HB1 := jH hb1
  have HX := jH hbx
  have HLN := jH hlen
  have e0 : wr.cell? ⟨w.heap.size,0,none⟩ = some (.bool true) := ja hbx 0 rfl
  have e1 : wr.cell? ⟨w.heap.size,1,none⟩ = some (.int .i64 a) := ja hbx 1 rfl
  have CS : Hid (Calls Tryz.prog 106 #[.pointer (some ⟨r,23,none⟩),.agg #[.bool true,.int .i64 a]] wr fun e w' => e = .returned (.int .i64 b.fs.length) /\ Below wr.heap.size wr w') := by rw [<- hfs];exact jba hm hb1
  clear hm ht hf hb1 hbx hun hb2 hlen
  by_cases hlt : j < b.fs.length
  ·have g1 : decide ((j : Int) < (b.fs.length : Int)) = true := by simp;omega
   obtain ⟨u,hu⟩ : ∃ u,b.fs[j]? = some u := ⟨_,List.getElem?_eq_getElem hlt⟩
   have HU := jH hu
   have HTK : Hid (jS (X.bs,l) (b.fs.take (j + 1)) = jQ (jS (X.bs,l) (b.fs.take j)) u) := by show _ = _;rw [List.take_add_one,hu];exact jer _ _ _
   have HRB : Hid (∀ i,u = .b i -> i < (jS (X.bs,l) (b.fs.take j)).1.length) := fun i e => by rw [HLN.out];exact HB.out u (List.mem_of_getElem? hu) i e
   have CF : Hid (jC wr 107 #[.pointer (some ⟨r,23,none⟩),.agg #[.bool true,.int .i64 a],.int .i64 j] (.agg #[.bool (vb u),.int .i64 (vi u)])) := fun W hW => jfm (HM.out.on hW) HB1.out (by rw [hfs];exact hu)
   clear hu
   go_wp2_with (first
    | (go_at_call 106;refine CS.out.mono ?_;rintro _ w1 ⟨rfl,hb1⟩;have e10 : w1.cell? ⟨w.heap.size,0,none⟩ = some (.bool true) := ja (jc HX.out hb1 (jb HX.out)) 0 rfl;have e11 : w1.cell? ⟨w.heap.size,1,none⟩ = some (.int .i64 a) := ja (jc HX.out hb1 (jb HX.out)) 1 rfl)
    | (go_at_call 107;refine (CF.out _ hb1).mono ?_;rintro _ w2 ⟨rfl,hb2⟩)
    | (go_at_call 117;refine (jc6 (u := u) (HM.out.on ((hb1.trans (hb2.mono hb1.size)).alloc (Nat.le_trans hb1.size hb2.size) _)) (HT.out.on ((hb1.trans (hb2.mono hb1.size)).alloc (Nat.le_trans hb1.size hb2.size) _)) HUN.out HRB.out).mono ?_;rintro _ w4 ⟨κ4,v4,rfl,hm4,ht4,hf4⟩))
   go_roundg (b.fs.length - (j + 1))
   case measure => omega
   case rel =>
    have hA := (hb1.trans (hb2.mono hb1.size)).alloc (Nat.le_trans hb1.size hb2.size) (.cells #[.bool (vb u),.int .i64 (vi u)] 78 (0,0))
    refine ⟨j + 1,κ4,by omega,rfl,by simp,?_,?_,(HF.out.trans (Fr.of hA)).trans hf4,hf4.blk (jc HX.out hA (jb HX.out)) hkj,hf4.none (jc HX.out hA (jb HX.out)) hkj⟩
    ·rw [HTK.out];exact hm4
    ·rw [HTK.out];exact ht4
  ·have hjn : j = b.fs.length := by omega
   subst hjn
   have g1 : decide ((b.fs.length : Int) < (b.fs.length : Int)) = false := by simp
   go_wp2_with (first
    | (go_at_call 106;refine CS.out.mono ?_;rintro _ w1 ⟨rfl,hb1⟩))
   first | go_returns | go_ret
   rw [List.take_length] at HM HT
   exact ⟨κj,_,rfl,HM.out.on hb1,HT.out.on hb1,HF.out.trans (Fr.of hb1)⟩
def swB (bs : List HB) (i : Nat) : List HB := (bs.take i).map swp ++ bs.drop i
def gvF (bs : List HB) : Nat -> List Nat
 | 0 => []
 | i + 1 => gvF bs i ++ (match bs[i]? with
   | some b => if gv b then [i] else []
   | none => [])
def su (bs : List HB) : Nat := (bs.map hw).sum
theorem ja7 (bs : List HB) (i : Nat) : (swB bs i).length = bs.length := by
 unfold swB;rw [List.length_append,List.length_map,<- List.length_append,List.take_append_drop]
theorem jb6 {bs : List HB} {i : Nat} {b : HB} (h : bs[i]? = some b) : (swB bs i)[i]? = some b := by
 have hl : i < bs.length := (jG h).1
 unfold swB
 rw [List.getElem?_append_right (by rw [List.length_map,List.length_take];omega),List.length_map,List.length_take,Nat.min_eq_left (by omega),Nat.sub_self,List.getElem?_drop]
 exact h
theorem jcT {bs : List HB} {i : Nat} {b : HB} (h : bs[i]? = some b) : (swB bs i).set i (swp b) = swB bs (i + 1) := by
 have hl : i < bs.length := (jG h).1
 unfold swB
 have h1 : (List.map swp (bs.take i)).length = i := by rw [List.length_map,List.length_take];omega
 rw [List.set_append_right _ _ (by omega),h1,Nat.sub_self,List.take_add_one,h,List.map_append,List.append_assoc]
 congr 1
 have h2 : bs.drop i = b :: bs.drop (i + 1) := by
  rw [List.drop_eq_getElem_cons hl]
  congr 1
  rw [List.getElem?_eq_getElem hl] at h
  cases h;rfl
 rw [h2]
 rfl
theorem jdX (bs : List HB) : swB bs bs.length = bs.map swp := by unfold swB;rw [List.take_length,List.drop_length,List.append_nil]
theorem jbs {bs : List HB} {i : Nat} {b b' : HB} (h : bs[i]? = some b) : su (bs.set i b') + hw b = su bs + hw b' := by
 unfold su
 induction bs generalizing i with
 | nil => simp at h
 | cons a l ih =>
   cases i with
   | zero => simp at h;subst h;simp;omega
   | succ i =>
     simp only [List.getElem?_cons_succ] at h
     have := ih h
     simp only [List.set_cons_succ,List.map_cons,List.sum_cons]
     omega
theorem jdo (bs : List HB) : ∀ i,(gvF bs i).length <= i
 | 0 => jN
 | i + 1 => by
   have := jdo bs i
   simp only [gvF,List.length_append]
   split
   ·split <;> simp <;> omega
   ·simp;omega
theorem Tryz.kiBs : (Tryz.prog.info? 174).map (·.size) = some 5 := by kernel_rfl
theorem jdK {ops : Array Oper} {rest : List Oper} {op : Oper} {a : Act} {Q : Exit -> Act -> World -> Prop} {X : St} (hm : RM s w r κ X) {i g cap : Nat} {b : HB} (b' : HB) (hi : X.bs[i]? = some b) (hg : X.x.vbk = .slice (some ⟨g,0,none⟩) X.bs.length cap) (hT : TR w κ (4,i) 78 2 b'.v b'.fs.length (jv b'.fs))
 (hgd : op.guard = none) (x y : Operand) (ho : op.op = .store 174 x y) (hx : a.eval x = .pointer (some ⟨g,i * 5,none⟩)) (hy : a.eval y = .agg #[.bool b'.use,.int .i64 b'.fn,b'.v,.int .i64 b'.held,.bool b'.rc]) (h1 : b'.v.oneCell' = true)
 (h : ∀ w' X',X' = { X with bs := X.bs.set i b' } -> RM s w' r κ X' -> Fr (· = (3,0)) κ κ w w' -> wpList Tryz.prog ops Q rest (a.put op.dst undef) w') : wpList Tryz.prog ops Q (op :: rest) a w := by
 obtain ⟨g',cap',e,h2,h3,h4,h5,c0,c1,c2,c3,c4,fz⟩ := hm.bk hi
 rw [hg] at e
 cases e
 obtain ⟨p1,p2⟩ := hm.putB hi hg hT
 refine wpList_store_mid hgd _ x y ho g (i * 5) _ hx hy (fun j hj => ⟨?_,fz _⟩) Tryz.kiBs (by simp [h1];exact ⟨rfl,rfl,rfl,rfl⟩) (h _ _ rfl p1 p2)
 have : j = 0 \/ j = 1 \/ j = 2 \/ j = 3 \/ j = 4 := by simp at hj;omega
 rcases this with rfl | rfl | rfl | rfl | rfl
 ·rw [Nat.add_zero,c0];rfl
 ·rw [c1];rfl
 ·rw [c2];rfl
 ·rw [c3];rfl
 ·rw [c4];rfl
def SwS (X : St) (i : Nat) (vf : Value) : St := { X with x := { X.x with used := su (swB X.bs i),vfree := vf },bs := swB X.bs i,free := X.free ++ gvF X.bs i }
set_option maxRecDepth 100000 in
theorem jgg (h : RM s w r κ X) (hu : X.x.used = su X.bs) (hU : su X.bs <= 100000) (hn : X.bs.length <= 100000) (hfl : X.free.length <= 100000) :
 Calls Tryz.prog 119 #[.pointer (some ⟨r,23,none⟩)] w fun e w' => e = .returned (.tuple #[]) /\ Nw s κ w r (fun X' => ∃ vf,X' = SwS X X.bs.length vf) w' := by
 have H := jH h
 obtain ⟨i0,hi0,hz0,hz1,hz2⟩ := info_parts Tryz.kiI
 have HU := jH hu
 have HUU := jH hU
 clear h hu hU
 go_enter Tryz.func119,Tryz.ntmps119
 go_wp2
 go_loopg [2] X.bs.length (fun gh s2 (wr : World) => ∃ (i : Nat) (κi : Kp) (vf : Value),i <= X.bs.length /\ gh = X.bs.length - i /\ s2 = .int .i64 i /\ RM s wr r κi (SwS X i vf) /\ Fr0 κ κi w wr /\ su (swB X.bs i) <= 100000)
 case atStart =>
  refine ⟨0,κ,X.x.vfree,Nat.zero_le _,rfl,rfl,?_,Fr.refl _ _ _,HUU.out⟩
  have : SwS X 0 X.x.vfree = X := by
   unfold SwS
   have h1 : swB X.bs 0 = X.bs := by unfold swB;simp
   rw [h1,<- HU.out]
   simp [gvF]
  rw [this];exact H.out
 case round =>
  obtain ⟨i,κi,vf,hi,hgi,rfl,hm,hf,hsu⟩ := hrel
  have HM := jH hm
  have HF := jH hf
  have hlt := hm.lt
  obtain ⟨a6,p6,e6,hc6⟩ := hm.rows.bks.any
  have hlen : (SwS X i vf).bs.length = X.bs.length := ja7 _ _
  rw [hlen] at e6
  have c26 : wr.cell? ⟨r,26,none⟩ = some (.slice a6 X.bs.length p6) := by rw [<- e6];exact ja hm.run 26 rfl
  by_cases hl : i < X.bs.length
  ·obtain ⟨b,hb⟩ : ∃ b,X.bs[i]? = some b := ⟨_,List.getElem?_eq_getElem hl⟩
   have HB := jH hb
   have g1 : decide ((i : Int) < (X.bs.length : Int)) = true := by simp;omega
   have g2 : (i : Int) < (X.bs.length : Int) := by omega
   have hbi : (SwS X i vf).bs[i]? = some b := jb6 hb
   obtain ⟨g,cap,e,h2,h3,h4,h5,c0,c1,c2,c3,c4,fz⟩ := hm.bk hbi
   rw [hlen] at e h2
   rw [e6] at e
   cases e
   have hne : g ≠ r := by
    intro e;subst e
    have := hm.self;rw [h3] at this;cases this
   have hne' : r ≠ g := Ne.symm hne
   have z0 := fz (i * 5)
   have z1 := fz (i * 5 + 1)
   have z2 := fz (i * 5 + 2)
   have z3 := fz (i * 5 + 3)
   have z4 := fz (i * 5 + 4)
   cases hgv : gv b with
   | false =>
     have HP := jH (hm.setB (k := 4) (u := .bool false) (b' := { b with rc := false }) hbi (by rw [hlen];exact e6) (by omega) rfl rfl rfl)
     have HSB : Hid ((swB X.bs i).set i { b with rc := false } = swB X.bs (i + 1)) := by
      show _ = _
      have := jcT hb
      unfold swp at this
      rw [hgv] at this
      exact this
     have HGF : Hid (gvF X.bs (i + 1) = gvF X.bs i) := by show _ = _;simp only [gvF,hb,hgv];simp
     have HSU : Hid (su (swB X.bs (i + 1)) = su (swB X.bs i)) := by
      show _ = _
      have := jbs (b' := { b with rc := false }) (jb6 hb)
      rw [HSB.out] at this
      have e2 : hw { b with rc := false } = hw b := rfl
      rw [e2] at this;omega
     clear hm hf hbi e6 fz h3 c1 c2 c3 hb hlen
     have hend : ∀ w',(w' = wr.setCell ⟨g,i * 5 + 4,none⟩ (.bool false) \/ w' = (wr.setCell ⟨g,i * 5 + 4,none⟩ (.bool false)).drew) -> ∃ (i' : Nat) (κi : Kp) (vf : Value),i' <= X.bs.length /\ X.bs.length - (i + 1) = X.bs.length - i' /\ Value.int .i64 ((i : Int) + 1) = .int .i64 i' /\ RM s w' r κi (SwS X i' vf) /\ Fr0 κ κi w w' /\ su (swB X.bs i') <= 100000 := by
      intro w' hw'
      refine ⟨i + 1,κi,vf,by omega,rfl,by simp,?_,?_,by rw [HSU.out];exact hsu⟩
      ·have e3 : SwS X (i + 1) vf = { SwS X i vf with bs := (SwS X i vf).bs.set i { b with rc := false } } := by
        unfold SwS
        rw [HSU.out,HGF.out,<- HSB.out]
       rw [e3]
       rcases hw' with rfl | rfl
       ·exact HP.out.1
       ·exact HP.out.1.drew
      ·rcases hw' with rfl | rfl
       ·exact HF.out.trans HP.out.2.all
       ·exact HF.out.trans (HP.out.2.all.drew)
     have HE := jH hend
     clear hend
     cases hus : b.use with
     | false =>
       rw [hus] at c0
       go_wp2
       go_roundg (X.bs.length - (i + 1))
       case measure => omega
       case rel => exact HE.out _ (.inl rfl)
     | true =>
       have hrc : b.rc = true := by unfold gv at hgv;rw [hus] at hgv;simpa using hgv
       rw [hus] at c0
       rw [hrc] at c4
       go_wp2
       go_roundg (X.bs.length - (i + 1))
       case measure => omega
       case rel => exact HE.out _ (.inl rfl)
   | true =>
     have hus : b.use = true := by unfold gv at hgv;simp at hgv;exact hgv.1
     have hrc : b.rc = false := by unfold gv at hgv;simp at hgv;exact hgv.2
     have HSB : Hid ((swB X.bs i).set i hb0 = swB X.bs (i + 1)) := by
      show _ = _
      have := jcT hb
      unfold swp at this
      rw [hgv] at this
      exact this
     have HGF : Hid (gvF X.bs (i + 1) = gvF X.bs i ++ [i]) := by show _ = _;simp only [gvF,hb,hgv,if_true]
     have hsw := jbs (b' := hb0) (jb6 hb)
     rw [HSB.out,show hw hb0 = 0 from rfl,show hw b = b.fs.length + 1 by unfold hw;rw [hus];rfl] at hsw
     have HSW := jH hsw
     have hfl2 : (SwS X i vf).free.length <= 200000 := by
      show (X.free ++ gvF X.bs i).length <= _
      have := jdo X.bs i
      rw [List.length_append];omega
     obtain ⟨a2,p2,e2,hc2⟩ := (hm.rows.fds i b hbi).any
     rw [e2] at c2
     rw [hus] at c0
     rw [hrc] at c4
     obtain ⟨U,hUe⟩ : ∃ U,su (swB X.bs i) = U := ⟨_,rfl⟩
     obtain ⟨U',hUe'⟩ : ∃ U',su (swB X.bs (i + 1)) = U' := ⟨_,rfl⟩
     have HUE := jH hUe
     have HUE' := jH hUe'
     have c24 : wr.cell? ⟨r,24,none⟩ = some (.int .i64 U) := by rw [<- hUe];exact ja hm.run 24 rfl
     have z24 := je hm.run 24
     rw [hUe,hUe'] at hsw
     rw [hUe] at hsu
     have hN : (U : Int) - ((b.fs.length : Int) + 1) = (U' : Int) := by omega
     have hLb : b.fs.length <= 100000 := by omega
     have HP1 := jH (hm.upd (x' := { (SwS X i vf).x with used := U' }) (jf hm.run 24 (.int .i64 U')) ((Lone.refl r wr).set 24 _) rfl)
     have HL1 := jH (hm.low ((Lone.refl r wr).set 24 (.int .i64 U')))
     have HE6 := jH e6
     clear hm hf e6 fz h3 c1 c3 hb e2 hUe hUe' hsw hlen z0 z1 z2 z3
     go_wp2
     go_region
     rename_i Q' K hK
     refine hK _ _ ?_
     have HP2 := jH HP1.out.drew
     have HL2 := jH (Fr.drew HL1.out)
     generalize (wr.setCell ⟨r,24,none⟩ (.int .i64 (U' : Int))).drew = w1 at HP2 HL2 ⊢
     clear HP1 HL1 c0 c2 c4 z4 z24 c24 c26 h4 HM
     obtain ⟨X2,hX2⟩ : ∃ X2 : St,X2 = { (SwS X i vf) with x := { (SwS X i vf).x with used := U' } } := ⟨_,rfl⟩
     rw [<- hX2] at HP2
     have hbi2 : X2.bs[i]? = some b := by rw [hX2];exact hbi
     have hv2 : X2.x.vbk = .slice (some ⟨g,0,none⟩) X.bs.length p6 := by rw [hX2];exact HE6.out
     have hl2 : X2.bs.length = X.bs.length := by rw [hX2];exact ja7 _ _
     have hf2 : X2.x.vfree = vf := by rw [hX2];rfl
     have hfl3 : X2.free.length <= 200000 := by rw [hX2];exact hfl2
     have HX2 := jH hX2
     clear hX2 hfl2 hbi HE6
     have c26 : w1.cell? ⟨r,26,none⟩ = some (.slice (some ⟨g,0,none⟩) X.bs.length p6) := by rw [<- hv2];exact ja HP2.out.run 26 rfl
     have HV2 := jH hv2
     have HBI := jH hbi2
     have HL2B := jH hl2
     have HVF := jH hf2
     have HSUB := jH hsu
     clear hbi2 hv2 hl2 hf2 hgv hus hrc hN hLb hsu hc6 h5
     go_wp2_with (first
      | (show wpList _ _ _ (Oper.mk none (Op.store 174 (.tmp 54) (.tmp 53)) _ _ _ _ :: _) _ _;refine jdK (op := ⟨none,Op.store 174 (.tmp 54) (.tmp 53),_,_,_,_⟩) HP2.out hb0 HBI.out (by rw [HL2B.out];exact HV2.out) (TR.nil _ _ _ _ _) rfl (.tmp 54) (.tmp 53) rfl rfl rfl rfl ?_;intro w3 X3 hX3 hm3 hf3;have HM3 := jH hm3;have HF3 := jH hf3;have c27 : w3.cell? ⟨r,27,none⟩ = some X3.x.vfree := ja hm3.run 27 rfl;have hrl3 := hm3.lt;have hfl4 : X3.free.length <= 200000 := (by rw [hX3];exact hfl3);have HV3 : Hid (X3.x.vbk = .slice (some ⟨g,0,none⟩) X.bs.length p6) := (by show _ = _;rw [hX3];exact HV2.out);have HX3 := jH hX3;clear hm3 hf3 hX3)
      | (at_builtin;go_loud (refine JO _ rfl (.tmp 59) (.tmp 61) 22 rfl 0 3 i0 _ 1 8 Tryz.kuI hi0 hz0 hz1 hz2 rfl (by decide) _ _ _ rfl (HM3.out.rows.fre.own.alloc _) _ 1 1 [.int .i64 (i : Int)] rfl rfl (Ja _ _ _ _ (by simp)) ?_ ?_ ?_ ?_ ?_;(intro u hu;simp at hu;subst hu;rfl);(unfold maxLen;omega);(omega);(simp);intro v' w4 hown4 hg4 hrow4;obtain ⟨a4,p4,e4⟩ := j5 hown4;subst e4;have hr4 := HM3.out.run_grown (jB.alloc jN _) hg4 HM3.out.rows.fre.tag (by decide);obtain ⟨κ4,hm4,hf4⟩ := HM3.out.growFree (jB.alloc jN _) hown4 hg4 hrow4;obtain ⟨X4,hX4⟩ : ∃ X4 : St,X4 = { X3 with x := { X3.x with vfree := .slice a4 (X3.free.length + 1) p4 },free := X3.free ++ [i] } := ⟨_,rfl⟩;rw [<- hX4] at hm4;have hbi4 : X4.bs[i]? = some hb0 := (by rw [hX4,HX3.out];exact List.getElem?_set_self (by rw [HL2B.out];exact hl));obtain ⟨d1,d2,hk4,hg4',d3,d4,d5,d6,d7,q4,fz4⟩ := hm4.bkg hbi4 (by rw [hX4];exact HV3.out);have y4 := fz4 (i * 5 + 4);have HM4 := jH hm4;have HF4 := jH hf4;have HX4 := jH hX4;have HBI4 := jH hbi4;clear hm4 hf4 hX4 fz4 hk4 hbi4 d1 d2 d3 d4 d5 d6 d7;have q26 : w4.cell? ⟨r,26,none⟩ = some (.slice (some ⟨g,0,none⟩) X.bs.length p6) := (by rw [<- HV3.out];exact ja hr4 26 rfl);have q27 := ja hr4 27 rfl;have y27 := je hr4 27;clear hr4 hown4 hg4 hrow4)))
     go_roundg (X.bs.length - (i + 1))
     case measure => omega
     case rel =>
      have hvb : X4.x.vbk = .slice (some ⟨g,0,none⟩) X4.bs.length p6 := by
       rw [HX4.out,HX3.out,List.length_set,HL2B.out];exact HV2.out
      obtain ⟨m5,f5⟩ := HM4.out.setB (k := 4) (u := .bool false) (b' := hb0) HBI4.out hvb (by omega) rfl rfl rfl
      have e5 : ({ X4 with bs := X4.bs.set i hb0 } : St) = SwS X (i + 1) (.slice a4 (X3.free.length + 1) p4) := by
       rw [HX4.out,HX3.out,HX2.out]
       unfold SwS
       simp only [List.set_set]
       rw [HSB.out,HGF.out,HUE'.out]
       simp only [List.append_assoc]
      refine ⟨i + 1,κ4,_,by omega,rfl,by simp,e5 ▸ m5,?_,?_⟩
      ·exact (((Fr0.trans HF.out HL2.out).trans HF3.out.all).trans HF4.out.all).trans f5.all
      ·rw [HUE'.out];have := HSW.out;rw [HUE.out,HUE'.out] at this;have h9 := HSUB.out;omega
  ·have hin : i = X.bs.length := by omega
   subst hin
   have g1 : decide ((X.bs.length : Int) < (X.bs.length : Int)) = false := by simp
   clear hm hf e6 hlen
   go_wp2
   first | go_returns | go_ret
   exact ⟨rfl,κi,_,⟨vf,rfl⟩,HM.out,HF.out⟩
end Ko
end Go.Proofs.YtjmgolahkgalbaaGreatDoor
