import Derived.Test.YtjmgolahkgalbaaGreatDoorS35
import Derived.Test.YtjmgolahkgalbaaGreatDoorS41
set_option linter.unusedVariables false
set_option linter.unusedSimpArgs false
set_option maxHeartbeats 20000000
namespace Go.Proofs.YtjmgolahkgalbaaGreatDoor
namespace Ko
open Go.RowKit Li
variable {s : ByteArray} {w : World} {m : Nat}
def szD (ds : List DB) (i : Nat) : Nat := (bkD ds i).1.length + 1
def tot (ds : List DB) (seen : List Bool) : Nat := ((List.range ds.length).map fun i => if seen.getD i false then szD ds i else 0).sum
theorem jdD {ds : List DB} {i : Nat} {b : DB} (h : ds[i]? = some b) : (bkD ds i).1 = b.fs := by unfold bkD;rw [h]
theorem jdZ (p : Nat -> Bool) (f : Nat -> Nat) : ∀ l : List Nat,((l.filter p).map f).sum = (l.map fun i => if p i then f i else 0).sum
 | [] => rfl
 | a :: l => by
   have := jdZ p f l
   by_cases h : p a <;> simp [List.filter_cons,h,this]
theorem jdY {f g : Nat -> Nat} {k c : Nat} (hk : g k = f k + c) (ho : ∀ i,i ≠ k -> g i = f i) : ∀ l : List Nat,l.Nodup -> k ∈ l -> (l.map g).sum = (l.map f).sum + c
 | [],_,h => by cases h
 | a :: l,hn,h => by
   rw [List.nodup_cons] at hn
   simp only [List.map_cons,List.sum_cons]
   by_cases e : a = k
   ·subst e
    have : l.map g = l.map f := List.map_congr_left fun i hi => ho i (fun e => hn.1 (e ▸ hi))
    rw [this,hk];omega
   ·have hm : k ∈ l := by
     rcases List.mem_cons.1 h with h | h
     ·exact absurd h.symm e
     ·exact h
    rw [jdY hk ho l hn.2 hm,ho a e];omega
theorem jf8 {ds : List DB} {seen : List Bool} {i : Nat} (hl : seen.length = ds.length) (hs : seen[i]? = some false) : tot ds (seen.set i true) = tot ds seen + szD ds i := by
 have hi : i < ds.length := by rw [<- hl];exact (jG hs).1
 unfold tot
 refine jdY (k := i) ?_ ?_ _ List.nodup_range (List.mem_range.2 hi)
 ·simp [List.getD_eq_getElem?_getD,hs,List.getElem?_set_self (hl ▸ hi)]
 ·intro j hj
  simp only [List.getD_eq_getElem?_getD,List.getElem?_set_ne (Ne.symm hj)]
structure RI (ds : List DB) (fr : List Fm) (v : V) (seen : List Bool) (todo : List V) (n : Nat) : Prop where
 len : seen.length = ds.length
 val : ∀ i,.b i ∈ todo -> i < ds.length
 sub : ∀ i,seen[i]? = some true -> Rch (bkD ds) fr v i
 tod : ∀ i,.b i ∈ todo -> Rch (bkD ds) fr v i
 more : ∀ i,v = .b i -> seen[i]? = some true \/ .b i ∈ todo
 slot : ∀ (f : Fm) (i : Nat),f ∈ fr -> .b i ∈ f.sl -> seen[i]? = some true \/ .b i ∈ todo
 clo : ∀ i j,seen[i]? = some true -> .b j ∈ (bkD ds i).1 -> seen[j]? = some true \/ .b j ∈ todo
 sum : n = tot ds seen
theorem RI.start {ds : List DB} {fr : List Fm} {v : V} {todo : List V} (ht : ∀ u : V,u ∈ todo ↔ u = v \/ ∃ f ∈ fr,u ∈ f.sl) (hv : ∀ i,.b i ∈ todo -> i < ds.length) : RI ds fr v (List.replicate ds.length false) todo 0 := by
 have hf : ∀ i : Nat,(List.replicate ds.length false)[i]? = some true -> False := by
  intro i h
  rw [List.getElem?_replicate] at h
  split at h <;> cases h
 refine ⟨by simp,hv,fun i h => (hf i h).elim,fun i h => ?_,fun i h => .inr ((ht _).2 (.inl h.symm)),fun f i h1 h2 => .inr ((ht _).2 (.inr ⟨f,h1,h2⟩)),fun i j h => (hf i h).elim,?_⟩
 ·rcases (ht _).1 h with h | ⟨f,h1,h2⟩
  ·exact .more h.symm
  ·exact .slot h1 h2
 ·unfold tot
  have : ∀ l : List Nat,(l.map fun i => if (List.replicate ds.length false).getD i false then szD ds i else 0).sum = 0 := by
   intro l
   induction l with
   | nil => rfl
   | cons a l ih =>
     rw [List.map_cons,List.sum_cons,ih]
     simp only [List.getD_eq_getElem?_getD,List.getElem?_replicate]
     split <;> simp
  rw [this]
theorem RI.skip {ds : List DB} {fr : List Fm} {v : V} {seen : List Bool} {l : List V} {u : V} {n : Nat} (h : RI ds fr v seen (l ++ [u]) n) (hu : ∀ i,u = .b i -> seen[i]? = some true) : RI ds fr v seen l n := by
 have hm : ∀ i : Nat,seen[i]? = some true \/ .b i ∈ l ++ [u] -> seen[i]? = some true \/ .b i ∈ l := by
  intro i hi
  rcases hi with hi | hi
  ·exact .inl hi
  ·rcases List.mem_append.1 hi with hi | hi
   ·exact .inr hi
   ·exact .inl (hu i (List.mem_singleton.1 hi).symm)
 exact ⟨h.len,fun i hi => h.val i (List.mem_append_left _ hi),h.sub,fun i hi => h.tod i (List.mem_append_left _ hi),fun i hi => hm i (h.more i hi),fun f i h1 h2 => hm i (h.slot f i h1 h2),fun i j h1 h2 => hm j (h.clo i j h1 h2),h.sum⟩
theorem RI.take {ds : List DB} {fr : List Fm} {v : V} {seen : List Bool} {l : List V} {i n : Nat} {b : DB} (h : RI ds fr v seen (l ++ [.b i]) n) (hs : seen[i]? = some false) (hb : ds[i]? = some b) (hc : ∀ j,.b j ∈ b.fs -> j < ds.length) :
 RI ds fr v (seen.set i true) (l ++ b.fs) (n + 1 + b.fs.length) := by
 have hil : i < seen.length := (jG hs).1
 have hri : Rch (bkD ds) fr v i := h.tod i (by simp)
 have hst : ∀ j : Nat,(seen.set i true)[j]? = some true -> j = i \/ seen[j]? = some true := by
  intro j hj
  by_cases e : i = j
  ·exact .inl e.symm
  ·rw [List.getElem?_set_ne e] at hj;exact .inr hj
 have hmono : ∀ j : Nat,seen[j]? = some true -> (seen.set i true)[j]? = some true := by
  intro j hj
  by_cases e : i = j
  ·subst e;exact List.getElem?_set_self hil
  ·rw [List.getElem?_set_ne e];exact hj
 have hm : ∀ j : Nat,seen[j]? = some true \/ .b j ∈ l ++ [.b i] -> (seen.set i true)[j]? = some true \/ .b j ∈ l ++ b.fs := by
  intro j hj
  rcases hj with hj | hj
  ·exact .inl (hmono j hj)
  ·rcases List.mem_append.1 hj with hj | hj
   ·exact .inr (List.mem_append_left _ hj)
   ·have := List.mem_singleton.1 hj
    cases this
    exact .inl (List.getElem?_set_self hil)
 refine ⟨by simp [h.len],?_,?_,?_,fun j hj => hm j (h.more j hj),fun f j h1 h2 => hm j (h.slot f j h1 h2),?_,?_⟩
 ·intro j hj
  rcases List.mem_append.1 hj with hj | hj
  ·exact h.val j (List.mem_append_left _ hj)
  ·exact hc j hj
 ·intro j hj
  rcases hst j hj with rfl | hj
  ·exact hri
  ·exact h.sub j hj
 ·intro j hj
  rcases List.mem_append.1 hj with hj | hj
  ·exact h.tod j (List.mem_append_left _ hj)
  ·exact .kid hri (by rw [jdD hb];exact hj)
 ·intro j k hj hk
  rcases hst j hj with rfl | hj
  ·rw [jdD hb] at hk
   exact .inr (List.mem_append_right _ hk)
  ·exact hm k (h.clo j k hj hk)
 ·rw [jf8 h.len hs,<- h.sum]
  unfold szD
  rw [jdD hb]
  omega
theorem RI.done {ds : List DB} {fr : List Fm} {v : V} {seen : List Bool} {n : Nat} (h : RI ds fr v seen [] n) : jaP ds fr v n := by
 refine ⟨(List.range ds.length).filter (fun i => seen.getD i false),List.nodup_range.filter _,fun j => ⟨fun hj => ?_,fun hj => ?_⟩,?_⟩
 ·obtain ⟨h1,h2⟩ := List.mem_filter.1 hj
  refine h.sub j ?_
  rw [List.getD_eq_getElem?_getD] at h2
  cases hs : seen[j]? with
  | none => rw [hs] at h2;cases h2
  | some c => rw [hs] at h2;simp at h2;rw [h2]
 ·have hs : seen[j]? = some true := by
   induction hj with
   | more e => rcases h.more _ e with h | h;· exact h
               ·cases h
   | slot h1 h2 => rcases h.slot _ _ h1 h2 with h | h;· exact h
                   ·cases h
   | kid _ h2 ih => rcases h.clo _ _ ih h2 with h | h;· exact h
                    ·cases h
  refine List.mem_filter.2 ⟨List.mem_range.2 (by rw [<- h.len];exact (jG hs).1),?_⟩
  rw [List.getD_eq_getElem?_getD,hs];rfl
 ·rw [h.sum,jdZ]
  rfl
theorem jdQ (ds : List DB) (seen : List Bool) : tot ds seen <= ((List.range ds.length).map (szD ds)).sum := by
 unfold tot
 generalize List.range ds.length = l
 induction l with
 | nil => exact jN
 | cons a l ih =>
   simp only [List.map_cons,List.sum_cons]
   split <;> omega
def bV (l : List Bool) : List Value := l.map .bool
theorem jb2 (a b : List V) : jv (a ++ b) = jv a ++ jv b := by rw [ja6,ja6,ja6,List.flatMap_append]
structure RV (w : World) (sb : Nat) (seen : List Bool) (vt : Value) (todo : List V) (W : World) : Prop where
 low : Below w.heap.size w W
 sz : w.heap.size <= sb
 sn : W.heap[sb]? = some (.cells (bV seen).toArray 4 (0,0))
 own : W.ownsRow (sb + 1) 89 2 vt todo.length (jv todo)
theorem RV.slt {sb : Nat} {seen : List Bool} {vt : Value} {todo : List V} {W : World} (h : RV w sb seen vt todo W) : sb < W.heap.size := jb h.sn
theorem RV.al {sb : Nat} {seen : List Bool} {vt : Value} {todo : List V} {W : World} (h : RV w sb seen vt todo W) (o : Obj) : RV w sb seen vt todo (W.alloc o) :=
 ⟨h.low.alloc h.low.size _,h.sz,(Below.heap_alloc W o _ h.slt).trans h.sn,h.own.alloc o⟩
theorem RV.drew {sb : Nat} {seen : List Bool} {vt : Value} {todo : List V} {W : World} (h : RV w sb seen vt todo W) : RV w sb seen vt todo W.drew :=
 ⟨h.low.drew,h.sz,h.sn,h.own⟩
theorem RV.sc {sb : Nat} {seen : List Bool} {vt : Value} {todo : List V} {W : World} (h : RV w sb seen vt todo W) {i : Nat} {c : Bool} (hi : seen[i]? = some c) : W.cell? ⟨sb,i,none⟩ = some (.bool c) :=
 ja h.sn i (by simp [bV,hi])
theorem RV.grow {sb : Nat} {seen : List Bool} {vt vt' : Value} {todo todo' : List V} {W W' : World} (h : RV w sb seen vt todo W) (ho : W'.ownsRow (sb + 1) 89 2 vt' todo'.length (jv todo')) (hg : W.grownBy W' vt.ownBlock) : RV w sb seen vt' todo' W' := by
 have hne : ∀ k,k <= sb -> some k ≠ vt.ownBlock := fun k hk e => by have := (h.own.lt k e.symm).1;omega
 have hs := h.slt
 have hz := h.sz
 have hl := h.low.size
 refine ⟨⟨hg.os.trans h.low.os,hg.tape.trans h.low.tape,hg.output.trans h.low.output,Nat.le_trans hl hg.size,fun k hk => ?_⟩,hz,?_,ho⟩
 ·exact (hg.block k (by omega) (hne k (by omega))).trans (h.low.block k hk)
 ·exact (hg.block sb hs (hne sb jN)).trans h.sn
theorem RV.mark {sb : Nat} {seen : List Bool} {vt : Value} {todo : List V} {W : World} (h : RV w sb seen vt todo W) (i : Nat) : RV w sb (seen.set i true) vt todo (W.setCell ⟨sb,i,none⟩ (.bool true)) := by
 have hne : ∀ k,vt.ownBlock = some k -> k ≠ sb := fun k e e2 => by have := (h.own.lt k e).1;omega
 refine ⟨?_,h.sz,?_,j3 h.own fun b hb => Below.heap_setCell _ _ _ _ (hne b hb)⟩
 ·refine ⟨h.low.os,h.low.tape,h.low.output,by rw [jy];exact h.low.size,fun k hk => ?_⟩
  exact (Below.heap_setCell _ _ _ _ (by have := h.sz;show k ≠ sb;omega)).trans (h.low.block k hk)
 ·have := jf h.sn i (.bool true)
  rw [this]
  simp [bV,List.map_set]
theorem RV.pop {sb g n cap : Nat} {seen : List Bool} {l : List V} {u : V} {W : World} (h : RV w sb seen (.slice (some ⟨g,0,none⟩) (l.length + 1) cap) (l ++ [u]) W) : RV w sb seen (.slice (some ⟨g,0,none⟩) l.length cap) l W := by
 have ho := h.own
 rw [List.length_append,List.length_singleton] at ho
 refine ⟨h.low,h.sz,h.sn,ownsRow_pop (last := jv [u]) ?_ ?_⟩
 ·exact jb1 l
 ·rw [<- jb2];exact ho
section
variable {P : Program} (w : World)
theorem jgP (t ty e : TypeId) (i : TypeInfo) (ht : P.underlying t = some (.slice e)) (hi : P.info? e = some i) (a a' : Option Addr) (n cap c' : Nat) (hnc : n <= cap) (hn : n <= 9223372036854775807) : (Builtin.append_ #[t,t] ty #[.slice a n cap,.slice a' 0 c']).run P w = .ok (.slice a n cap) w := by
 cases a <;> cases a' <;> simp [Builtin.append_,run_underlying ht,sizeOf,typeInfo,hi,Builtin.lenOf,Builtin.firstCells,loadCells,loadCellsFrom,storeCells,hnc,hn]
theorem jdL {ops : Array Oper} {rest : List Oper} {o : Oper} {a : Act} {Q : Exit -> Act -> World -> Prop} (hgd : o.guard = none) (s x : Operand) (t : TypeId)
 (ho : o.op = .call { callee := .builtin .append,args := #[s,x],argTypes := #[t,t] }) (e : TypeId) (i : TypeInfo) (ht : P.underlying t = some (.slice e)) (hi : P.info? e = some i) (ad ad' : Option Addr) (n cap c' : Nat)
 (hs : a.eval s = .slice ad n cap) (hx : a.eval x = .slice ad' 0 c') (hnc : n <= cap) (hn : n <= 9223372036854775807)
 (h : wpList P ops Q rest (a.put o.dst (.slice ad n cap)) w) : wpList P ops Q (o :: rest) a w := by
 refine wpList_plain hgd fun K hK => ?_
 have hr := jgP (P := P) w t o.type e i ht hi ad ad' n cap c' hnc hn
 unfold Oper.wp execOp
 simp only [ho,resolve,invoke,builtin,Sem.run_bind,Sem.run_pure,Result.andThen_ok,List.map_toArray,List.map_cons,List.map_nil,hs,hx,hr]
 exact hK _ _ h
end
theorem jiI (n : Nat) (hn : n <= 1000000000000) (w : World) : (Instr.makeSlice 140 (.int .i64 (n : Int)) (.int .i64 (n : Int))).run Tryz.prog w = .ok (.slice (some ⟨w.heap.size,0,none⟩) n n) (w.alloc (.cells (bV (List.replicate n false)).toArray 4)) := by
 obtain ⟨i,hi,hz,hs,hb⟩ := info_parts Tryz.infB
 have hr := run_make (P := Tryz.prog) w 140 4 i _ Tryz.undB hi hz .i64 .i64 n n (by omega) (Int.le_refl _) (by rw [hb];omega) (by omega)
 rw [hs] at hr
 simp only [Int.toNat_natCast,Nat.mul_one] at hr
 have e : madeCells (Value.bool false).cells n = (bV (List.replicate n false)).toArray := by
  apply Array.toList_inj.1
  rw [show (Value.bool false).cells = #[.bool false] from rfl,toList_madeCells_one]
  simp [bV]
 rw [e] at hr
 exact hr
theorem RV.start (w : World) (o : Obj) (N : Nat) (v : V) : RV w (w.heap.size + 1) (List.replicate N false) (.slice (some ⟨w.heap.size + 1 + 1,0,none⟩) 1 1) [v] (((w.alloc o).alloc (.cells (bV (List.replicate N false)).toArray 4 (0,0))).alloc (.cells #[.bool (vb v),.int .i64 (vi v)] 89 (0,0))) := by
 have h1 := jg (w.alloc o) (.cells (bV (List.replicate N false)).toArray 4 (0,0))
 have h2 := World.ownsRow_lit (base := w.heap.size + 1 + 1) (e := 89) (size := 2) ((w.alloc o).alloc (.cells (bV (List.replicate N false)).toArray 4 (0,0))) #[.bool (vb v),.int .i64 (vi v)] 1 (by simp) (by unfold maxLen;omega) rfl
 simp only [World.size_alloc] at h1 h2
 refine ⟨(JM _ _ _).alloc (JM _ _ _).size _,by omega,(Below.heap_alloc _ _ _ (by simp)).trans h1,?_⟩
 exact h2
theorem add0 (g j : Nat) : (⟨g,0,none⟩ : Addr).add j = ⟨g,j,none⟩ := by unfold Addr.add;split <;> simp_all
theorem jbC {base size n : Nat} {e : TypeId} {v : Value} {xs : List Value} (h : w.ownsRow base e size v n xs) : ∃ a c,v = .slice a n c /\ n <= c := by
 rcases h.2 with ⟨h1,h2⟩ | ⟨g,cap,cur,h1,h2,h3,h4,_⟩
 ·exact ⟨none,0,by rw [h1,h2],by omega⟩
 ·exact ⟨_,cap,h1,h4⟩
theorem jdO (l : List V) : ∀ u ∈ jv l,u.oneCell' = true := by
 intro u hu
 rw [ja6] at hu
 obtain ⟨x,_,hx⟩ := List.mem_flatMap.1 hu
 simp only [vC,List.mem_cons,List.not_mem_nil,or_false] at hx
 rcases hx with rfl | rfl <;> rfl
def dsD (Y : Dt) : List DB := Y.ds.map fun b => ⟨b.fs,b.fn⟩
def frD (Y : Dt) : List Fm := Y.fs.reverse.map fun f => ⟨f.back,f.sl⟩
def slD (Y : Dt) : List V := Y.fs.flatMap fun f => f.sl
def ttD (Y : Dt) : Nat := ((List.range (dsD Y).length).map (szD (dsD Y))).sum
structure VaD (Y : Dt) (v : V) : Prop where
 v : ∀ i,v = .b i -> i < Y.ds.length
 sl : ∀ i,.b i ∈ slD Y -> i < Y.ds.length
 fs : ∀ b ∈ Y.ds,∀ i,.b i ∈ b.fs -> i < Y.ds.length
def RcP (Y : Dt) (v : V) (w : World) (e : Ending) (w' : World) : Prop := ∃ n : Nat,e = .returned (.int .i64 n) /\ Below w.heap.size w w' /\ jaP (dsD Y) (frD Y) v n /\ n <= ttD Y
variable {κ : Kp} {Y : Dt}
set_option maxRecDepth 100000 in
theorem jhI (h : DM s w m κ Y) {v : V} (hva : VaD Y v) (hB : ttD Y + (slD Y).length <= 1000000000000) (hN : Y.ds.length <= 1000000000000) (hF : Y.fs.length <= 1000000) :
 Calls Tryz.prog 61 #[.pointer (some ⟨m,0,none⟩),.agg #[.bool (vb v),.int .i64 (vi v)]] w (RcP Y v w) := by
 have H := jH h
 have HVA := jH hva
 have hml := h.lt
 obtain ⟨a4,p4,e4,_⟩ := h.rows.bks.any
 obtain ⟨a5,p5,e5,_⟩ := h.rows.frs.any
 have c4 : w.cell? ⟨m,4,none⟩ = some (.slice a4 Y.ds.length p4) := by rw [<- e4];exact ja h.mac 4 rfl
 have c5 : w.cell? ⟨m,5,none⟩ = some (.slice a5 Y.fs.length p5) := by rw [<- e5];exact ja h.mac 5 rfl
 have hmk := jiI Y.ds.length hN
 have E5 := jH e5
 have E4 := jH e4
 clear h hva e4 e5
 go_enter Tryz.func61,Tryz.ntmps61
 go_wp2
 have HS := jH (RV.start w (.cells #[.bool (vb v),.int .i64 (vi v)] 89 (0,0)) Y.ds.length v)
 obtain ⟨i0,hi0,hz0,hz1,hz2⟩ := info_parts Tryz.kiW
 go_loopg [6,7] Y.fs.length (fun gh s6 s7 (wr : World) => ∃ i : Nat,i <= Y.fs.length /\ gh = Y.fs.length - i /\ s7 = .int .i64 i /\ RV w (w.heap.size + 1) (List.replicate Y.ds.length false) s6 (v :: (Y.fs.take i).flatMap fun f => f.sl) wr)
 case atStart => exact ⟨0,Nat.zero_le _,rfl,rfl,HS.out⟩
 case round =>
  obtain ⟨i,hi,hgi,rfl,hrv⟩ := hrel
  obtain ⟨wi,rfl⟩ : ∃ wi,wi = wr := ⟨_,rfl⟩
  have HRV := jH hrv
  have hsz := hrv.low.size
  have k5 : wi.cell? ⟨m,5,none⟩ = some (.slice a5 Y.fs.length p5) := by have e : wi.cell? ⟨m,5,none⟩ = some Y.x.vfr := ja (H.out.on hrv.low).mac 5 rfl;rw [e,E5.out]
  by_cases hlt : i < Y.fs.length
  ·have g1 : decide ((i : Int) < (Y.fs.length : Int)) = true := by simp;omega
   have g2 : (i : Int) < (Y.fs.length : Int) := by omega
   obtain ⟨f,hf⟩ : ∃ f,Y.fs[i]? = some f := ⟨_,List.getElem?_eq_getElem hlt⟩
   have hD := (H.out.on hrv.low).rows
   have hT := hD.frs
   obtain ⟨g5,p5',e6,h61,_,h63⟩ := hT.at (by omega)
   rw [e6] at hT
   have e7 := E5.out.symm.trans e6
   cases e7
   have k6 : wi.cell? ⟨g5,i,none⟩ = some (.pointer (some ⟨f.b,0,none⟩)) := hT.cell (j := i) (by simp [hf,pt])
   have hfb := (hD.fst i f hf).blk
   have k7 : wi.cell? ⟨f.b,0,none⟩ = some f.v := ja hfb 0 rfl
   have hSl := hD.sls i f hf
   have HN : Hid (v :: (Y.fs.take (i + 1)).flatMap (fun f => f.sl) = (v :: (Y.fs.take i).flatMap fun f => f.sl) ++ f.sl) := by
    show _ = _
    rw [List.take_add_one,hf]
    simp
   have hln : (v :: (Y.fs.take i).flatMap fun f => f.sl).length + f.sl.length <= 1000000000001 := by
    rw [<- List.length_append,<- HN.out,List.length_cons]
    have : ((Y.fs.take (i + 1)).flatMap fun f => f.sl).length <= (slD Y).length := by
     unfold slD
     conv => rhs;rw [<- List.take_append_drop (i + 1) Y.fs,List.flatMap_append,List.length_append]
     omega
    omega
   generalize (v :: (Y.fs.take i).flatMap fun f => f.sl) = td at HRV HN hln
   clear hrv hD hT e6 hfb hf
   rcases hSl.form with ⟨ev,en⟩ | ⟨g8,c8,ev,h81,h82,h83⟩
   ·rw [ev] at k7
    obtain ⟨a6,p6,e6,h6⟩ := jbC HRV.out.own
    have HE6 := jH e6
    have hne : f.sl = [] := List.eq_nil_of_length_eq_zero en
    rw [hne,List.append_nil] at HN
    subst e6
    clear hSl ev en hne
    go_wp2_with (first
     | (at_builtin;go_loud (refine jdL _ rfl (.tmp 28) (.tmp 38) 53 rfl 89 i0 Tryz.kuW hi0 a6 none _ p6 0 rfl rfl ?_ ?_ ?_;(exact h6);(omega))))
    go_roundg (Y.fs.length - (i + 1))
    case measure => omega
    case rel =>
     refine ⟨i + 1,by omega,rfl,by simp,?_⟩
     rw [HN.out]
     exact HRV.out
   ·rw [ev] at k7
    have HC : Hid (∀ j u,(jv f.sl)[j]? = some u -> wi.cell? ⟨g8,j,none⟩ = some u) := by
     rw [ev] at hSl
     exact fun j u hj => hSl.cell hj
    clear hSl ev
    go_wp2_with (first
     | (at_builtin;go_loud (refine JO _ rfl (.tmp 28) (.tmp 38) 53 rfl (w.heap.size + 1 + 1) 89 i0 _ 2 16 Tryz.kuW hi0 hz0 hz1 hz2 rfl (by decide) _ _ _ rfl HRV.out.own ⟨g8,0,none⟩ f.sl.length c8 (jv f.sl) rfl (jb1 _) ?_ ?_ ?_ ?_ ?_ ?_;(intro j u hj;rw [add0];exact HC.out j u hj);(exact jdO _);(unfold maxLen;omega);omega;(have := HRV.out.slt;omega);intro v' w4 hown4 hg4 hrow4)))
    go_roundg (Y.fs.length - (i + 1))
    case measure => omega
    case rel =>
     refine ⟨i + 1,by omega,rfl,by simp,?_⟩
     rw [HN.out]
     exact HRV.out.grow (by rw [List.length_append,jb2];exact hown4) hg4
  ·have hin : i = Y.fs.length := by omega
   subst hin
   have g1 : decide ((Y.fs.length : Int) < (Y.fs.length : Int)) = false := by simp
   rw [List.take_length] at HRV
   have HR0 : Hid (RI (dsD Y) (frD Y) v (List.replicate Y.ds.length false) (v :: slD Y) 0) := by
    have e := RI.start (ds := dsD Y) (fr := frD Y) (v := v) (todo := v :: slD Y) ?_ ?_
    ·exact jH (by simpa [dsD] using e)
    ·intro u
     simp only [List.mem_cons,slD,List.mem_flatMap,frD,List.mem_map,List.mem_reverse]
     constructor
     ·rintro (rfl | ⟨f,h1,h2⟩)
      ·exact .inl rfl
      ·exact .inr ⟨_,⟨f,h1,rfl⟩,h2⟩
     ·rintro (rfl | ⟨f,⟨f',h1,rfl⟩,h2⟩)
      ·exact .inl rfl
      ·exact .inr ⟨f',h1,h2⟩
    ·intro j hj
     simp only [dsD,List.length_map]
     rcases List.mem_cons.1 hj with e | hj
     ·exact HVA.out.v j e.symm
     ·exact HVA.out.sl j hj
   clear hrv
   go_wp2
   go_loopg [6,8] (ttD Y + ((slD Y).length + 1)) (fun gh s6 s8 (wr : World) => ∃ (seen : List Bool) (td : List V) (n : Nat),gh = ttD Y - n + td.length /\ ttD Y - n + td.length <= ttD Y + ((slD Y).length + 1) /\ s8 = .int .i64 n /\ RV w (w.heap.size + 1) seen s6 td wr /\ RI (dsD Y) (frD Y) v seen td n)
   case atStart => exact ⟨_,v :: slD Y,0,by simp,by simp,rfl,HRV.out,HR0.out⟩
   case round =>
    obtain ⟨seen,td,n,hgh,hbd,rfl,hrv2,hri⟩ := hrel
    obtain ⟨wj,rfl⟩ : ∃ wj,wj = wr := ⟨_,rfl⟩
    have HRW := jH hrv2
    have HRI := jH hri
    have hnt : n <= ttD Y := by rw [hri.sum];exact jdQ _ _
    have hsz2 := hrv2.low.size
    rcases List.eq_nil_or_concat td with e | ⟨l,u,e⟩
    ·subst e
     obtain ⟨a6,p6,e6,h6⟩ := jbC hrv2.own
     subst e6
     clear hrv2 hri
     go_wp2
     go_ret
     exact ⟨n,rfl,HRW.out.low,HRI.out.done,hnt⟩
    ·rw [List.concat_eq_append] at e
     subst e
     have ho := hrv2.own
     rw [List.length_append,List.length_singleton] at ho hbd hgh
     rcases ho.2 with ⟨_,h2⟩ | ⟨g6,p6,cur,e6,h62,h63,h64,_⟩
     ·omega
     ·subst e6
      have hg6 : g6 < wj.heap.size := jb h63
      have hcu : (jv (l ++ [u]))[l.length * 2]? = some (.bool (vb u)) /\ (jv (l ++ [u]))[l.length * 2 + 1]? = some (.int .i64 (vi u)) := Jj (by simp)
      have d0 : wj.cell? ⟨g6,l.length * 2,none⟩ = some (.bool (vb u)) := by
       have := ho.cellAt (l.length * 2) (by omega)
       rw [this];exact hcu.1
      have d1 : wj.cell? ⟨g6,l.length * 2 + 1,none⟩ = some (.int .i64 (vi u)) := by
       have := ho.cellAt (l.length * 2 + 1) (by omega)
       rw [this];exact hcu.2
      have q1 : decide ((0 : Int) < (l.length : Int) + 1) = true := by rw [decide_eq_true_eq];omega
      have q2 : (l.length : Int) < (l.length : Int) + 1 := by omega
      have hcp : l.length < p6 := by omega
      clear ho h63 hcu hrv2 hri
      have hp := HRW.out
      have HP := jH (RV.pop (n := 0) hp)
      clear hp
      cases u with
      | n z =>
        simp only [vb,vi] at d0 d1
        go_wp2
        go_roundg (ttD Y - n + l.length)
        case measure => omega
        case rel => exact ⟨seen,l,n,rfl,by omega,rfl,HP.out.al _,HRI.out.skip (fun i e => by cases e)⟩
      | b j =>
        have hjl : j < Y.ds.length := by
         have := HRI.out.val j (by simp)
         simpa [dsD] using this
        have gj : (j : Int) < (Y.ds.length : Int) := by omega
        obtain ⟨c,hc⟩ : ∃ c,seen[j]? = some c := ⟨_,List.getElem?_eq_getElem (by rw [HRI.out.len];simpa [dsD] using hjl)⟩
        have s0 := HRW.out.sc hc
        have s1 := je HRW.out.sn j
        have hslt := HRW.out.slt
        have HCC := jH hc
        simp only [vb,vi] at d0 d1
        cases c with
        | true =>
          clear hc
          go_wp2
          go_roundg (ttD Y - n + l.length)
          case measure => omega
          case rel => exact ⟨seen,l,n,rfl,by omega,rfl,HP.out.al _,HRI.out.skip (fun i e => by cases e;exact HCC.out)⟩
        | false =>
          clear hc
          obtain ⟨b,hb⟩ : ∃ b,Y.ds[j]? = some b := ⟨_,List.getElem?_eq_getElem hjl⟩
          have HBB := jH hb
          clear hb
          go_wp2
          have HM := jH ((HP.out.mark j).al (.cells #[.bool true,.int .i64 j] 89 (0,0)))
          have hbx := jg (wj.setCell ⟨w.heap.size + 1,j,none⟩ (.bool true)) (.cells #[.bool true,.int .i64 j] 89 (0,0))
          rw [jy] at hbx
          generalize ((wj.setCell ⟨w.heap.size + 1,j,none⟩ (.bool true)).alloc (.cells #[.bool true,.int .i64 j] 89 (0,0))) = W at HM hbx ⊢
          obtain ⟨g7,p7,x1,x2,x3,_,x5,x6,x7,_⟩ := (H.out.on HM.out.low).bg HBB.out
          have x8 : W.cell? ⟨wj.heap.size,1,none⟩ = some (.int .i64 j) := ja hbx 1 rfl
          have hSl := (H.out.on HM.out.low).rows.vls j b HBB.out
          have hTK := HRI.out.take HCC.out (b := ⟨b.fs,b.fn⟩) (by simp [dsD,HBB.out]) (fun i hi => by simpa [dsD] using HVA.out.fs b (List.mem_of_getElem? HBB.out) i hi)
          have HTK := jH hTK
          have hnt2 : n + 1 + b.fs.length <= ttD Y := by
           have := hTK.sum
           simp only at this
           rw [this];exact jdQ _ _
          have hws := HM.out.slt
          clear hbx hTK d0 d1 s0 s1 hslt
          rcases hSl.form with ⟨ev,en⟩ | ⟨g8,c8,ev,h81,h82,h83⟩
          ·rw [ev] at x3
           have hne : b.fs = [] := List.eq_nil_of_length_eq_zero en
           clear hSl ev en
           go_region
           go_wp2_with (first
            | (at_builtin;go_loud (refine jdL _ rfl (.tmp 84) (.tmp 88) 53 rfl 89 i0 Tryz.kuW hi0 _ none _ _ 0 rfl rfl ?_ ?_ ?_;(omega);(omega))))
           rw [hne,List.append_nil] at HTK
           go_roundg (ttD Y - (n + 1) + l.length)
           case measure => rw [hne] at hnt2;simp at hnt2;omega
           case rel => exact ⟨_,l,n + 1,rfl,by omega,by simp,HM.out.drew,by simpa using HTK.out⟩
          ·rw [ev] at x3
           have HC : Hid (∀ j u,(jv b.fs)[j]? = some u -> W.cell? ⟨g8,j,none⟩ = some u) := by
            rw [ev] at hSl
            exact fun j u hj => hSl.cell hj
           clear hSl ev
           go_region
           go_wp2_with (first
            | (at_builtin;go_loud (refine JO _ rfl (.tmp 84) (.tmp 88) 53 rfl (w.heap.size + 1 + 1) 89 i0 _ 2 16 Tryz.kuW hi0 hz0 hz1 hz2 rfl (by decide) _ _ _ rfl HM.out.drew.own ⟨g8,0,none⟩ b.fs.length c8 (jv b.fs) rfl (jb1 _) ?_ ?_ ?_ ?_ ?_ ?_;(intro j u hj;rw [add0];exact HC.out j u hj);(exact jdO _);(unfold maxLen;omega);omega;(show _ <= W.heap.size;omega);intro v' w4 hown4 hg4 hrow4)))
           go_roundg (ttD Y - (n + 1 + b.fs.length) + (l ++ b.fs).length)
           case measure => rw [List.length_append];omega
           case rel => exact ⟨_,l ++ b.fs,n + 1 + b.fs.length,rfl,by rw [List.length_append];omega,by simp,HM.out.drew.grow (by rw [List.length_append,jb2];exact hown4) hg4,HTK.out⟩
structure Gcd (Y : Dt) (v : V) (n u1 g : Nat) : Prop where
 hi : Y.x.words < Y.x.used + n + 1 -> jaP (dsD Y) (frD Y) v u1 /\ g = Y.x.gcs + 1
 lo : Y.x.used + n + 1 <= Y.x.words -> u1 = Y.x.used /\ g = Y.x.gcs
def ugS (Y : Dt) (u g : Nat) : Dt := { Y with x := { Y.x with used := u,gcs := g } }
def AfG (s : ByteArray) (κ : Kp) (w : World) (m : Nat) (Y : Dt) (v : V) (n : Nat) (wx : World) : Prop :=
 ∃ u1 g,Gcd Y v n u1 g /\ u1 <= 1000000000000 /\ DM s wx m κ (ugS Y u1 g) /\ Fr0 κ κ w wx /\ wx.heap[w.heap.size]? = some (.cells #[.bool (vb v),.int .i64 (vi v)] 89 (0,0))
def jcG (Y : Dt) (u g q n : Nat) (f : Int) (v : V) (vk : Value) (b : Nat) (vv : Value) : Dt := { Y with x := { Y.x with used := u,gcs := g,vbk := vk },ds := Y.ds ++ [⟨List.replicate n v,f,b,vv⟩],regs := Y.regs.set q (.b Y.ds.length) }
def BuP (s : ByteArray) (κ : Kp) (w : World) (m : Nat) (Y : Dt) (v : V) (q n : Nat) (f : Int) (e : Ending) (w' : World) : Prop :=
 ∃ u1 g,Gcd Y v n u1 g /\ ((Y.x.words < u1 + n + 1 /\ DOk s κ w m (jF (ugS Y u1 g) 40 0) e w') \/ (u1 + n + 1 <= Y.x.words /\ ∃ vk b vv,DOk s κ w m (jcG Y (u1 + n + 1) g q n f v vk b vv) e w'))
theorem jjT {w w' : World} {row : Option Nat} {k : Nat} (h : w.grownBy w' row) (e : row = some k) (hk : k < w.heap.size) : Lone k w w' := by
 subst e
 exact ⟨⟨h.os,h.tape,h.output,h.size,fun b hb => h.block b (by omega) (by intro e;cases e;omega)⟩,h.size,fun b hb hn => h.block b hb (by intro e;cases e;exact hn rfl)⟩
structure LB (s : ByteArray) (κ : Kp) (w : World) (m : Nat) (Y : Dt) (v : V) (f : Int) (bb i : Nat) (vv : Value) (wr : World) : Prop where
 dm : DM s wr m κ Y
 fr : Fr0 κ κ w wr
 top : ∀ b,bb <= b -> κ b = none
 lt : w.heap.size < bb
 bx : wr.heap[w.heap.size]? = some (.cells #[.bool (vb v),.int .i64 (vi v)] 89 (0,0))
 bk : wr.heap[bb]? = some (.cells #[vv,.int .i64 f] 101 (0,0))
 own : wr.ownsRow (bb + 1) 89 2 vv i (jv (List.replicate i v))
theorem LB.lone {v : V} {f : Int} {bb i : Nat} {vv : Value} {wr : World} (h : LB s κ w m Y v f bb i vv wr) {k : Nat} {w4 : World} (hk : bb < k) (hl : Lone k wr w4) (vv' : Value) (i' : Nat) (ho : w4.ownsRow (bb + 1) 89 2 vv' i' (jv (List.replicate i' v))) : LB s κ w m Y v f bb i' vv' (w4.setCell ⟨bb,0,none⟩ vv') := by
 have hlt := h.lt
 have hbs := jb h.bk
 have hxs := jb h.bx
 have hL2 : Lone bb w4 (w4.setCell ⟨bb,0,none⟩ vv') := (Lone.refl _ _).set 0 _
 have hb4 : w4.heap[bb]? = some (.cells #[vv,.int .i64 f] 101 (0,0)) := (hl.rest bb hbs (by omega)).trans h.bk
 have hx4 := (hl.rest _ hxs (by omega)).trans h.bx
 refine ⟨(h.dm.other (h.top k (by omega)) hl).other (h.top bb jN) hL2,Fr.new (Fr.new h.fr (by omega) hl) (by omega) hL2,h.top,hlt,(hL2.rest _ (jb hx4) (by omega)).trans hx4,jf hb4 0 vv',?_⟩
 exact j3 ho fun k' hk' => Below.heap_setCell _ _ _ _ (by have := (ho.lt k' hk').1;show k' ≠ bb;omega)
theorem LB.app {v : V} {f : Int} {bb i : Nat} {vv : Value} {wr : World} (h : LB s κ w m Y v f bb i vv wr) {w1 w4 : World} {vv' : Value} (hb : Below wr.heap.size wr w1) (ho : w4.ownsRow (bb + 1) 89 2 vv' (i + 1) (jv (List.replicate i v) ++ [.bool (vb v),.int .i64 (vi v)])) (hg : w1.grownBy w4 vv.ownBlock) : LB s κ w m Y v f bb (i + 1) vv' (w4.setCell ⟨bb,0,none⟩ vv') := by
 have ho' : w4.ownsRow (bb + 1) 89 2 vv' (i + 1) (jv (List.replicate (i + 1) v)) := by
  rw [List.replicate_succ',jb2];exact ho
 have hbs := jb h.bk
 cases e : vv.ownBlock with
 | none =>
   rw [e] at hg
   have hB : Below wr.heap.size wr w4 := hb.trans ⟨hg.os,hg.tape,hg.output,hg.size,fun k hk => hg.block k (Nat.lt_of_lt_of_le hk hb.size) (by intro e;cases e)⟩
   exact h.lone (k := wr.heap.size) hbs (Lone.of hB jN) vv' _ ho'
 | some k =>
   have hk := h.own.lt k e
   exact h.lone (k := k) (by omega) ((Lone.of hb (Nat.le_of_lt hk.2)).trans (jjT hg e (Nat.lt_of_lt_of_le hk.2 hb.size))) vv' _ ho'
theorem LB.at4 {v : V} {f : Int} {bb i : Nat} {vv : Value} {wr : World} (h : LB s κ w m Y v f bb i vv wr) {w1 w4 : World} (hb : Below wr.heap.size wr w1) (hg : w1.grownBy w4 vv.ownBlock) : w4.heap[bb]? = some (.cells #[vv,.int .i64 f] 101 (0,0)) := by
 have hbs := jb h.bk
 have h1 := jc h.bk hb hbs
 refine (hg.block bb (jb h1) (fun e => ?_)).trans h1
 have := (h.own.lt bb e.symm).1
 omega
theorem LB.done {v : V} {f : Int} {bb n : Nat} {vv : Value} {wr : World} (h : LB s κ w m Y v f bb n vv wr) :
 ∃ κ2,DM s wr m κ2 Y /\ Fr0 κ κ2 w wr /\ BO wr κ2 (14,Y.ds.length) bb (bsO ⟨List.replicate n v,f,bb,vv⟩) /\ TR wr κ2 (15,Y.ds.length) 89 2 vv n (jv (List.replicate n v)) := by
 have hlt := h.lt
 have hbs := jb h.bk
 have hown : wr.ownsRow 0 89 2 vv n (jv (List.replicate n v)) := Js h.own (Nat.zero_le _)
 cases e : vv.ownBlock with
 | none =>
   have h0 : κ bb = none := h.top bb jN
   exact ⟨jq κ bb (14,Y.ds.length),h.dm.tag _ h0 hbs,Fr.tags h.fr (fun b hb => JG (by omega)),⟨h.bk,by unfold jq;rw [if_pos rfl]⟩,hown,fun b hb => by rw [e] at hb;cases hb⟩
 | some k =>
   have hk := h.own.lt k e
   have h0 : κ k = none := h.top k (by omega)
   have h1 : jq κ k (15,Y.ds.length) bb = none := by unfold jq;rw [if_neg (by omega)];exact h.top bb jN
   refine ⟨jq (jq κ k (15,Y.ds.length)) bb (14,Y.ds.length),(h.dm.tag _ h0 hk.2).tag _ h1 hbs,Fr.tags h.fr (fun b hb => by rw [JG (by omega),JG (by omega)]),⟨h.bk,by unfold jq;rw [if_pos rfl]⟩,hown,fun b hb => ?_⟩
   rw [e] at hb
   cases hb
   unfold jq
   rw [if_neg (by omega),if_pos rfl]
theorem Tryz.kiBp : (Tryz.prog.info? 102).map (fun i => (i.zero,i.size,i.bytes)) = some (some (.pointer none),1,8) := by kernel_rfl
theorem Tryz.kuBp : Tryz.prog.underlying 51 = some (.slice 102) := by kernel_rfl
set_option maxRecDepth 100000 in
theorem jl2 (h : DM s w m κ Y) {v : V} {q n : Nat} {f : Int} (hva : VaD Y v) (hB : ttD Y + (slD Y).length <= 1000000000000) (hN : Y.ds.length <= 1000000000000) (hF : Y.fs.length <= 1000000) (hu : Y.x.used <= 1000000) (hw : Y.x.words <= 1000000) (hg : Y.x.gcs <= 1000000) (hn : n <= 65536) (hr : Y.regs.length = 8) (hq : q < 8) :
 Calls Tryz.prog 32 #[.pointer (some ⟨m,0,none⟩),.int .i64 q,.int .i64 n,.int .i64 f,.agg #[.bool (vb v),.int .i64 (vi v)]] w (BuP s κ w m Y v q n f) := by
 have H := jH h
 have HVA := jH hva
 have hml := h.lt
 have c9 : w.cell? ⟨m,9,none⟩ = some (.int .i64 Y.x.used) := ja h.mac 9 rfl
 have c1 : w.cell? ⟨m,1,none⟩ = some (.int .i64 Y.x.words) := ja h.mac 1 rfl
 obtain ⟨cb,hcb⟩ : ∃ cb,decide ((Y.x.words : Int) < (Y.x.used : Int) + (n : Int) + 1) = cb := ⟨_,rfl⟩
 have HCB := jH hcb
 clear h hva
 go_enter Tryz.func32,Tryz.ntmps32
 go_wp2
 go_region
 rename_i K1 hK1 K hK
 refine hK _ _ ?_
 clear hK K
 have hW := (jr w (.cells #[.bool (vb v),.int .i64 (vi v)] 89 (0,0))).drew
 have hbx : ((w.alloc (.cells #[.bool (vb v),.int .i64 (vi v)] 89 (0,0))).drew).heap[w.heap.size]? = _ := jg w (.cells #[.bool (vb v),.int .i64 (vi v)] 89 (0,0))
 generalize (w.alloc (.cells #[.bool (vb v),.int .i64 (vi v)] 89 (0,0))).drew = W at hW hbx ⊢
 have HW := jH hW
 have HX := jH hbx
 have HD := jH (H.out.on hW)
 have hwW := jb hbx
 have hmW : m < W.heap.size := by omega
 clear hW hbx
 go_cut [] (fun wx => AfG s κ w m Y v n wx)
 case first =>
  have q0 : W.cell? ⟨w.heap.size,0,none⟩ = some (.bool (vb v)) := ja HX.out 0 rfl
  have q1 : W.cell? ⟨w.heap.size,1,none⟩ = some (.int .i64 (vi v)) := ja HX.out 1 rfl
  clear hcb
  cases cb with
  | true =>
    have hb : Y.x.words < Y.x.used + n + 1 := by have := HCB.out;rw [decide_eq_true_eq] at this;omega
    have HB := jH hb
    have e16 : W.cell? ⟨m,16,none⟩ = some (.int .i64 Y.x.gcs) := ja HD.out.mac 16 rfl
    have z16 := je HD.out.mac 16
    have hL1 : Lone m W (W.setCell ⟨m,16,none⟩ (.int .i64 ((Y.x.gcs : Int) + 1))) := (Lone.refl _ _).set _ _
    have hD1 : DM s (W.setCell ⟨m,16,none⟩ (.int .i64 ((Y.x.gcs : Int) + 1))) m κ (ugS Y Y.x.used (Y.x.gcs + 1)) := HD.out.upd (x' := { Y.x with gcs := Y.x.gcs + 1 }) (jf HD.out.mac 16 _) hL1 rfl
    have HD1 := jH hD1
    have HL1 := jH hL1
    have HR := jH (jhI (v := v) hD1 ⟨HVA.out.v,HVA.out.sl,HVA.out.fs⟩ hB hN hF)
    clear hb hD1 hL1
    go_wp2_with (first
     | (go_at_call 61;refine HR.out.mono ?_;rintro _ w3 ⟨u1,rfl,hb3,hs3,hu3⟩;have hu3 : u1 <= 1000000000000 := Nat.le_trans hu3 (Nat.le_trans (Nat.le_add_right _ _) hB);have HB3 := jH hb3;have HS3 := jH hs3;have k9 : w3.cell? ⟨m,9,none⟩ = some (.int .i64 Y.x.used) := ja (HD1.out.on hb3).mac 9 rfl;have z9 := je (HD1.out.on hb3).mac 9;clear hb3 hs3))
    go_meet
    have hD3 := HD1.out.on HB3.out
    have hL3 : Lone m w3 (w3.setCell ⟨m,9,none⟩ (.int .i64 u1)) := (Lone.refl _ _).set _ _
    refine ⟨u1,Y.x.gcs + 1,⟨fun _ => ⟨HS3.out,rfl⟩,fun h => absurd h (by have := HB.out;omega)⟩,hu3,hD3.upd (x' := { Y.x with used := u1,gcs := Y.x.gcs + 1 }) (jf hD3.mac 9 _) hL3 rfl,?_,?_⟩
    ·exact Fr0.trans (Fr0.trans (Fr.of HW.out) (HD.out.low HL1.out)) (Fr0.trans (Fr.of HB3.out) (hD3.low hL3))
    ·have h1 := (HL1.out.rest _ hwW (by omega)).trans HX.out
     have h2 := jc h1 HB3.out (jb h1)
     exact (hL3.rest _ (jb h2) (by omega)).trans h2
  | false =>
    have hb : ¬ Y.x.words < Y.x.used + n + 1 := by have := HCB.out;rw [decide_eq_false_iff_not] at this;omega
    have HB := jH hb
    clear hb
    go_wp2
    go_meet
    exact ⟨Y.x.used,Y.x.gcs,⟨fun h => absurd h HB.out,fun _ => ⟨rfl,rfl⟩⟩,by omega,HD.out,Fr.of HW.out,HX.out⟩
 case rest =>
  obtain ⟨u1,g,hgc,hu1,hd,hfr,hbx⟩ := hcut
  have HG := jH hgc
  have HD2 := jH hd
  have HF2 := jH hfr
  have HX2 := jH hbx
  have hkk : ∀ {W : World},DM s W m κ (ugS Y u1 g) -> W.cell? ⟨m,9,none⟩ = some (.int .i64 u1) /\ W.cell? ⟨m,1,none⟩ = some (.int .i64 Y.x.words) := fun h => ⟨ja h.mac 9 rfl,ja h.mac 1 rfl⟩
  obtain ⟨k9,k1⟩ := hkk hd
  clear hkk
  obtain ⟨cc,hcc⟩ : ∃ cc,decide ((Y.x.words : Int) < (u1 : Int) + (n : Int) + 1) = cc := ⟨_,rfl⟩
  have HCC := jH hcc
  have hml2 := hd.lt
  clear hgc hd hfr hbx
  go_wp2
  go_region
  cases cc with
  | true =>
    have hb : Y.x.words < u1 + n + 1 := by have := HCC.out;rw [decide_eq_true_eq] at this;omega
    have HB := jH hb
    clear hb
    go_wp2_with (first
     | (go_at_call 33;refine (Jf HD2.out.drew 40 0).mono ?_;rintro _ w3 ⟨rfl,h3,f3⟩))
    go_returns
    exact ⟨u1,g,HG.out,.inl ⟨HB.out,rfl,κ,h3,Fr0.trans (Fr.drew HF2.out) f3⟩⟩
  | false =>
    have hb : u1 + n + 1 <= Y.x.words := by have := HCC.out;rw [decide_eq_false_iff_not] at this;omega
    have HB := jH hb
    have hu1' : u1 <= 1000000 := by omega
    clear hb hcc
    have z9 := je HD2.out.mac 9
    have hLu : Lone m wc (wc.setCell ⟨m,9,none⟩ (.int .i64 ((u1 : Int) + (n : Int) + 1))) := (Lone.refl _ _).set 9 _
    have hDu : DM s (wc.setCell ⟨m,9,none⟩ (.int .i64 ((u1 : Int) + (n : Int) + 1))) m κ (ugS Y (u1 + n + 1) g) := HD2.out.upd (x' := { (ugS Y u1 g).x with used := u1 + n + 1 }) (jf HD2.out.mac 9 _) hLu rfl
    have hA := jr (wc.setCell ⟨m,9,none⟩ (.int .i64 ((u1 : Int) + (n : Int) + 1))) (.cells #[.slice none 0 0,.int .i64 f] 101 (0,0))
    have hLB : LB s κ w m (ugS Y (u1 + n + 1) g) v f wc.heap.size 0 (.slice none 0 0) ((wc.setCell ⟨m,9,none⟩ (.int .i64 ((u1 : Int) + (n : Int) + 1))).alloc (.cells #[.slice none 0 0,.int .i64 f] 101 (0,0))).drew := by
     have hx2 : (wc.setCell ⟨m,9,none⟩ (.int .i64 ((u1 : Int) + (n : Int) + 1))).heap[w.heap.size]? = _ := (hLu.rest _ (jb HX2.out) (by omega)).trans HX2.out
     refine ⟨(hDu.on hA).drew,Fr.drew (Fr0.trans (Fr0.trans HF2.out (HD2.out.low hLu)) (Fr.of hA)),HD2.out.top,jb HX2.out,jc hx2 hA.drew (jb hx2),j9 (w := wc.setCell _ _) (by simp),?_⟩
     exact World.ownsRow_nil _ _ _ _
    have HLB := jH hLB
    clear hLu hDu hA hLB
    obtain ⟨i0,hi0,hz0,hz1,hz2⟩ := info_parts Tryz.kiW
    obtain ⟨j0,hj0,hy0,hy1,hy2⟩ := info_parts Tryz.kiBp
    go_wp2
    obtain ⟨bb,hbb⟩ : ∃ bb,wc.heap.size = bb := ⟨_,rfl⟩
    have hbl : w.heap.size < bb := by rw [<- hbb];exact jb HX2.out
    have hL0 := HLB.out
    rw [hbb] at hL0 ⊢
    clear HLB
    generalize ((wc.setCell ⟨m,9,none⟩ (.int .i64 ((u1 : Int) + (n : Int) + 1))).alloc (.cells #[.slice none 0 0,.int .i64 f] 101 (0,0))).drew = W0 at hL0 ⊢
    have HL0 := jH hL0
    clear hL0
    go_loopg [11] n (fun gh s11 (wr : World) => ∃ (i : Nat) (vv : Value),i <= n /\ gh = n - i /\ s11 = .int .i64 i /\ LB s κ w m (ugS Y (u1 + n + 1) g) v f bb i vv wr)
    case atStart => exact ⟨0,.slice none 0 0,Nat.zero_le _,rfl,rfl,HL0.out⟩
    case round =>
     obtain ⟨i,vv,hi,hgi,rfl,hLB⟩ := hrel
     obtain ⟨wi,rfl⟩ : ∃ wi,wi = wr := ⟨_,rfl⟩
     have HL := jH hLB
     have hbs := jb hLB.bk
     have hxs := jb hLB.bx
     have b0 : wi.cell? ⟨bb,0,none⟩ = some vv := ja hLB.bk 0 rfl
     have x0 : wi.cell? ⟨w.heap.size,0,none⟩ = some (.bool (vb v)) := ja hLB.bx 0 rfl
     have x1 : wi.cell? ⟨w.heap.size,1,none⟩ = some (.int .i64 (vi v)) := ja hLB.bx 1 rfl
     by_cases hlt : i < n
     ·have g1 : decide ((i : Int) < (n : Int)) = true := by simp;omega
      clear hLB
      go_wp2
      have HOW : Hid (((wi.alloc (.cells #[.bool (vb v),.int .i64 (vi v)] 89 (0,0))).drew).ownsRow (bb + 1) 89 2 vv i (jv (List.replicate i v))) := HL.out.own.alloc _
      have HB4 : Hid (Below wi.heap.size wi ((wi.alloc (.cells #[.bool (vb v),.int .i64 (vi v)] 89 (0,0))).drew)) := (jr _ _).drew
      have bA : ∀ o : Obj,(wi.alloc o).cell? ⟨bb,0,none⟩ = some vv := fun o => ja (jc HL.out.bk (jr wi o) hbs) 0 rfl
      go_region_law ((refine step_append_lies _ (by rfl) (.tmp 75) (.tmp 77) 53 (by rfl) (bb + 1) 89 i0 _ 2 16 Tryz.kuW hi0 hz0 hz1 hz2 rfl (by decide) vv i (jv (List.replicate i v)) (by rfl) HOW.out ⟨wi.heap.size,0,none⟩ 1 1 [.bool (vb v),.int .i64 (vi v)] (by rfl) (by rfl) (Ja _ _ _ _ rfl) (by intro u hu;simp at hu;rcases hu with rfl | rfl <;> rfl) (by decide) (by unfold maxLen;omega) (by omega) (by simp;omega) _ rfl ?_;intro gn cn w4 hown4 hgrow hat hlt4;have hA4 := HL.out.app HB4.out hown4 hgrow;have HA4 := jH hA4;have hk4 := HL.out.at4 HB4.out hgrow;have b4 : w4.cell? ⟨bb,0,none⟩ = some vv := ja hk4 0 rfl;have z4 := je hk4 0;clear hA4 hown4 hgrow hat hk4))
      all_goals
       rename_i Q' K hK
       refine hK _ _ ?_
       clear hK
       clear K
       go_wp2
       go_roundg (n - (i + 1))
       case measure => omega
       case rel => exact ⟨i + 1,_,by omega,rfl,by simp,HA4.out⟩
     ·have hin : i = n := by omega
      subst hin
      have g1 : decide ((i : Int) < (i : Int)) = false := by simp
      obtain ⟨κ2,hD5,hF5,hB5,hT5⟩ := hLB.done
      have c4 : wi.cell? ⟨m,4,none⟩ = some Y.x.vbk := ja hD5.mac 4 rfl
      have hmi := hD5.lt
      have HD5 := jH hD5
      have HF5 := jH hF5
      have HB5 := jH hB5
      have HT5 := jH hT5
      have HB6 : Hid (Below wi.heap.size wi (wi.alloc (.cells #[.pointer (some ⟨bb,0,none⟩)] 102 (0,0)))) := jr _ _
      clear hLB hD5 hF5 hB5 hT5
      go_wp2_with (first
       | (at_builtin;go_loud (refine JO _ rfl (.tmp 85) (.tmp 87) 51 rfl 0 102 j0 _ 1 8 Tryz.kuBp hj0 hy0 hy1 hy2 rfl (by decide) Y.x.vbk Y.ds.length (Y.ds.map fun b => pt b.b) rfl (HD5.out.rows.bks.own.alloc _) ⟨wi.heap.size,0,none⟩ 1 1 [pt bb] rfl rfl (Ja _ _ _ _ rfl) ?_ ?_ ?_ ?_ ?_;(intro u hu;simp at hu;subst hu;rfl);(unfold maxLen;omega);(omega);(simp);intro v' w4 hown4 hg4 hrow4;obtain ⟨a9,p9,e9,hc9⟩ := jbC hown4;subst e9;have hr4 := HD5.out.run_grown HB6.out hg4 HD5.out.rows.bks.tag (by decide);have p4 : w4.cell? ⟨m,4,none⟩ = some Y.x.vbk := ja hr4 4 rfl;have y4 := je hr4 4;have hm4' := jb hr4;obtain ⟨κ4,hm4,hf4⟩ := HD5.out.growB (f := ⟨List.replicate i v,f,bb,vv⟩) HB5.out (by simp only [List.length_replicate];exact HT5.out) HB6.out hown4 hg4 hrow4;have HM4 := jH hm4;have HF4 := jH hf4;clear hm4 hf4 hr4 hown4 hg4 hrow4)))
      have hM := HM4.out
      have hF := Fr0.trans HF5.out HF4.out.all
      clear HM4 HF4 p4 y4 hm4'
      generalize w4.setCell ⟨m,4,none⟩ (.slice a9 (Y.ds.length + 1) p9) = W5 at hM hF ⊢
      have HM := jH hM
      have HF := jH hF
      obtain ⟨gr,cp,hR⟩ := hM.rgs' hr
      have HR := jH hR
      have hgl := hR.lt
      have c8 := hR.c8
      obtain ⟨r1,r2,r3,_⟩ := hR.on _ jB
      obtain ⟨t0,ht0⟩ : ∃ t0,Y.regs[q]? = some t0 := ⟨_,List.getElem?_eq_getElem (by rw [hr];exact hq)⟩
      obtain ⟨d0,d1⟩ := r2 q _ ht0
      have z0' := r3 (q * 2)
      have z1' := r3 (q * 2 + 1)
      have gq : (q : Int) < 8 := by omega
      have c45 : W5.cell? ⟨m,4,none⟩ = some (.slice a9 (Y.ds.length + 1) p9) := ja hM.mac 4 rfl
      have hm5 := hM.lt
      clear hM hF hR r2 r3 ht0 b0 x0 x1 c4
      go_region
      go_wp2
      go_returns
      obtain ⟨_,_,_,r4⟩ := HR.out.on _ jB
      obtain ⟨p1,p2⟩ := r4 q (.b Y.ds.length) hq
      exact ⟨u1,g,HG.out,.inr ⟨HB.out,.slice a9 (Y.ds.length + 1) p9,bb,vv,JC p1 (Fr0.trans HF.out p2) jB.drew⟩⟩
variable {l : List HX} {f : HX}
set_option maxRecDepth 100000 in
theorem jjm (h : DL s w m κ Y l f) {q x y p : Nat} (hq : q < 8) (hx : x < hN s) :
 Calls Tryz.prog 19 #[.pointer (some ⟨m,0,none⟩),.agg #[.int .i64 1,.int .i64 q,.int .i64 x,.int .i64 y,.int .i64 p]] w (DOk s κ w m (rgS (onD Y) q (.n (kn s x)))) := by
 obtain ⟨c7,z7,hml,hpc,hl,HH⟩ := jL h
 clear h
 go_enter Tryz.func19,Tryz.ntmps19
 go_upto_region 2 with fail
 generalize hW : World.alloc _ _ = W
 obtain ⟨HT,g5,p5,c5,d5,n5,hg5,hmW,gl⟩ := jK HH.out hW
 clear hW c7 z7 hml
 go_region
 have hT := HT.out.drew
 clear c5 d5 n5 hg5 hmW gl HT
 generalize W.drew = W1 at hT ⊢
 obtain ⟨e0,e1,e2,e3,e4,hwl,hmW,HT⟩ := jw hT
 obtain ⟨g,cap,HR,hgl,c8,r1,r2,r3⟩ := JV hT.dm (show (onD Y).regs.length = 8 from HH.out.hr)
 obtain ⟨t0,ht0⟩ : ∃ t0,Y.regs[q]? = some t0 := ⟨_,List.getElem?_eq_getElem (by rw [HH.out.hr];exact hq)⟩
 obtain ⟨d0,d1⟩ := r2 q _ ht0
 have z0' := r3 (q * 2)
 have z1' := r3 (q * 2 + 1)
 have gq : (q : Int) < 8 := by omega
 clear ht0
 obtain ⟨gN,cN,n0,n1,n2,n3,n4,n5⟩ := hT.dm.nm hx
 have gx : (x : Int) < (hN s : Int) := by omega
 have hNl : hN s < 65536 := ju _ _
 obtain ⟨kv,hkv⟩ : ∃ kv,kn s x = kv := ⟨_,rfl⟩
 rw [hkv] at n5
 have HKV := jH hkv
 clear hT r2 r3 hkv
 go_wp2
 go_region
 go_wp2
 go_returns
 rw [HKV.out]
 obtain ⟨_,_,_,r4⟩ := HR.out.on _ jB
 obtain ⟨p1,p2⟩ := r4 q (.n kv) hq
 exact JC p1 (Fr0.trans HT.out.fr p2) jB.drew
set_option maxRecDepth 100000 in
theorem jjh (h : DL s w m κ Y l f) {q x y p : Nat} {u : V} (hq : q < 8) (hx : Y.regs[x]? = some u) :
 Calls Tryz.prog 19 #[.pointer (some ⟨m,0,none⟩),.agg #[.int .i64 2,.int .i64 q,.int .i64 x,.int .i64 y,.int .i64 p]] w (DOk s κ w m (rgS (onD Y) q u)) := by
 obtain ⟨c7,z7,hml,hpc,hl,HH⟩ := jL h
 clear h
 go_enter Tryz.func19,Tryz.ntmps19
 go_upto_region 2 with fail
 generalize hW : World.alloc _ _ = W
 obtain ⟨HT,g5,p5,c5,d5,n5,hg5,hmW,gl⟩ := jK HH.out hW
 clear hW c7 z7 hml
 go_region
 have hT := HT.out.drew
 clear c5 d5 n5 hg5 hmW gl HT
 generalize W.drew = W1 at hT ⊢
 obtain ⟨e0,e1,e2,e3,e4,hwl,hmW,HT⟩ := jw hT
 obtain ⟨g,cap,HR,hgl,c8,r1,r2,r3⟩ := JV hT.dm (show (onD Y).regs.length = 8 from HH.out.hr)
 obtain ⟨t0,ht0⟩ : ∃ t0,Y.regs[q]? = some t0 := ⟨_,List.getElem?_eq_getElem (by rw [HH.out.hr];exact hq)⟩
 obtain ⟨d0,d1⟩ := r2 q _ ht0
 have z0' := r3 (q * 2)
 have z1' := r3 (q * 2 + 1)
 have gq : (q : Int) < 8 := by omega
 clear ht0
 obtain ⟨sx0,sx1⟩ := r2 x _ hx
 have gx := gX8 HH.out hx
 clear hT r2 r3 hx
 go_wp2
 go_region
 go_wp2
 go_returns
 obtain ⟨_,_,_,r4⟩ := HR.out.on _ jB
 obtain ⟨p1,p2⟩ := r4 q u hq
 exact JC p1 (Fr0.trans HT.out.fr p2) jB.drew
set_option maxRecDepth 100000 in
theorem jjn (h : DL s w m κ Y l f) {q x y p : Nat} {u : V} (hq : q < 8) (hx : f.sl[x]? = some u) :
 Calls Tryz.prog 19 #[.pointer (some ⟨m,0,none⟩),.agg #[.int .i64 3,.int .i64 q,.int .i64 x,.int .i64 y,.int .i64 p]] w (DOk s κ w m (rgS (onD Y) q u)) := by
 obtain ⟨c7,z7,hml,hpc,hl,HH⟩ := jL h
 clear h
 go_enter Tryz.func19,Tryz.ntmps19
 go_upto_region 2 with fail
 generalize hW : World.alloc _ _ = W
 obtain ⟨HT,g5,p5,c5,d5,n5,hg5,hmW,gl⟩ := jK HH.out hW
 clear hW c7 z7 hml
 go_region
 have hT := HT.out.drew
 clear c5 d5 n5 hg5 hmW gl HT
 generalize W.drew = W1 at hT ⊢
 obtain ⟨e0,e1,e2,e3,e4,hwl,hmW,HT⟩ := jw hT
 obtain ⟨g,cap,HR,hgl,c8,r1,r2,r3⟩ := JV hT.dm (show (onD Y).regs.length = 8 from HH.out.hr)
 obtain ⟨t0,ht0⟩ : ∃ t0,Y.regs[q]? = some t0 := ⟨_,List.getElem?_eq_getElem (by rw [HH.out.hr];exact hq)⟩
 obtain ⟨d0,d1⟩ := r2 q _ ht0
 have z0' := r3 (q * 2)
 have z1' := r3 (q * 2 + 1)
 have gq : (q : Int) < 8 := by omega
 clear ht0
 obtain ⟨gs,cs,s0,s1,s2,s3,s4,s5,s6,s7⟩ := hT.dm.sl (show (onD Y).fs = l ++ [f] from HH.out.hf) hx
 have gx : (x : Int) < (f.sl.length : Int) := by have := (jG hx).1;omega
 clear hT r2 r3 hx s6 s7
 go_wp2
 go_region
 go_wp2
 go_returns
 obtain ⟨_,_,_,r4⟩ := HR.out.on _ jB
 obtain ⟨p1,p2⟩ := r4 q u hq
 exact JC p1 (Fr0.trans HT.out.fr p2) jB.drew
def slS (Y : Dt) (l : List HX) (f : HX) (x : Nat) (v : V) : Dt := { Y with fs := l ++ [{ f with sl := f.sl.set x v }] }
set_option maxRecDepth 100000 in
theorem ji9 (h : DL s w m κ Y l f) {q x y p : Nat} {u : V} (hq : q < 8) (hx : f.sl[x]? = some u) :
 Calls Tryz.prog 19 #[.pointer (some ⟨m,0,none⟩),.agg #[.int .i64 4,.int .i64 q,.int .i64 x,.int .i64 y,.int .i64 p]] w (DOk s κ w m (slS (rgS (onD Y) q u) l f x z0)) := by
 obtain ⟨c7,z7,hml,hpc,hl,HH⟩ := jL h
 clear h
 go_enter Tryz.func19,Tryz.ntmps19
 go_upto_region 2 with fail
 generalize hW : World.alloc _ _ = W
 obtain ⟨HT,g5,p5,c5,d5,n5,hg5,hmW,gl⟩ := jK HH.out hW
 clear hW c7 z7 hml
 go_region
 have hT := HT.out.drew
 clear c5 d5 n5 hg5 hmW gl HT
 generalize W.drew = W1 at hT ⊢
 obtain ⟨e0,e1,e2,e3,e4,hwl,hmW,HT⟩ := jw hT
 obtain ⟨g,cap,HR,hgl,c8,r1,r2,r3⟩ := JV hT.dm (show (onD Y).regs.length = 8 from HH.out.hr)
 obtain ⟨t0,ht0⟩ : ∃ t0,Y.regs[q]? = some t0 := ⟨_,List.getElem?_eq_getElem (by rw [HH.out.hr];exact hq)⟩
 obtain ⟨d0,d1⟩ := r2 q _ ht0
 have z0' := r3 (q * 2)
 have z1' := r3 (q * 2 + 1)
 have gq : (q : Int) < 8 := by omega
 clear ht0
 obtain ⟨gs,cs,s0,s1,s2,s3,s4,s5,s6,s7⟩ := hT.dm.sl (show (onD Y).fs = l ++ [f] from HH.out.hf) hx
 have gx : (x : Int) < (f.sl.length : Int) := by have := (jG hx).1;omega
 have HX := jH hx
 clear hT r2 r3 hx s6 s7
 go_wp2
 go_region
 obtain ⟨_,_,_,r4⟩ := HR.out.on _ jB
 obtain ⟨p1,p2⟩ := r4 q u hq
 have hT := (HT.out.step p1 p2).drew
 clear p1 p2 r4 HR r1 d0 d1 z0' z1' s0 s1 s2 s3 s4 s5 hgl c8 e0 e1 e2 e3 e4 hwl hmW HT
 generalize ((W1.setCell ⟨g,q * 2,none⟩ (.bool (vb u))).setCell ⟨g,q * 2 + 1,none⟩ (.int .i64 (vi u))).drew = W2 at hT ⊢
 obtain ⟨gs,cs,s0,s1,s2,s3,s4,s5,s6,s7⟩ := hT.dm.sl (show (rgS (onD Y) q u).fs = l ++ [f] from HH.out.hf) HX.out
 have e2 : W2.cell? ⟨w.heap.size,2,none⟩ = some (.int .i64 x) := ja hT.ln 2 rfl
 have hwl := jb hT.ln
 have hmW := hT.dm.lt
 have z0' := s6 (x * 2)
 have z1' := s6 (x * 2 + 1)
 have HS := jH (s7 z0)
 have HT := jH hT
 clear hT s6 s7
 go_wp2
 go_region
 go_wp2
 go_returns
 exact JC HS.out.1 (Fr0.trans HT.out.fr HS.out.2) jB.drew
set_option maxRecDepth 100000 in
theorem ji8 (h : DL s w m κ Y l f) {q x y p : Nat} {u t : V} (hq : Y.regs[q]? = some t) (hx : f.sl[x]? = some u) :
 Calls Tryz.prog 19 #[.pointer (some ⟨m,0,none⟩),.agg #[.int .i64 5,.int .i64 q,.int .i64 x,.int .i64 y,.int .i64 p]] w (DOk s κ w m (slS (onD Y) l f x t)) := by
 obtain ⟨c7,z7,hml,hpc,hl,HH⟩ := jL h
 clear h
 go_enter Tryz.func19,Tryz.ntmps19
 go_upto_region 2 with fail
 generalize hW : World.alloc _ _ = W
 obtain ⟨HT,g5,p5,c5,d5,n5,hg5,hmW,gl⟩ := jK HH.out hW
 clear hW c7 z7 hml
 go_region
 have hT := HT.out.drew
 clear c5 d5 n5 hg5 hmW gl HT
 generalize W.drew = W1 at hT ⊢
 obtain ⟨e0,e1,e2,e3,e4,hwl,hmW,HT⟩ := jw hT
 obtain ⟨g,cap,HR,hgl,c8,r1,r2,r3⟩ := JV hT.dm (show (onD Y).regs.length = 8 from HH.out.hr)
 obtain ⟨sq0,sq1⟩ := r2 q _ hq
 have gq := gX8 HH.out hq
 obtain ⟨gs,cs,s0,s1,s2,s3,s4,s5,s6,s7⟩ := hT.dm.sl (show (onD Y).fs = l ++ [f] from HH.out.hf) hx
 have gx : (x : Int) < (f.sl.length : Int) := by have := (jG hx).1;omega
 have z0' := s6 (x * 2)
 have z1' := s6 (x * 2 + 1)
 have HS := jH (s7 t)
 clear hT r2 r3 hx hq s6 s7
 go_wp2
 go_region
 go_wp2
 go_returns
 exact JC HS.out.1 (Fr0.trans HT.out.fr HS.out.2) jB.drew
set_option maxRecDepth 100000 in
theorem ji7 (h : DL s w m κ Y l f) {q x y p : Nat} {u : V} (hx : f.sl[x]? = some u) :
 Calls Tryz.prog 19 #[.pointer (some ⟨m,0,none⟩),.agg #[.int .i64 6,.int .i64 q,.int .i64 x,.int .i64 y,.int .i64 p]] w (DOk s κ w m (slS (onD Y) l f x z0)) := by
 obtain ⟨c7,z7,hml,hpc,hl,HH⟩ := jL h
 clear h
 go_enter Tryz.func19,Tryz.ntmps19
 go_upto_region 2 with fail
 generalize hW : World.alloc _ _ = W
 obtain ⟨HT,g5,p5,c5,d5,n5,hg5,hmW,gl⟩ := jK HH.out hW
 clear hW c7 z7 hml
 go_region
 have hT := HT.out.drew
 clear c5 d5 n5 hg5 hmW gl HT
 generalize W.drew = W1 at hT ⊢
 obtain ⟨e0,e1,e2,e3,e4,hwl,hmW,HT⟩ := jw hT
 obtain ⟨gs,cs,s0,s1,s2,s3,s4,s5,s6,s7⟩ := hT.dm.sl (show (onD Y).fs = l ++ [f] from HH.out.hf) hx
 have gx : (x : Int) < (f.sl.length : Int) := by have := (jG hx).1;omega
 have z0' := s6 (x * 2)
 have z1' := s6 (x * 2 + 1)
 have HS := jH (s7 z0)
 clear hT hx s6 s7
 go_wp2
 go_region
 go_wp2
 go_returns
 exact JC HS.out.1 (Fr0.trans HT.out.fr HS.out.2) jB.drew
def jl (Y : Dt) : Mc := ⟨Y.x.pc,Y.regs,frD Y,Y.x.gcs,Y.x.err,Y.x.pos,Y.x.val,Y.out,Y.x.steps,Y.x.read⟩
def stD (Y : Dt) : Dt := { Y with x := { Y.x with steps := Y.x.steps + 1 } }
def jM (Y : Dt) : Dt := onD (stD Y)
theorem Jt {f : HX} (h : Y.fs = l ++ [f]) : frD Y = ⟨f.back,f.sl⟩ :: (l.reverse.map fun f => (⟨f.back,f.sl⟩ : Fm)) := by
 unfold frD
 rw [h]
 simp
theorem jct (Y : Dt) : (frD Y).length = Y.fs.length := by unfold frD;simp
structure DI (H D G : Nat) (I : List Int) (Y : Dt) : Prop where
 words : Y.x.words = H
 hm : H <= 2048
 depth : Y.x.depth = D
 dm : D <= 64
 fuel : Y.x.fuel = G
 ins : Y.ins = I
 sm : Y.x.steps <= 65536
 dlen : Y.ds.length <= Y.x.steps
 gcs : Y.x.gcs <= Y.x.steps
 rl : Y.regs.length = 8
 rv : ∀ i,.b i ∈ Y.regs -> i < Y.ds.length
 sv : ∀ f ∈ Y.fs,∀ i,.b i ∈ f.sl -> i < Y.ds.length
 fv : ∀ b ∈ Y.ds,∀ i,.b i ∈ b.fs -> i < Y.ds.length
 fl : ∀ b ∈ Y.ds,b.fs.length <= 2048
 sl : ∀ f ∈ Y.fs,f.sl.length <= 1024
 fs : Y.fs.length <= D
 out : Y.out.length <= 16
 rd : Y.x.read <= Y.ins.length
def jdw (Y : Dt) : Nat × Nat × Nat × List Int × Nat × Nat × List V × List HX × List GX × List Int × Nat := (Y.x.words,Y.x.depth,Y.x.fuel,Y.ins,Y.x.steps,Y.x.gcs,Y.regs,Y.fs,Y.ds,Y.out,Y.x.read)
theorem DI.re {half depth gr : Nat} {ins : List Int} {Y Y' : Dt} (h : DI half depth gr ins Y) (e : jdw Y' = jdw Y) : DI half depth gr ins Y' := by
 simp only [jdw,Prod.mk.injEq] at e
 obtain ⟨e1,e2,e3,e4,e5,e6,e7,e8,e9,e10,e11⟩ := e
 exact ⟨e1.trans h.words,h.hm,e2.trans h.depth,h.dm,e3.trans h.fuel,e4.trans h.ins,by rw [e5];exact h.sm,by rw [e9,e5];exact h.dlen,by rw [e6,e5];exact h.gcs,by rw [e7];exact h.rl,by rw [e7,e9];exact h.rv,by rw [e8,e9];exact h.sv,by rw [e9];exact h.fv,by rw [e9];exact h.fl,by rw [e8];exact h.sl,by rw [e8];exact h.fs,by rw [e10];exact h.out,by rw [e11,e4];exact h.rd⟩
theorem DI.on {half depth gr : Nat} {ins : List Int} (h : DI half depth gr ins Y) (hs : Y.x.steps < 65536) : DI half depth gr ins (jM Y) :=
 ⟨h.words,h.hm,h.depth,h.dm,h.fuel,h.ins,hs,Nat.le_succ_of_le h.dlen,Nat.le_succ_of_le h.gcs,h.rl,h.rv,h.sv,h.fv,h.fl,h.sl,h.fs,h.out,h.rd⟩
def Vl (Y : Dt) (v : V) : Prop := ∀ i,v = .b i -> i < Y.ds.length
theorem jcd {l : List V} {x i : Nat} {v : V} (h : .b i ∈ l.set x v) : v = .b i \/ .b i ∈ l := by
 rcases List.mem_or_eq_of_mem_set h with h | h
 ·exact .inr h
 ·exact .inl h.symm
theorem DI.reg {half depth gr : Nat} {ins : List Int} (h : DI half depth gr ins Y) {q : Nat} {v : V} (hv : Vl Y v) : DI half depth gr ins (rgS Y q v) :=
 ⟨h.words,h.hm,h.depth,h.dm,h.fuel,h.ins,h.sm,h.dlen,h.gcs,(List.length_set ..).trans h.rl,fun i hi => (jcd hi).elim (fun e => hv i e) (h.rv i),h.sv,h.fv,h.fl,h.sl,h.fs,h.out,h.rd⟩
theorem DI.slot {half depth gr : Nat} {ins : List Int} (h : DI half depth gr ins Y) (hf : Y.fs = l ++ [f]) {x : Nat} {v : V} (hv : Vl Y v) : DI half depth gr ins (slS Y l f x v) := by
 have hmem : ∀ g ∈ l ++ [{ f with sl := f.sl.set x v }],g ∈ Y.fs \/ (g.sl = f.sl.set x v /\ f ∈ Y.fs) := fun g hg => by
  rcases List.mem_append.1 hg with hg | hg
  ·exact .inl (by rw [hf];exact List.mem_append_left _ hg)
  ·rw [List.mem_singleton] at hg
   exact .inr ⟨by rw [hg],by rw [hf];simp⟩
 refine ⟨h.words,h.hm,h.depth,h.dm,h.fuel,h.ins,h.sm,h.dlen,h.gcs,h.rl,h.rv,fun g hg i hi => ?_,h.fv,h.fl,fun g hg => ?_,?_,h.out,h.rd⟩
 ·rcases hmem g hg with h1 | ⟨h1,h2⟩
  ·exact h.sv g h1 i hi
  ·rw [h1] at hi
   exact (jcd hi).elim (fun e => hv i e) (h.sv f h2 i)
 ·rcases hmem g hg with h1 | ⟨h1,h2⟩
  ·exact h.sl g h1
  ·rw [h1,List.length_set];exact h.sl f h2
 ·have := h.fs
  rw [hf] at this
  show (l ++ [_]).length <= depth
  simpa using this
theorem DI.print {half depth gr : Nat} {ins : List Int} {Y Y' : Dt} (h : DI half depth gr ins Y) (hl : Y.out.length < 16) {z : Int} {v : Value} (e : Y' = { Y with x := { Y.x with vout := v },out := Y.out ++ [z] }) : DI half depth gr ins Y' := by
 subst e
 exact ⟨h.words,h.hm,h.depth,h.dm,h.fuel,h.ins,h.sm,h.dlen,h.gcs,h.rl,h.rv,h.sv,h.fv,h.fl,h.sl,h.fs,by show (Y.out ++ [z]).length <= 16;simp;omega,h.rd⟩
theorem DI.inp {half depth gr : Nat} {ins : List Int} (h : DI half depth gr ins Y) {q : Nat} {z : Int} (hr : Y.x.read < Y.ins.length) : DI half depth gr ins (inD Y q z) := by
 have h1 := h.reg (q := q) (v := .n (w63 z)) (fun i e => by cases e)
 exact ⟨h1.words,h1.hm,h1.depth,h1.dm,h1.fuel,h1.ins,h1.sm,h1.dlen,h1.gcs,h1.rl,h1.rv,h1.sv,h1.fv,h1.fl,h1.sl,h1.fs,h1.out,hr⟩
theorem DI.leave {half depth gr : Nat} {ins : List Int} (h : DI half depth gr ins Y) (hf : Y.fs = l ++ [f]) (v : Value) : DI half depth gr ins (jax Y l v) := by
 have hm : ∀ g ∈ l,g ∈ Y.fs := fun g hg => by rw [hf];exact List.mem_append_left _ hg
 refine ⟨h.words,h.hm,h.depth,h.dm,h.fuel,h.ins,h.sm,h.dlen,h.gcs,h.rl,h.rv,fun g hg => h.sv g (hm g hg),h.fv,h.fl,fun g hg => h.sl g (hm g hg),?_,h.out,h.rd⟩
 have := h.fs
 rw [hf] at this
 show l.length <= depth
 simp at this
 omega
theorem DI.call {half depth gr : Nat} {ins : List Int} (h : DI half depth gr ins Y) {k back b : Nat} {vf v : Value} (hd : Y.fs.length < depth) (hr : r3 s k <= 1024) : DI half depth gr ins (JT s Y k back vf b v) := by
 have hmem : ∀ g ∈ Y.fs ++ [(⟨back,List.replicate (r3 s k) z0,b,v⟩ : HX)],g ∈ Y.fs \/ g.sl = List.replicate (r3 s k) z0 := fun g hg => by
  rcases List.mem_append.1 hg with hg | hg
  ·exact .inl hg
  ·rw [List.mem_singleton] at hg
   exact .inr (by rw [hg])
 refine ⟨h.words,h.hm,h.depth,h.dm,h.fuel,h.ins,h.sm,h.dlen,h.gcs,h.rl,h.rv,fun g hg i hi => ?_,h.fv,h.fl,fun g hg => ?_,?_,h.out,h.rd⟩
 ·rcases hmem g hg with h1 | h1
  ·exact h.sv g h1 i hi
  ·rw [h1,List.mem_replicate] at hi
   exact absurd hi.2 (by unfold z0;intro e;cases e)
 ·rcases hmem g hg with h1 | h1
  ·exact h.sl g h1
  ·rw [h1,List.length_replicate];exact hr
 ·show (Y.fs ++ [_]).length <= depth
  simp;omega
theorem DI.chg {half depth gr : Nat} {ins : List Int} (h : DI half depth gr ins Y) {k i : Nat} {b : GX} {u : V} (hb : Y.ds[k]? = some b) (hu : Vl Y u) : DI half depth gr ins (chS Y k b i u) := by
 have hbm := List.mem_of_getElem? hb
 have hmem : ∀ c ∈ Y.ds.set k { b with fs := b.fs.set i u },c ∈ Y.ds \/ c.fs = b.fs.set i u := fun c hc => by
  rcases List.mem_or_eq_of_mem_set hc with h1 | h1
  ·exact .inl h1
  ·exact .inr (by rw [h1])
 have hl : (chS Y k b i u).ds.length = Y.ds.length := List.length_set ..
 refine ⟨h.words,h.hm,h.depth,h.dm,h.fuel,h.ins,h.sm,by rw [hl];exact h.dlen,h.gcs,h.rl,by rw [hl];exact h.rv,by rw [hl];exact h.sv,fun c hc j hj => ?_,fun c hc => ?_,h.sl,h.fs,h.out,h.rd⟩
 ·rw [hl]
  rcases hmem c hc with h1 | h1
  ·exact h.fv c h1 j hj
  ·rw [h1] at hj
   exact (jcd hj).elim (fun e => hu j e) (h.fv b hbm j)
 ·rcases hmem c hc with h1 | h1
  ·exact h.fl c h1
  ·rw [h1,List.length_set];exact h.fl b hbm
theorem DI.bld {half depth gr : Nat} {ins : List Int} (h : DI half depth gr ins Y) {u g q n b : Nat} {f : Int} {v : V} {vk vv : Value} (hlen : Y.ds.length + 1 <= Y.x.steps) (hg : g <= Y.x.steps) (hn : n <= 2048) (hv : Vl Y v) : DI half depth gr ins (jcG Y u g q n f v vk b vv) := by
 have hl : (jcG Y u g q n f v vk b vv).ds.length = Y.ds.length + 1 := by unfold jcG;simp
 have hmem : ∀ c ∈ Y.ds ++ [(⟨List.replicate n v,f,b,vv⟩ : GX)],c ∈ Y.ds \/ c.fs = List.replicate n v := fun c hc => by
  rcases List.mem_append.1 hc with hc | hc
  ·exact .inl hc
  ·rw [List.mem_singleton] at hc
   exact .inr (by rw [hc])
 refine ⟨h.words,h.hm,h.depth,h.dm,h.fuel,h.ins,h.sm,by rw [hl];exact hlen,hg,(List.length_set ..).trans h.rl,fun i hi => ?_,fun f' hf' i hi => ?_,fun c hc j hj => ?_,fun c hc => ?_,h.sl,h.fs,h.out,h.rd⟩
 ·rw [hl]
  rcases jcd (show V.b i ∈ Y.regs.set q (.b Y.ds.length) from hi) with e | e
  ·cases e;omega
  ·have := h.rv i e;omega
 ·rw [hl]
  have := h.sv f' hf' i hi
  omega
 ·rw [hl]
  rcases hmem c hc with h1 | h1
  ·have := h.fv c h1 j hj
   omega
  ·rw [h1,List.mem_replicate] at hj
   have := hv j hj.2.symm
   omega
 ·rcases hmem c hc with h1 | h1
  ·exact h.fl c h1
  ·rw [h1,List.length_replicate];exact hn
theorem JH {half depth : Nat} {ins : List Int} {m : Mc} {bs : List DB} {u : Nat} {e : Ef} (h : ef s (bkD bs) ins m = e) (h1 : ∀ r n f v,e ≠ .make r n f v) (h2 : ∀ i a v,e ≠ .fld i a v) : JN s half depth ins m bs u (ap s depth m e) bs u := by
 unfold JN
 rw [h]
 cases e with
 | make r n f v => exact absurd rfl (h1 r n f v)
 | fld i a v => exact absurd rfl (h2 i a v)
 | reg r v => exact ⟨rfl,rfl,rfl⟩
 | slot x v => exact ⟨rfl,rfl,rfl⟩
 | both x r v => exact ⟨rfl,rfl,rfl⟩
 | jump pc => exact ⟨rfl,rfl,rfl⟩
 | skip => exact ⟨rfl,rfl,rfl⟩
 | stop e p => exact ⟨rfl,rfl,rfl⟩
 | prn z => exact ⟨rfl,rfl,rfl⟩
 | inp r z => exact ⟨rfl,rfl,rfl⟩
 | call f t => exact ⟨rfl,rfl,rfl⟩
 | ret => exact ⟨rfl,rfl,rfl⟩
 | done z => exact ⟨rfl,rfl,rfl⟩
def DP (s : ByteArray) (half depth gr : Nat) (ins : List Int) (κ : Kp) (m : Nat) (Y : Dt) (w : World) (e : Ending) (w' : World) : Prop :=
 e = .returned (.tuple #[]) /\ ∃ κ' Y',Fr0 κ κ' w w' /\ DM s w' m κ' Y' /\ JN s half depth ins (jl Y) (dsD Y) Y.x.used (jl Y') (dsD Y') Y'.x.used /\ Y'.x.fuel = gr /\ Y'.out.length <= 16 /\ (Y'.x.err = 42 -> DI half depth gr ins Y')
theorem JB (s : ByteArray) (half depth gr : Nat) (ins : List Int) (κ : Kp) (m : Nat) (Y : Dt) : Good κ (DP s half depth gr ins κ m Y) :=
 ⟨fun W e w' h => h.1,fun w W e w' hf ⟨h1,κ',X',h2,h3⟩ => ⟨h1,κ',X',Fr0.trans hf h2,h3⟩⟩
theorem DP.ok {half depth gr : Nat} {ins : List Int} {Y Y' : Dt} {w w' : World} {e : Ending} (ho : DOk s κ w m Y' e w') (hI : DI half depth gr ins Y') (hs : JN s half depth ins (jl Y) (dsD Y) Y.x.used (jl Y') (dsD Y') Y'.x.used) : DP s half depth gr ins κ m Y w e w' := by
 obtain ⟨h1,κ',h2,h3⟩ := ho
 exact ⟨h1,κ',Y',h3,h2,hs,hI.fuel,hI.out,fun _ => hI⟩
theorem DP.nw {half depth gr : Nat} {ins : List Int} {w w' : World} {e : Ending} {P : Dt -> Prop} (ho : e = .returned (.tuple #[]) /\ DNw s κ w m P w') (hI : ∀ Y',P Y' -> DI half depth gr ins Y') (hs : ∀ Y',P Y' -> JN s half depth ins (jl Y) (dsD Y) Y.x.used (jl Y') (dsD Y') Y'.x.used) : DP s half depth gr ins κ m Y w e w' := by
 obtain ⟨h1,κ',Y',hP,h2,h3⟩ := ho
 exact ⟨h1,κ',Y',h3,h2,hs Y' hP,(hI Y' hP).fuel,(hI Y' hP).out,fun _ => hI Y' hP⟩
structure Ds (s : ByteArray) (half depth gr : Nat) (ins : List Int) (w : World) (m : Nat) (κ : Kp) (Y : Dt) (l : List HX) (f : HX) (op q x y p : Nat) : Prop where
 dl : DL s w m κ (stD Y) l f
 di : DI half depth gr ins Y
 hs : Y.x.steps < 65536
 err : Y.x.err = 42
 ef : ∀ bk,Ko.ef s bk ins (jl Y) = efO s bk ins (jl Y) op q x y p
 used : Y.x.used <= 4096
section
variable {s : ByteArray} {half depth gr : Nat} {ins : List Int} {w w1 w2 : World} {m : Nat} {κ : Kp} {Y : Dt} {l : List HX} {f : HX} {op q x y p : Nat} {e : Ending}
theorem Ds.rg (h : Ds s half depth gr ins w m κ Y l f op q x y p) {z : Nat} (hz : z < 8) : Y.regs[z]? = some (Ko.rg Y.regs z) := Jx (by rw [h.di.rl];exact hz)
theorem Ds.vl (h : Ds s half depth gr ins w m κ Y l f op q x y p) {z : Nat} (hz : z < 8) : Vl Y (Ko.rg Y.regs z) := fun i e => h.di.rv i (e ▸ List.mem_of_getElem? (h.rg hz))
theorem Ds.bk (h : Ds s half depth gr ins w m κ Y l f op q x y p) {z i : Nat} (hz : z < 8) (e : Ko.rg Y.regs z = .b i) : ∃ b,Y.ds[i]? = some b := ⟨_,List.getElem?_eq_getElem (h.vl hz i e)⟩
theorem Ds.reg (h : Ds s half depth gr ins w m κ Y l f op q x y p) {v : V} (ho : DOk s κ w1 m (rgS (jM Y) q v) e w2) (hv : Vl Y v) (he : Ko.ef s (bkD (dsD Y)) ins (jl Y) = .reg q v) : DP s half depth gr ins κ m Y w1 e w2 :=
 DP.ok ho ((h.di.on h.hs).reg hv) (JH he (fun _ _ _ _ h => by cases h) (fun _ _ _ h => by cases h))
theorem Ds.stop (h : Ds s half depth gr ins w m κ Y l f op q x y p) {er ps : Nat} (ho : DOk s κ w1 m (jF (jM Y) er ps) e w2) (hne : er ≠ 42) (he : Ko.ef s (bkD (dsD Y)) ins (jl Y) = .stop er ps) : DP s half depth gr ins κ m Y w1 e w2 := by
 obtain ⟨h1,κ',h2,h3⟩ := ho
 exact ⟨h1,κ',_,h3,h2,JH he (fun _ _ _ _ h => by cases h) (fun _ _ _ h => by cases h),h.di.fuel,h.di.out,fun h => absurd h hne⟩
theorem jaK {i : Nat} {b : GX} (h : Y.ds[i]? = some b) : bkD (dsD Y) i = (b.fs,b.fn) := by unfold bkD dsD;rw [List.getElem?_map,h];rfl
theorem Ds.fld (h : Ds s half depth gr ins w m κ Y l f op q x y p) {i a : Nat} {b : GX} {t : V} (hb : Y.ds[i]? = some b) (ht : Vl Y t) (ho : DOk s κ w1 m (chS (jM Y) i b a t) e w2) (he : Ko.ef s (bkD (dsD Y)) ins (jl Y) = .fld i a t) : DP s half depth gr ins κ m Y w1 e w2 := by
 refine DP.ok ho ((h.di.on h.hs).chg hb ht) ?_
 unfold JN
 rw [he]
 refine ⟨rfl,?_,rfl⟩
 show (Y.ds.set i { b with fs := b.fs.set a t }).map _ = _
 unfold jaY dsD
 rw [List.getElem?_map,hb]
 simp only [Option.map_some]
 rw [List.map_set]
end
end Ko
end Go.Proofs.YtjmgolahkgalbaaGreatDoor
