import Derived.Test.YtjmgolahkgalbaaGreatDoorS26
import Derived.Test.YtjmgolahkgalbaaGreatDoorS34
import Derived.Test.YtjmgolahkgalbaaGreatDoorS36
import Derived.Test.YtjmgolahkgalbaaGreatDoorS39
import Derived.Deep.OwnRows
import Derived.Laws.CopyOwn
set_option linter.unusedVariables false
set_option linter.unusedSimpArgs false
set_option maxHeartbeats 20000000
namespace Go.Proofs.YtjmgolahkgalbaaGreatDoor
open Go.RowKit Li Ro
variable {s : ByteArray} {w : World}
def Jn (n : Nat) (f : Nat -> Bool) : Array Value := (Array.range n).map fun i => .bool (f i)
theorem jaZ (n : Nat) (f : Nat -> Bool) : (Jn n f).size = n := by simp [Jn]
theorem ja0 {n i : Nat} {f : Nat -> Bool} (h : i < n) : (Jn n f)[i]? = some (.bool (f i)) := by simp [Jn,h]
theorem jfG {n i : Nat} {f : Nat -> Bool} {v : Bool} : (Jn n f).setIfInBounds i (.bool v) = Jn n (fun j => if j = i then v else f j) := by
 apply Array.ext_getElem?
 intro j
 rw [Array.getElem?_setIfInBounds]
 by_cases e : i = j
 ·subst e
  rw [if_pos rfl,jaZ]
  by_cases h : i < n
  ·rw [if_pos h,ja0 h,if_pos rfl]
  ·rw [if_neg h,Array.getElem?_eq_none (by rw [jaZ];omega)]
 ·rw [if_neg e]
  by_cases h : j < n
  ·rw [ja0 h,ja0 h,if_neg (fun e' => e e'.symm)]
  ·rw [Array.getElem?_eq_none (by rw [jaZ];omega),Array.getElem?_eq_none (by rw [jaZ];omega)]
theorem jaJ {n : Nat} {f g : Nat -> Bool} (h : ∀ i,i < n -> f i = g i) : Jn n f = Jn n g := by
 apply Array.ext_getElem?
 intro j
 by_cases hj : j < n
 ·rw [ja0 hj,ja0 hj,h j hj]
 ·rw [Array.getElem?_eq_none (by rw [jaZ];omega),Array.getElem?_eq_none (by rw [jaZ];omega)]
theorem jfH (n : Nat) : madeCells #[.bool false] n = Jn n (fun _ => false) := by
 apply Array.ext_getElem?
 intro j
 by_cases hj : j < n
 ·rw [ja0 hj];simp [madeCells,hj,Nat.mod_one]
 ·rw [Array.getElem?_eq_none (by rw [size_madeCells];omega),Array.getElem?_eq_none (by rw [jaZ];omega)]
def BR (w : World) (b n : Nat) (f : Nat -> Bool) : Prop := w.heap[b]? = some (.cells (Jn n f) 4 (0,0))
theorem BR.at {b n : Nat} {f : Nat -> Bool} (h : BR w b n f) {i : Nat} (hi : i < n) : w.cell? ⟨b,i,none⟩ = some (.bool (f i)) := ja h i (ja0 hi)
theorem BR.set {b n : Nat} {f : Nat -> Bool} (h : BR w b n f) (i : Nat) (v : Bool) : BR (w.setCell ⟨b,i,none⟩ (.bool v)) b n (fun j => if j = i then v else f j) := by
 unfold BR at *
 rw [jf h i (.bool v),jfG]
def Jw (B L : Nat -> Bool) (i : Nat) : Bool := (List.range i).any fun j => B j && !L j
theorem jgj (B L : Nat -> Bool) (i : Nat) : Jw B L (i + 1) = (Jw B L i || (B i && !L i)) := by simp [Jw,List.range_succ,List.any_append]
theorem jb8 {B L : Nat -> Bool} {n : Nat} (h : Jw B L n = false) : ∀ i,i < n -> B i = true -> L i = true := fun i hi hb => by
 unfold Jw at h
 rw [List.any_eq_false] at h
 have := h i (List.mem_range.2 hi)
 rw [hb] at this
 cases hl : L i with
 | true => rfl
 | false => rw [hl] at this;exact absurd rfl this
theorem jb7 {B L : Nat -> Bool} {n : Nat} (h : Jw B L n = true) : ∃ i,i < n /\ B i = true /\ L i = false := by
 unfold Jw at h
 rw [List.any_eq_true] at h
 obtain ⟨i,hi,h2⟩ := h
 rw [Bool.and_eq_true,Bool.not_eq_true'] at h2
 exact ⟨i,List.mem_range.1 hi,h2.1,h2.2⟩
set_option maxRecDepth 100000 in
theorem jgi {op r x y p ga gb n ca cb : Nat} {A B : Nat -> Bool} (hop : op < 256) (hx : x < 65536) (hn : n <= 2000) (hab : ga ≠ gb) (hA : BR w ga n A) (hB : BR w gb n B) (hca : n <= ca) (hcb : n <= cb) :
 Calls Tryz.prog 75 #[.agg #[.int .i64 op,.int .i64 r,.int .i64 x,.int .i64 y,.int .i64 p],.slice (some ⟨ga,0,none⟩) n ca,.slice (some ⟨gb,0,none⟩) n cb] w fun e w' => e = .returned (.bool (Jw B (afO op r x A) n)) /\ BR w' gb n (fun i => B i && afO op r x A i) /\ Lone gb w w' := by
 have hga := lt_of_block hA
 have hgb := lt_of_block hB
 have HA := jH hA
 have HB := jH hB
 have H0 : Hid (∀ o : Obj,Below w.heap.size w (w.alloc o)) := fun o => jB.alloc jN _
 have CY : Hid (∀ W,Calls Tryz.prog 98 #[.agg #[.int .i64 op,.int .i64 r,.int .i64 x,.int .i64 y,.int .i64 p]] W fun e w' => e = .returned (.int .i64 (lyI op r x)) /\ Below W.heap.size W w') := fun W => jjs hop hx
 have CO : Hid (∀ (i : Nat) W,i < 65536 -> Calls Tryz.prog 99 #[.agg #[.int .i64 op,.int .i64 r,.int .i64 x,.int .i64 y,.int .i64 p],.int .i64 i] W fun e w' => e = .returned (.bool (loO op x i)) /\ Below W.heap.size W w') := fun i W hi => jiO hop hx hi
 have HAF : Hid (∀ i,afO op r x A i = (lyO op r x i || (A i && !loO op x i))) := fun _ => rfl
 have HLY : Hid (∀ i : Nat,((i : Int) == lyI op r x) = lyO op r x i) := fun i => jiM
 generalize afO op r x A = L at *
 generalize lyI op r x = ti at *
 have HLO := jH (show ∀ i,loO op x i = loO op x i from fun _ => rfl)
 clear hA hB HLO
 go_enter Tryz.func75,Tryz.ntmps75
 go_wp2_with (go_at_call 98;refine (CY.out _).mono ?_;rintro _ w1 ⟨rfl,hb1⟩;have HBX1 := jH (jc (jg w _) hb1 (by rw [World.size_alloc];omega));have HB01 := jH ((H0.out _).trans (hb1.mono (by rw [World.size_alloc];omega)));clear hb1)
 go_loopg [7,9] n (fun gh s7 s9 (wr : World) => ∃ i : Nat,i <= n /\ gh = n - i /\ s9 = .int .i64 i /\ s7 = .bool (Jw B L i) /\ BR wr gb n (fun j => if j < i then B j && L j else B j) /\ BR wr ga n A /\ wr.heap[w.heap.size]? = some (.cells #[.int .i64 op,.int .i64 r,.int .i64 x,.int .i64 y,.int .i64 p] 60 (0,0)) /\ Lone gb w wr)
 case atStart =>
  refine ⟨0,by omega,rfl,rfl,rfl,?_,jc HA.out HB01.out hga,HBX1.out,Lone.of HB01.out (by omega)⟩
  have : BR w1 gb n B := jc HB.out HB01.out hgb
  unfold BR at *
  rw [this,jaJ (g := fun j => if j < 0 then B j && L j else B j) (fun j _ => by rw [if_neg (by omega)])]
 case round =>
  obtain ⟨i,hi,hgi,rfl,rfl,hBi,hAi,hbx,hlo⟩ := hrel
  have hs1 := hlo.size
  have e0 := ja hbx 0 rfl
  have e1 := ja hbx 1 rfl
  have e2 := ja hbx 2 rfl
  have e3 := ja hbx 3 rfl
  have e4 := ja hbx 4 rfl
  simp only [List.getElem_toArray,List.getElem_cons_zero,List.getElem_cons_succ] at e0 e1 e2 e3 e4
  have HBI := jH hBi
  have HAI := jH hAi
  have HBX := jH hbx
  have HLO := jH hlo
  have hsx := lt_of_block hbx
  clear hBi hAi hbx hlo
  by_cases hlt : i < n
  ·have g1 : (i : Int) < (n : Int) := by omega
   obtain ⟨lo,hlo⟩ : ∃ lo,loO op x i = lo := ⟨_,rfl⟩
   obtain ⟨ly,hly⟩ : ∃ ly,lyO op r x i = ly := ⟨_,rfl⟩
   obtain ⟨av,hav⟩ : ∃ av,A i = av := ⟨_,rfl⟩
   obtain ⟨bv,hbv⟩ : ∃ bv,B i = bv := ⟨_,rfl⟩
   have HLI : Hid (L i = (ly || (av && !lo))) := by show _ = _;rw [HAF.out,hly,hav,hlo]
   have CO2 : Hid (Calls Tryz.prog 99 #[.agg #[.int .i64 op,.int .i64 r,.int .i64 x,.int .i64 y,.int .i64 p],.int .i64 i] wr fun e w' => e = .returned (.bool lo) /\ Below wr.heap.size wr w') := by rw [<- hlo];exact CO.out i wr (by omega)
   have hti : ((i : Int) == ti) = ly := by rw [HLY.out];exact hly
   have HBV := jH hbv
   have HSU : Hid (Jw B L (i + 1) = (Jw B L i || (bv && !(ly || (av && !lo))))) := by show _ = _;rw [jgj,hbv,HLI.out]
   have HNB : Hid (∀ w',BR w' gb n (fun j => if j < i then B j && L j else B j) -> bv = false \/ (ly || (av && !lo)) = true -> BR w' gb n (fun j => if j < i + 1 then B j && L j else B j)) := fun w' h hh => by
    unfold BR at *
    rw [h,jaJ]
    intro j _
    by_cases e : j = i
    ·subst e
     rw [if_neg (by omega),if_pos (by omega),hbv,HLI.out]
     rcases hh with hh | hh <;> rw [hh] <;> simp
    ·by_cases e2 : j < i
     ·rw [if_pos e2,if_pos (by omega)]
     ·rw [if_neg e2,if_neg (by omega)]
   have HNS : Hid (∀ w',BR w' gb n (fun j => if j < i then B j && L j else B j) -> (ly || (av && !lo)) = false -> BR (w'.setCell ⟨gb,i,none⟩ (.bool false)) gb n (fun j => if j < i + 1 then B j && L j else B j)) := fun w' h hh => by
    have h2 := h.set i false
    unfold BR at *
    rw [h2,jaJ]
    intro j _
    by_cases e : j = i
    ·subst e
     rw [if_pos rfl,if_pos (by omega),HLI.out,hh];simp
    ·rw [if_neg e]
     by_cases e2 : j < i
     ·rw [if_pos e2,if_pos (by omega)]
     ·rw [if_neg e2,if_neg (by omega)]
   have cA : ∀ w',Below wr.heap.size wr w' -> w'.cell? ⟨ga,i,none⟩ = some (.bool av) := fun w' h => by rw [<- hav];exact BR.at (jc HAI.out h (by omega)) hlt
   have cB : ∀ w',Below wr.heap.size wr w' -> w'.cell? ⟨gb,i,none⟩ = some (.bool bv) := fun w' h => by
    have := BR.at (jc HBI.out h (by omega)) hlt
    rw [if_neg (by omega),hbv] at this;exact this
   have HCA := jH cA
   have HCB := jH cB
   clear hlo hly hav hbv cA cB
   cases bv <;> cases ly <;> cases av <;> cases lo
   all_goals
    go_wp2_with (go_at_call 99;refine CO2.out.mono ?_;rintro _ w2 ⟨rfl,hb2⟩;have k1 := HCA.out _ hb2;have k2 := HCB.out _ hb2;have f2 : w2.frozen? ⟨gb,i,none⟩ = false := (je (jc HBI.out hb2 (by omega)) i);have HL2 := jH (HLO.out.trans (Lone.of hb2 (by omega)));have HX2 := jH (jc HBX.out hb2 hsx);have HI2 : Hid (BR w2 gb n (fun j => if j < i then B j && L j else B j)) := (jc HBI.out hb2 (by omega));have HA2 : Hid (BR w2 ga n A) := (jc HAI.out hb2 (by omega)))
    go_roundg (n - (i + 1))
    case measure => omega
    case rel =>
     first
      | exact ⟨i + 1,by omega,rfl,by go_num,by rw [HSU.out];simp,HNB.out _ HI2.out (by simp),HA2.out,HX2.out,HL2.out⟩
      | exact ⟨i + 1,by omega,rfl,by go_num,by rw [HSU.out];simp,HNS.out _ HI2.out (by simp),(Below.heap_setCell _ _ _ _ (show ga ≠ gb from hab)).trans HA2.out,(Below.heap_setCell _ _ _ _ (show w.heap.size ≠ gb by omega)).trans HX2.out,HL2.out.set _ _⟩
  ·have hin : i = n := by omega
   subst hin
   go_wp2_with fail
   go_ret
   refine ⟨rfl,?_,HLO.out⟩
   have h := HBI.out
   unfold BR at *
   rw [h,jaJ]
   intro j hj
   rw [if_pos hj]
theorem J1.on {w w' : World} {p : Nat} {vF vN vL : Value} (h : J1 s w p vF vN vL) (hb : Below w.heap.size w w') : J1 s w' p vF vN vL := ⟨jc h.blk hb (lt_of_block h.blk),own_below h.funs hb,own_below h.nums hb,own_below h.lines hb⟩
theorem jaV (w : World) (o : Obj) (xs : List Nat) (hx : xs.length <= 10) : ((w.alloc o).alloc (.cells (inV xs).toArray 3)).ownsRow w.heap.size 3 1 (.slice (some ⟨w.heap.size + 1,0,none⟩) xs.length xs.length) xs.length (inV xs) := by
 have h := jg (w.alloc o) (.cells (inV xs).toArray 3)
 rw [World.size_alloc] at h
 have := jev (base := w.heap.size) h (by omega) (by rw [je8];unfold maxLen;omega)
 rw [je8] at this
 exact this
theorem jaH (w : World) (o o2 : Obj) : Below w.heap.size w ((w.alloc o).alloc o2) := (jB.alloc jN _).alloc (by rw [World.size_alloc];omega) _
theorem lit7 (w : World) (o : Obj) : ((w.alloc o).alloc (.cells (inV [7]).toArray 3)).ownsRow (w.heap.size + 1) 3 1 (.slice (some ⟨w.heap.size + 1,0,none⟩) 1 1) 1 (inV [7]) := by
 have h := jg (w.alloc o) (.cells (inV [7]).toArray 3)
 rw [World.size_alloc] at h
 exact jev (base := w.heap.size + 1) h (by omega) (by unfold maxLen;simp [inV])
def jac (w w' : World) (l : List Nat) (e : Ending) : Prop := ∃ v,e = .returned v /\ w'.ownsRow w.heap.size 3 1 v l.length (inV l) /\ Below w.heap.size w w'
set_option maxRecDepth 100000 in
theorem jhs {b op r x y p : Nat} (hop : op = 1 \/ op = 6 \/ op = 17 \/ op = 19 \/ op = 20 \/ op = 28) :
 Calls Tryz.prog 76 #[.pointer (some ⟨b,0,none⟩),.agg #[.int .i64 op,.int .i64 r,.int .i64 x,.int .i64 y,.int .i64 p]] w fun e w' => jac w w' (rdO s op r x y) e := by
 have HE : Hid (rdO s op r x y = []) := by show _ = _;rcases hop with rfl | rfl | rfl | rfl | rfl | rfl <;> simp [rdO]
 rw [HE.out]
 clear HE
 rcases hop with rfl | rfl | rfl | rfl | rfl | rfl
 all_goals
  go_enter Tryz.func76,Tryz.ntmps76
  go_wp2_with fail
  go_ret
  exact ⟨_,rfl,World.ownsRow_nil _ _ _ _,jB.alloc jN _⟩
set_option maxRecDepth 100000 in
theorem jhn {b op r x y p : Nat} (hop : op = 3 \/ op = 4) (hx : x < 65536) :
 Calls Tryz.prog 76 #[.pointer (some ⟨b,0,none⟩),.agg #[.int .i64 op,.int .i64 r,.int .i64 x,.int .i64 y,.int .i64 p]] w fun e w' => jac w w' (rdO s op r x y) e := by
 have HE : Hid (rdO s op r x y = [8 + x]) := by show _ = _;rcases hop with rfl | rfl <;> simp [rdO]
 rw [HE.out]
 clear HE
 rcases hop with rfl | rfl
 all_goals
  go_enter Tryz.func76,Tryz.ntmps76
  go_wp2_with fail
  go_ret
  exact ⟨_,rfl,jaV w _ [8 + x] (by simp),jaH _ _ _⟩
set_option maxRecDepth 100000 in
theorem jhm {b op r x y p : Nat} (hop : op = 2 \/ op = 15 \/ op = 16 \/ op = 22 \/ op = 26) :
 Calls Tryz.prog 76 #[.pointer (some ⟨b,0,none⟩),.agg #[.int .i64 op,.int .i64 r,.int .i64 x,.int .i64 y,.int .i64 p]] w fun e w' => jac w w' (rdO s op r x y) e := by
 have HE : Hid (rdO s op r x y = [x]) := by show _ = _;rcases hop with rfl | rfl | rfl | rfl | rfl <;> simp [rdO]
 rw [HE.out]
 clear HE
 rcases hop with rfl | rfl | rfl | rfl | rfl
 all_goals
  go_enter Tryz.func76,Tryz.ntmps76
  go_wp2_with fail
  go_ret
  exact ⟨_,rfl,jaV w _ [x] (by simp),jaH _ _ _⟩
set_option maxRecDepth 100000 in
theorem jhr {b op r x y p : Nat} (hop : op = 5 \/ op = 18 \/ op = 27) :
 Calls Tryz.prog 76 #[.pointer (some ⟨b,0,none⟩),.agg #[.int .i64 op,.int .i64 r,.int .i64 x,.int .i64 y,.int .i64 p]] w fun e w' => jac w w' (rdO s op r x y) e := by
 have HE : Hid (rdO s op r x y = [r]) := by show _ = _;rcases hop with rfl | rfl | rfl <;> simp [rdO]
 rw [HE.out]
 clear HE
 rcases hop with rfl | rfl | rfl
 all_goals
  go_enter Tryz.func76,Tryz.ntmps76
  go_wp2_with fail
  go_ret
  exact ⟨_,rfl,jaV w _ [r] (by simp),jaH _ _ _⟩
set_option maxRecDepth 100000 in
theorem jhl {b op r x y p : Nat} (hop : op = 7 \/ op = 8 \/ op = 9 \/ op = 10 \/ op = 11 \/ op = 12 \/ op = 13 \/ op = 14 \/ op = 23 \/ op = 24) :
 Calls Tryz.prog 76 #[.pointer (some ⟨b,0,none⟩),.agg #[.int .i64 op,.int .i64 r,.int .i64 x,.int .i64 y,.int .i64 p]] w fun e w' => jac w w' (rdO s op r x y) e := by
 have HE : Hid (rdO s op r x y = [x,y]) := by show _ = _;rcases hop with rfl | rfl | rfl | rfl | rfl | rfl | rfl | rfl | rfl | rfl <;> simp [rdO]
 rw [HE.out]
 clear HE
 rcases hop with rfl | rfl | rfl | rfl | rfl | rfl | rfl | rfl | rfl | rfl
 all_goals
  go_enter Tryz.func76,Tryz.ntmps76
  go_wp2_with fail
  go_ret
  exact ⟨_,rfl,jaV w _ [x,y] (by simp),jaH _ _ _⟩
set_option maxRecDepth 100000 in
theorem jho {b op r x y p : Nat} (hop : op = 21) :
 Calls Tryz.prog 76 #[.pointer (some ⟨b,0,none⟩),.agg #[.int .i64 op,.int .i64 r,.int .i64 x,.int .i64 y,.int .i64 p]] w fun e w' => jac w w' (rdO s op r x y) e := by
 have HE : Hid (rdO s op r x y = [r,y]) := by show _ = _;rcases hop with rfl <;> simp [rdO]
 rw [HE.out]
 clear HE
 rcases hop with rfl
 all_goals
  go_enter Tryz.func76,Tryz.ntmps76
  go_wp2_with fail
  go_ret
  exact ⟨_,rfl,jaV w _ [r,y] (by simp),jaH _ _ _⟩
set_option maxRecDepth 100000 in
theorem jhp {b op r x y p : Nat} (hop : op = 25) :
 Calls Tryz.prog 76 #[.pointer (some ⟨b,0,none⟩),.agg #[.int .i64 op,.int .i64 r,.int .i64 x,.int .i64 y,.int .i64 p]] w fun e w' => jac w w' (rdO s op r x y) e := by
 have HE : Hid (rdO s op r x y = [r,x,y]) := by show _ = _;rcases hop with rfl <;> simp [rdO]
 rw [HE.out]
 clear HE
 rcases hop with rfl
 all_goals
  go_enter Tryz.func76,Tryz.ntmps76
  go_wp2_with fail
  go_ret
  exact ⟨_,rfl,jaV w _ [r,x,y] (by simp),jaH _ _ _⟩
set_option maxRecDepth 100000 in
theorem jhq {b op r x y p : Nat} (hop : op = 33) :
 Calls Tryz.prog 76 #[.pointer (some ⟨b,0,none⟩),.agg #[.int .i64 op,.int .i64 r,.int .i64 x,.int .i64 y,.int .i64 p]] w fun e w' => jac w w' (rdO s op r x y) e := by
 have HE : Hid (rdO s op r x y = [0]) := by show _ = _;rcases hop with rfl <;> simp [rdO]
 rw [HE.out]
 clear HE
 rcases hop with rfl
 all_goals
  go_enter Tryz.func76,Tryz.ntmps76
  go_wp2_with fail
  go_ret
  exact ⟨_,rfl,jaV w _ [0] (by simp),jaH _ _ _⟩
set_option maxRecDepth 100000 in
theorem jhu {b op r x y p : Nat} {vF vN vL : Value} (hat : J1 s w b vF vN vL) (hop : op = 29 \/ op = 31) (hx : x < hF s) (hr1 : r1 s x <= 4) :
 Calls Tryz.prog 76 #[.pointer (some ⟨b,0,none⟩),.agg #[.int .i64 op,.int .i64 r,.int .i64 x,.int .i64 y,.int .i64 p]] w fun e w' => jac w w' (rdO s op r x y) e := by
 have HE : Hid (rdO s op r x y = tkF s x) := by show _ = _;rcases hop with rfl | rfl <;> simp [rdO]
 rw [HE.out]
 clear HE
 have H0 : Hid (∀ o : Obj,Below w.heap.size w (w.alloc o)) := fun o => jB.alloc jN _
 have C : Hid (∀ o : Obj,Calls Tryz.prog 74 #[.pointer (some ⟨b,0,none⟩),.int .i64 x] (w.alloc o) fun e w' => jac w w' (tkF s x) e) := fun o => by
  refine (jdU (hat.on (H0.out o)) hx hr1).mono ?_
  rintro e w' ⟨v,rfl,h1,h2⟩
  refine ⟨v,rfl,⟨h1.1,?_⟩,(H0.out o).trans (h2.mono (by rw [World.size_alloc];omega))⟩
  rcases h1.2 with h | ⟨g,cap,cur,a1,a2,a3⟩
  ·exact .inl h
  ·exact .inr ⟨g,cap,cur,a1,by rw [World.size_alloc] at a2;omega,a3⟩
 clear hat
 rcases hop with rfl | rfl
 all_goals
  go_enter Tryz.func76,Tryz.ntmps76
  go_wp2_with (go_at_call 74;refine (C.out _).mono ?_;rintro _ w1 ⟨v,rfl,h1,h2⟩)
  go_ret
  exact ⟨_,rfl,h1,h2⟩
set_option maxRecDepth 100000 in
theorem jht {b op r x y p : Nat} (hop : op = 30 \/ op = 32) (hx : x <= 4) :
 Calls Tryz.prog 76 #[.pointer (some ⟨b,0,none⟩),.agg #[.int .i64 op,.int .i64 r,.int .i64 x,.int .i64 y,.int .i64 p]] w fun e w' => jac w w' (rdO s op r x y) e := by
 have HE : Hid (rdO s op r x y = 7 :: List.range x) := by show _ = _;rcases hop with rfl | rfl <;> simp [rdO]
 rw [HE.out]
 clear HE
 obtain ⟨i0,hi0,hz0,hz1,hz2⟩ := info_parts Tryz.infI
 rcases hop with rfl | rfl
 all_goals
  go_enter Tryz.func76,Tryz.ntmps76
  go_wp2_with fail
  go_loopg [5,6] x (fun gh v s6 (wr : World) => ∃ j : Nat,j <= x /\ gh = x - j /\ s6 = .int .i64 j /\ wr.ownsRow (w.heap.size + 1) 3 1 v (j + 1) (inV (7 :: List.range j)) /\ wr.cell? ⟨w.heap.size,2,none⟩ = some (.int .i64 x) /\ Below w.heap.size w wr /\ Below (w.heap.size + 1) wr wr /\ w.heap.size + 1 <= wr.heap.size)
  case atStart =>
   refine ⟨0,by omega,rfl,rfl,?_,?_,jaH _ _ _,jB,by rw [World.size_alloc,World.size_alloc];omega⟩
   ·exact lit7 w _
   ·exact jT (jg w _) 2 rfl _
  case round =>
   obtain ⟨j,hj,hgj,rfl,hown,hcx,hbw,_,hsz⟩ := hrel
   have HOW := jH hown
   have HBW := jH hbw
   have hsw := hbw.size
   clear hown hbw
   by_cases hlt2 : j < x
   ·go_wp2_with (at_builtin;refine JO _ rfl (.tmp 81) (.tmp 83) 22 rfl (w.heap.size + 1) 3 i0 _ 1 8 Tryz.undI hi0 hz0 hz1 hz2 rfl (by decide) _ _ _ rfl (HOW.out.alloc _) _ 1 1 [.int .i64 (j : Int)] rfl rfl (Ja _ _ _ _ (by simp)) ?_ ?_ ?_ ?_ ?_;(intro u hu;simp at hu;subst hu;rfl);(unfold maxLen;omega);omega;(simp;omega);intro v' w4 hown4 hg4' hrow4)
    have hb4 := jdp ((Below.refl (w.heap.size + 1) wr).alloc hsz (.cells #[.int .i64 (j : Int)] 3 (0,0))) (HOW.out.alloc _) hg4' (by rw [World.size_alloc];omega) jN
    go_roundg (x - (j + 1))
    case measure => omega
    case rel =>
     refine ⟨j + 1,by omega,rfl,by go_num,?_,(hb4.cell (p := ⟨w.heap.size,2,none⟩) (by simp)).trans hcx,HBW.out.trans (hb4.mono (by omega)),jB,by have := hb4.size;omega⟩
     rw [List.range_succ,show (7 :: (List.range j ++ [j])) = (7 :: List.range j) ++ [j] from rfl,jcl]
     exact hown4
   ·have hjP : j = x := by omega
    subst hjP
    go_wp2_with fail
    go_ret
    refine ⟨_,rfl,?_,HBW.out⟩
    rw [show (7 :: List.range j).length = j + 1 by simp]
    refine ⟨HOW.out.1,?_⟩
    have h := HOW.out.2
    rcases h with h | ⟨g,cap,cur,a1,a2,a3⟩
    ·exact .inl h
    ·exact .inr ⟨g,cap,cur,a1,by omega,a3⟩
theorem jhv {b k pc : Nat} {vF vN vL : Value} (hat : J1 s w b vF vN vL) (hrow : bad (jt s) (hF s) 0 = none) (hw : Wl s k pc) :
 Calls Tryz.prog 76 #[.pointer (some ⟨b,0,none⟩),.agg #[.int .i64 (l0 s pc),.int .i64 (l1 s pc),.int .i64 (l2 s pc),.int .i64 (l3 s pc),.int .i64 (l4 s pc)]] w fun e w' => jac w w' (rdL s pc) e := by
 have h1 := hw.f1
 have h3 := hw.op1
 have h4 := hw.op2
 have h5 : l2 s pc < 65536 := ju _ _
 unfold rdL
 generalize l0 s pc = op at *
 generalize l1 s pc = r at *
 generalize l2 s pc = x at *
 generalize l3 s pc = y at *
 generalize l4 s pc = p at *
 by_cases g0 : op = 1 \/ op = 6 \/ op = 17 \/ op = 19 \/ op = 20 \/ op = 28
 ·exact jhs g0
 by_cases g9 : op = 3 \/ op = 4
 ·exact jhn g9 h5
 by_cases g1 : op = 2 \/ op = 15 \/ op = 16 \/ op = 22 \/ op = 26
 ·exact jhm g1
 by_cases g2 : op = 5 \/ op = 18 \/ op = 27
 ·exact jhr g2
 by_cases g3 : op = 7 \/ op = 8 \/ op = 9 \/ op = 10 \/ op = 11 \/ op = 12 \/ op = 13 \/ op = 14 \/ op = 23 \/ op = 24
 ·exact jhl g3
 by_cases g4 : op = 21
 ·exact jho g4
 by_cases g5 : op = 25
 ·exact jhp g5
 by_cases g6 : op = 29 \/ op = 31
 ·have hx : x < hF s := by rcases g6 with rfl | rfl <;> simpa [jo,ruN,rul] using h1
  exact jhu hat g6 hx (j7 hrow hx).1
 by_cases g7 : op = 30 \/ op = 32
 ·exact jht g7 (by rcases g7 with rfl | rfl <;> simpa [jo,ruN,rul] using h1)
 ·exact jhq (by omega)
theorem Tryz.infB : (Tryz.prog.info? 4).map (fun i => (i.zero,i.size,i.bytes)) = some (some (.bool false),1,1) := by kernel_rfl
theorem Tryz.undB : Tryz.prog.underlying 140 = some (.slice 4) := by kernel_rfl
theorem Tryz.infBB : (Tryz.prog.info? 140).map (fun i => (i.zero,i.size,i.bytes)) = some (some (.slice none 0 0),1,24) := by kernel_rfl
theorem Tryz.undBB : Tryz.prog.underlying 139 = some (.slice 140) := by kernel_rfl
def rwV (g : Nat -> Nat) (wd n : Nat) : List Value := (List.range n).map fun j => .slice (some ⟨g j,0,none⟩) wd wd
theorem jgE {g : Nat -> Nat} {wd n j : Nat} (h : j < n) : (rwV g wd n)[j]? = some (.slice (some ⟨g j,0,none⟩) wd wd) := by simp [rwV,h]
theorem jgD {g : Nat -> Nat} {wd n b : Nat} : rwV (fun m => if m = n then b else g m) wd (n + 1) = rwV g wd n ++ [.slice (some ⟨b,0,none⟩) wd wd] := by
 unfold rwV
 rw [List.range_succ,List.map_append]
 congr 1
 ·apply List.map_congr_left
  intro j hj
  rw [List.mem_range] at hj
  have e : ¬ j = n := by omega
  simp [e]
 ·simp
structure j6 (w : World) (base : Nat) (v : Value) (n wd : Nat) (g : Nat -> Nat) (la : Nat -> Nat -> Bool) : Prop where
 own : w.ownsRow base 140 1 v n (rwV g wd n)
 row : ∀ j,j < n -> BR w (g j) wd (la j)
 lo : ∀ j,j < n -> base <= g j
 inj : ∀ i j,i < n -> j < n -> g i = g j -> i = j
theorem j6.ne {base : Nat} {v : Value} {n wd : Nat} {g : Nat -> Nat} {la : Nat -> Nat -> Bool} (h : j6 w base v n wd g la) {b m : Nat} {f : Nat -> Bool} (hb : BR w b m f) : v.ownBlock ≠ some b := fun e => by
 rcases h.own.2 with ⟨h1,_⟩ | ⟨g',cap,cur,h1,_,h3,_⟩
 ·rw [h1] at e;cases e
 ·rw [h1] at e
  injection e with e
  have e' : g' = b := e
  subst e'
  unfold BR at hb
  rw [h3] at hb
  injection hb with hb
  injection hb with _ ht
  exact absurd ht (by decide)
theorem j6.on {w w' : World} {base : Nat} {v : Value} {n wd : Nat} {g : Nat -> Nat} {la : Nat -> Nat -> Bool} (h : j6 w base v n wd g la) (hb : Below w.heap.size w w') : j6 w' base v n wd g la :=
 ⟨own_below h.own hb,fun j hj => jc (h.row j hj) hb (lt_of_block (h.row j hj)),h.lo,h.inj⟩
theorem j6.lone {w w' : World} {base b m : Nat} {v : Value} {n wd : Nat} {g : Nat -> Nat} {la : Nat -> Nat -> Bool} {f : Nat -> Bool} (h : j6 w base v n wd g la) (hb : BR w b m f) (hlo : Lone b w w') (hne : ∀ j,j < n -> g j ≠ b) : j6 w' base v n wd g la :=
 ⟨j3 h.own (fun c hc => hlo.rest c (h.own.lt c hc).2 (fun e => h.ne hb (e ▸ hc))),fun j hj => (hlo.rest (g j) (lt_of_block (h.row j hj)) (hne j hj)).trans (h.row j hj),h.lo,h.inj⟩
theorem j6.upd {w w' : World} {base j : Nat} {v : Value} {n wd : Nat} {g : Nat -> Nat} {la : Nat -> Nat -> Bool} {f : Nat -> Bool} (h : j6 w base v n wd g la) (hj : j < n) (hlo : Lone (g j) w w') (hf : BR w' (g j) wd f) : j6 w' base v n wd g (fun m => if m = j then f else la m) :=
 ⟨j3 h.own (fun c hc => hlo.rest c (h.own.lt c hc).2 (fun e => h.ne (h.row j hj) (e ▸ hc))),fun m hm => by
  by_cases e : m = j
  ·subst e;rw [if_pos rfl];exact hf
  ·rw [if_neg e];exact (hlo.rest (g m) (lt_of_block (h.row m hm)) (fun e' => e (h.inj m j hm hj e'))).trans (h.row m hm),h.lo,h.inj⟩
theorem j6.congr {base : Nat} {v : Value} {n wd : Nat} {g : Nat -> Nat} {la la' : Nat -> Nat -> Bool} (h : j6 w base v n wd g la) (he : ∀ j x,j < n -> x < wd -> la j x = la' j x) : j6 w base v n wd g la' :=
 ⟨h.own,fun j hj => by have := h.row j hj;unfold BR at *;rw [this,jaJ (fun x hx => he j x hj hx)],h.lo,h.inj⟩
theorem j6.cell {base : Nat} {n wd gv cap : Nat} {g : Nat -> Nat} {la : Nat -> Nat -> Bool} (h : j6 w base (.slice (some ⟨gv,0,none⟩) n cap) n wd g la) {j : Nat} (hj : j < n) : w.cell? ⟨gv,j,none⟩ = some (.slice (some ⟨g j,0,none⟩) wd wd) := by
 have := h.own.cellAt j (by omega)
 rw [this]
 exact jgE hj
theorem j6.push {w w' : World} {base b : Nat} {v v' : Value} {n wd : Nat} {g : Nat -> Nat} {la : Nat -> Nat -> Bool} {f : Nat -> Bool} (h : j6 w base v n wd g la) (hf : BR w b wd f) (hb0 : base <= b) (hbn : ∀ j,j < n -> g j ≠ b)
 (hown : w'.ownsRow base 140 1 v' (n + 1) (rwV g wd n ++ [.slice (some ⟨b,0,none⟩) wd wd])) (hk : ∀ c,c < w.heap.size -> v.ownBlock ≠ some c -> w'.heap[c]? = w.heap[c]?) :
 j6 w' base v' (n + 1) wd (fun m => if m = n then b else g m) (fun m => if m = n then f else la m) := by
 refine ⟨by rw [jgD];exact hown,fun j hj => ?_,fun j hj => ?_,fun i j hi hj e => ?_⟩
 ·by_cases e : j = n
  ·subst e;rw [if_pos rfl,if_pos rfl];exact (hk b (lt_of_block hf) (h.ne hf)).trans hf
  ·rw [if_neg e,if_neg e]
   have hr := h.row j (by omega)
   exact (hk (g j) (lt_of_block hr) (h.ne hr)).trans hr
 ·by_cases e : j = n
  ·rw [if_pos e];exact hb0
  ·rw [if_neg e];exact h.lo j (by omega)
 ·by_cases e1 : i = n
  ·by_cases e2 : j = n
   ·omega
   ·rw [if_pos e1,if_neg e2] at e;exact absurd e.symm (hbn j (by omega))
  ·by_cases e2 : j = n
   ·rw [if_neg e1,if_pos e2] at e;exact absurd e (hbn i (by omega))
   ·rw [if_neg e1,if_neg e2] at e;exact h.inj i j (by omega) (by omega) e
theorem jgf {l : List Nat} {i x : Nat} (h : i < l.length) : (l.take (i + 1)).contains x = ((l.take i).contains x || x == l[i]) := by
 rw [List.take_succ_eq_append_getElem h]
 generalize l.take i = m
 generalize l[i] = y
 rw [Bool.eq_iff_iff];simp
def fuB (s : ByteArray) (k : Nat) : Obj := .cells #[.int .i64 (r0 s k),.int .i64 (r1 s k),.int .i64 (r2 s k),.int .i64 (r3 s k),.int .i64 (en s k)] 104 (0,0)
structure FS (s : ByteArray) (k : Nat) (w w' : World) (gv cap cnt wd : Nat) (g : Nat -> Nat) (re : Nat -> Bool) (la : Nat -> Nat -> Bool) : Prop where
 ld : j6 w' (w.heap.size + 2) (.slice (some ⟨gv,0,none⟩) cnt cap) cnt wd g la
 br : BR w' (w.heap.size + 1) cnt re
 bx : w'.heap[w.heap.size]? = some (fuB s k)
 bl : Below w.heap.size w w'
 sz : w.heap.size + 2 <= w'.heap.size
theorem FS.on {k : Nat} {w w1 w2 : World} {gv cap cnt wd : Nat} {g : Nat -> Nat} {re : Nat -> Bool} {la : Nat -> Nat -> Bool} (h : FS s k w w1 gv cap cnt wd g re la) (hb : Below w1.heap.size w1 w2) : FS s k w w2 gv cap cnt wd g re la :=
 ⟨h.ld.on hb,jc h.br hb (lt_of_block h.br),jc h.bx hb (lt_of_block h.bx),h.bl.trans (hb.mono h.bl.size),by have := h.sz;have := hb.size;omega⟩
theorem FS.reach {k : Nat} {w w1 : World} {gv cap cnt wd : Nat} {g : Nat -> Nat} {re : Nat -> Bool} {la : Nat -> Nat -> Bool} (h : FS s k w w1 gv cap cnt wd g re la) (n : Nat) : FS s k w (w1.setCell ⟨w.heap.size + 1,n,none⟩ (.bool true)) gv cap cnt wd g (fun m => if m = n then true else re m) la :=
 ⟨h.ld.lone h.br ((Lone.refl (w.heap.size + 1) w1).set n (.bool true)) (fun j hj => by have := h.ld.lo j hj;omega),h.br.set n true,(Below.heap_setCell _ _ _ _ (show w.heap.size ≠ w.heap.size + 1 by omega)).trans h.bx,h.bl.setCell (p := ⟨w.heap.size + 1,n,none⟩) (show w.heap.size <= w.heap.size + 1 by omega) _,by rw [jy];exact h.sz⟩
theorem FS.struck {k : Nat} {w w1 w2 : World} {gv cap cnt wd n : Nat} {g : Nat -> Nat} {re : Nat -> Bool} {la : Nat -> Nat -> Bool} {f : Nat -> Bool} (h : FS s k w w1 gv cap cnt wd g re la) (hn : n < cnt) (hlo : Lone (g n) w1 w2) (hf : BR w2 (g n) wd f) : FS s k w w2 gv cap cnt wd g re (fun m => if m = n then f else la m) := by
 have h1 := h.ld.lo n hn
 have h2 := h.sz
 exact ⟨h.ld.upd hn hlo hf,(hlo.rest _ (by omega) (by omega)).trans h.br,(hlo.rest _ (by omega) (by omega)).trans h.bx,h.bl.trans (hlo.below.mono (by omega)),by have := hlo.size;omega⟩
theorem FS.la_eq {k : Nat} {w w1 : World} {gv cap cnt wd : Nat} {g : Nat -> Nat} {re : Nat -> Bool} {la la' : Nat -> Nat -> Bool} (h : FS s k w w1 gv cap cnt wd g re la) (he : ∀ j x,j < cnt -> x < wd -> la j x = la' j x) : FS s k w w1 gv cap cnt wd g re la' := ⟨h.ld.congr he,h.br,h.bx,h.bl,h.sz⟩
theorem jgc {k : Nat} (h : r1 s k <= 4) : (tkF s k).length <= 5 := by
 unfold tkF
 rw [List.length_append,List.length_range]
 split <;> simp <;> omega
theorem jhO (hr : bad (jt s) (hF s) 0 = none) {k pc : Nat} (h : Wl s k pc) : (rdL s pc).length <= 10 := by
 unfold rdL
 have h1 := h.f1
 have h3 := h.op1
 have h4 := h.op2
 generalize l0 s pc = op at *
 generalize l1 s pc = r at *
 generalize l2 s pc = x at *
 generalize l3 s pc = y at *
 by_cases g1 : op = 29 \/ op = 31
 ·have hx : x < hF s := by rcases g1 with rfl | rfl <;> simpa [jo,ruN,rul] using h1
  have := jgc (j7 hr hx).1
  have e : rdO s op r x y = tkF s x := by rcases g1 with rfl | rfl <;> simp [rdO]
  rw [e];omega
 ·by_cases g2 : op = 30 \/ op = 32
  ·have hx : x <= 4 := by rcases g2 with rfl | rfl <;> simpa [jo,ruN,rul] using h1
   have e : rdO s op r x y = 7 :: List.range x := by rcases g2 with rfl | rfl <;> simp [rdO]
   rw [e];simp;omega
  ·unfold rdO
   rw [if_neg g1,if_neg g2]
   (repeat' split) <;> simp
end Go.Proofs.YtjmgolahkgalbaaGreatDoor
namespace Go.Proofs.YtjmgolahkgalbaaGreatDoor
namespace Ko
open Go.RowKit Li
def Jr (X : RX) (v : Value) : Array Value := #[.int .i64 X.err,.int .i64 X.pos,.int .i64 X.val,v,.int .i64 X.steps,.int .i64 X.read,.int .i64 X.gcs,.int .i64 X.used]
theorem Tryz.kiRes : (Tryz.prog.info? 30).map (·.size) = some 8 := by kernel_rfl
theorem Tryz.kiIs : (Tryz.prog.info? 3).map (·.size) = some 1 := by kernel_rfl
theorem jby (X : RX) {v : Value} (h : v.oneCell' = true) : (Jr X v).all (·.oneCell') = true := by
 unfold Jr
 simp [h]
 exact ⟨rfl,rfl,rfl,rfl,rfl,rfl,rfl⟩
theorem jiG (n : Nat) (hn : n <= 70000) (w : World) : (Instr.makeSlice 22 (.int .i64 (n : Int)) (.int .i64 (n : Int))).run Tryz.prog w = .ok (.slice (some ⟨w.heap.size,0,none⟩) n n) (w.alloc (.cells (List.replicate n (Value.int .i64 0)).toArray 3)) := by
 obtain ⟨i,hi,hz,hs,hb⟩ := info_parts Tryz.kiI
 have hr := run_make (P := Tryz.prog) w 22 3 i _ Tryz.kuI hi hz .i64 .i64 n n (by omega) (Int.le_refl _) (by rw [hb];omega) (by omega)
 rw [hs] at hr
 simp only [Int.toNat_natCast,Nat.mul_one] at hr
 have e : madeCells (Value.int .i64 0).cells n = (List.replicate n (Value.int .i64 0)).toArray := by
  apply Array.toList_inj.1
  rw [show (Value.int .i64 0).cells = #[.int .i64 0] from rfl,toList_madeCells_one]
 rw [e] at hr
 exact hr
def Told (w w' : World) (out : List Int) (v : Value) : Prop := (out = [] /\ v = .slice none 0 0) \/ (out ≠ [] /\ ∃ b,v = .slice (some ⟨b,0,none⟩) out.length out.length /\ w.heap.size <= b /\ w'.heap[b]? = some (.cells (iV out).toArray 3 (0,0)))
theorem jed {W : World} {tmps : Array Value} {b : Nat} {X : RX} {v : Value} {t : TypeId} {Q : Ending -> World -> Prop} (ht : tmps.getD 2 undef = .pointer (some ⟨b,0,none⟩)) (hb : W.heap[b]? = some (.cells (Jr X v) t (0,0))) (hq : Q (.returned (.agg (Jr X v))) W) :
 bodyPost Tryz.prog Tryz.f27 Q Exit.ret { tmps := tmps,defers := [] } W := by
 have c0 : W.cell? ⟨b,0,none⟩ = some (.int .i64 X.err) := ja hb 0 rfl
 have c1 : W.cell? ⟨b,1,none⟩ = some (.int .i64 X.pos) := ja hb 1 rfl
 have c2 : W.cell? ⟨b,2,none⟩ = some (.int .i64 X.val) := ja hb 2 rfl
 have c3 : W.cell? ⟨b,3,none⟩ = some v := ja hb 3 rfl
 have c4 : W.cell? ⟨b,4,none⟩ = some (.int .i64 X.steps) := ja hb 4 rfl
 have c5 : W.cell? ⟨b,5,none⟩ = some (.int .i64 X.read) := ja hb 5 rfl
 have c6 : W.cell? ⟨b,6,none⟩ = some (.int .i64 X.gcs) := ja hb 6 rfl
 have c7 : W.cell? ⟨b,7,none⟩ = some (.int .i64 X.used) := ja hb 7 rfl
 have ht' : tmps[2]?.getD undef = .pointer (some ⟨b,0,none⟩) := by simpa using ht
 exact bodyPost_ret (v := .agg (Jr X v)) (by simp [results,Tryz.results27,go_sem,ht',c0,c1,c2,c3,c4,c5,c6,c7,Jr]) rfl hq
set_option maxRecDepth 100000 in
theorem jhc {w : World} {r : Nat} {X : RX} {κ : Kp} {out : List Int} (h : RB w r X) (ho : TR w κ (6,0) 3 1 X.vout out.length (iV out)) (hl : out.length <= 1000) :
 Calls Tryz.prog 27 #[.pointer (some ⟨r,0,none⟩)] w fun e w' => ∃ v,e = .returned (.agg (Jr X v)) /\ Told w w' out v /\ Below w.heap.size w w' := by
 have HH := jH h
 have HO := jH ho
 have hlt := jb h
 obtain ⟨a,c,e,hc⟩ := ho.any
 have HE := jH e
 have hmk := jiG out.length (by omega)
 go_enter Tryz.func27,Tryz.ntmps27
 go_upto_region 1 with fail
 have hW : Below w.heap.size w (w.alloc (.cells #[.int .i64 0,.int .i64 0,.int .i64 0,.slice none 0 0,.int .i64 0,.int .i64 0,.int .i64 0,.int .i64 0] 30 (0,0))) := jB.alloc jN _
 have hrs := jg w (.cells #[.int .i64 0,.int .i64 0,.int .i64 0,.slice none 0 0,.int .i64 0,.int .i64 0,.int .i64 0,.int .i64 0] 30 (0,0))
 generalize w.alloc (.cells #[.int .i64 0,.int .i64 0,.int .i64 0,.slice none 0 0,.int .i64 0,.int .i64 0,.int .i64 0,.int .i64 0] 30 (0,0)) = W at hW hrs ⊢
 have HY : Hid (∀ yy : Wd W.heap.size W,Below w.heap.size w yy.v) := fun yy => hW.trans (yy.h.mono hW.size)
 have f29 : ∀ yy : Wd W.heap.size W,yy.v.cell? ⟨r,29,none⟩ = some (.int .i64 X.err) := fun yy => ja (h.below (HY.out yy)) 29 rfl
 have f30 : ∀ yy : Wd W.heap.size W,yy.v.cell? ⟨r,30,none⟩ = some (.int .i64 X.pos) := fun yy => ja (h.below (HY.out yy)) 30 rfl
 have f31 : ∀ yy : Wd W.heap.size W,yy.v.cell? ⟨r,31,none⟩ = some (.int .i64 X.val) := fun yy => ja (h.below (HY.out yy)) 31 rfl
 have f33 : ∀ yy : Wd W.heap.size W,yy.v.cell? ⟨r,33,none⟩ = some (.int .i64 X.steps) := fun yy => ja (h.below (HY.out yy)) 33 rfl
 have f34 : ∀ yy : Wd W.heap.size W,yy.v.cell? ⟨r,34,none⟩ = some (.int .i64 X.read) := fun yy => ja (h.below (HY.out yy)) 34 rfl
 have f25 : ∀ yy : Wd W.heap.size W,yy.v.cell? ⟨r,25,none⟩ = some (.int .i64 X.gcs) := fun yy => ja (h.below (HY.out yy)) 25 rfl
 have f24 : ∀ yy : Wd W.heap.size W,yy.v.cell? ⟨r,24,none⟩ = some (.int .i64 X.used) := fun yy => ja (h.below (HY.out yy)) 24 rfl
 haveI := Wd.ne
 have HRS := jH hrs
 have HW := jH hW
 clear h ho e hrs hW
 refine jbo 32 31 3 (.cells #[.int .i64 0,.int .i64 0,.int .i64 0,.slice none 0 0,.int .i64 0,.int .i64 0,.int .i64 0,.int .i64 0] 30 (0,0)) _ (by kernel_rfl) (by kernel_rfl) (by kernel_rfl) (by decide) rfl rfl rfl ?_
 simp only [TkD]
 iterate 31
  apply jd (by decide) (by rfl)
  ·intro yy;go_simp;all_goals with_reducible rfl
  simp only [Act.put,SsT]
 refine Jh (by decide) (fun w => by kernel_rfl) ?_
 refine js ?_
 intro b yy hb hbk
 refine Jv hbk rfl 30 (.tmp 3) (.tmp 34) rfl (Jr X (.slice none 0 0)) rfl rfl rfl Tryz.kiRes (jby X rfl) ?_
 intro w2 hbk2 hlo
 have hbw2 : Below W.heap.size W w2 := yy.h.trans (hlo.below.mono hb)
 have hB2 : Below w.heap.size w w2 := HW.out.trans (hbw2.mono HW.out.size)
 have hrs2 := jc HRS.out hbw2 (jb HRS.out)
 have hr2 := HH.out.below hB2
 have HR2 := jH hrs2
 have HB2 := jH hbk2
 have HBW := jH hB2
 have hs2 := jb hbk2
 have hwb : w.heap.size < b := Nat.lt_of_lt_of_le (jb HRS.out) hb
 have hrb : r ≠ b := by omega
 have c32 : w2.cell? ⟨r,32,none⟩ = some (.slice a out.length c) := by rw [<- HE.out];exact ja hr2 32 rfl
 have hrl2 := jb hr2
 clear f29 f30 f31 f33 f34 f25 f24 hbk hlo hbw2 hB2 hrs2 hr2
 by_cases h0 : out = []
 ·subst h0
  clear hmk
  have y0 := ja HB2.out 0 rfl
  have y1 := ja HB2.out 1 rfl
  have y2 := ja HB2.out 2 rfl
  have y3 := ja HB2.out 3 rfl
  have y4 := ja HB2.out 4 rfl
  have y5 := ja HB2.out 5 rfl
  have y6 := ja HB2.out 6 rfl
  have y7 := ja HB2.out 7 rfl
  simp only [Jr,List.getElem_toArray,List.getElem_cons_zero,List.getElem_cons_succ] at y0 y1 y2 y3 y4 y5 y6 y7
  have c32' : w2.cell? ⟨r,32,none⟩ = some (.slice a 0 c) := c32
  clear c32
  clear hbk2
  go_wp2_with (first
   | (show wpList _ _ _ (Oper.mk none (Op.store 30 (.tmp 2) (.tmp 55)) _ _ _ _ :: _) _ _;refine Jv HR2.out rfl 30 (.tmp 2) (.tmp 55) rfl (Jr X (.slice none 0 0)) rfl rfl rfl Tryz.kiRes (jby X rfl) ?_;intro w3 hb3 hl3))
  exact jed rfl hb3 ⟨_,rfl,.inl ⟨rfl,rfl⟩,HBW.out.trans (hl3.below.mono jN)⟩
 ·have hpos : 0 < out.length := List.length_pos_iff.2 h0
  have g1 : decide ((0 : Int) < (out.length : Int)) = true := by simp;omega
  have y3 : w2.cell? ⟨b,3,none⟩ = some (.slice none 0 0) := ja HB2.out 3 rfl
  have z3 := je HB2.out 3
  clear hbk2
  obtain ⟨gs,cs,es,hcs,hks,hgs⟩ := HO.out.at hpos
  rw [HE.out] at es
  cases es
  go_upto_region 4 with fail
  have hnew : ((w2.setCell ⟨b,3,none⟩ (.slice (some ⟨w2.heap.size,0,none⟩) out.length out.length)).alloc (.cells (Array.replicate out.length (Value.int .i64 0)) 3 (0,0))).heap[w2.heap.size]? = some (.cells (List.replicate out.length (Value.int .i64 0)).toArray 3 (0,0)) := by
   rw [List.toArray_replicate]
   exact j9 (by rw [jy])
  have hA := (Below.refl (w2.setCell ⟨b,3,none⟩ (.slice (some ⟨w2.heap.size,0,none⟩) out.length out.length)).heap.size (w2.setCell ⟨b,3,none⟩ (.slice (some ⟨w2.heap.size,0,none⟩) out.length out.length))).alloc jN (.cells (Array.replicate out.length (Value.int .i64 0)) 3 (0,0))
  have htb : ((w2.setCell ⟨b,3,none⟩ (.slice (some ⟨w2.heap.size,0,none⟩) out.length out.length)).alloc (.cells (Array.replicate out.length (Value.int .i64 0)) 3 (0,0))).heap[b]? = some (.cells (Jr X (.slice (some ⟨w2.heap.size,0,none⟩) out.length out.length)) 30 (0,0)) := jc (jf HB2.out 3 _) hA (by rw [jy];exact hs2)
  have hB4 : Below w.heap.size w ((w2.setCell ⟨b,3,none⟩ (.slice (some ⟨w2.heap.size,0,none⟩) out.length out.length)).alloc (.cells (Array.replicate out.length (Value.int .i64 0)) 3 (0,0))) := (HBW.out.setCell (p := ⟨b,3,none⟩) (Nat.le_of_lt hwb) _).trans (hA.mono (by rw [jy];exact HBW.out.size))
  have hrs4 : ((w2.setCell ⟨b,3,none⟩ (.slice (some ⟨w2.heap.size,0,none⟩) out.length out.length)).alloc (.cells (Array.replicate out.length (Value.int .i64 0)) 3 (0,0))).heap[w.heap.size]? = some (.cells #[.int .i64 0,.int .i64 0,.int .i64 0,.slice none 0 0,.int .i64 0,.int .i64 0,.int .i64 0,.int .i64 0] 30 (0,0)) := jc ((((Lone.refl b w2).set 3 _).rest _ (jb HR2.out) (by omega)).trans HR2.out) hA (by rw [jy];exact jb HR2.out)
  have hsz4 : ((w2.setCell ⟨b,3,none⟩ (.slice (some ⟨w2.heap.size,0,none⟩) out.length out.length)).alloc (.cells (Array.replicate out.length (Value.int .i64 0)) 3 (0,0))).heap.size = w2.heap.size + 1 := by simp [jy]
  generalize (w2.setCell ⟨b,3,none⟩ (.slice (some ⟨w2.heap.size,0,none⟩) out.length out.length)).alloc (.cells (Array.replicate out.length (Value.int .i64 0)) 3 (0,0)) = W4 at hnew htb hB4 hrs4 hsz4 ⊢
  have d3 : W4.cell? ⟨b,3,none⟩ = some (.slice (some ⟨w2.heap.size,0,none⟩) out.length out.length) := ja htb 3 rfl
  have d32 : W4.cell? ⟨r,32,none⟩ = some (.slice (some ⟨gs,0,none⟩) out.length c) := by rw [<- HE.out];exact ja (HH.out.below hB4) 32 rfl
  have HO4 := jH (HO.out.keep (S := fun _ => False) (Fr.of hB4) (fun h => h))
  obtain ⟨XS,hXS⟩ : ∃ XS,iV out = XS := ⟨_,rfl⟩
  have hxl : XS.length = out.length := by rw [<- hXS];simp [iV]
  have HXO : Hid (∀ u ∈ XS,u.oneCell' = true) := by
   show ∀ u ∈ XS,u.oneCell' = true
   rw [<- hXS]
   intro u hu
   simp only [iV,List.mem_map] at hu
   obtain ⟨z,_,rfl⟩ := hu
   rfl
  have HSR : Hid (∀ j u,XS[j]? = some u -> W4.cell? ((⟨gs,0,none⟩ : Addr).add j) = some u) := by
   have h1 := HO4.out.own
   rw [HE.out,hXS] at h1
   exact h1.cells rfl
  have HXS := jH hXS
  have HTB := jH htb
  have HRS4 := jH hrs4
  have HB4 := jH hB4
  have HNEW := jH hnew
  have hrl4 := jb (HH.out.below hB4)
  have hbl4 := jb htb
  have hB2l := HBW.out.size
  clear hnew hA htb hB4 hrs4 hXS HO4 hmk
  go_region_law ((refine step_copy_splice rfl (.tmp 49) (.tmp 53) 22 22 rfl 3 Tryz.kuI Tryz.kiIs (some ⟨w2.heap.size,0,none⟩) (some ⟨gs,0,none⟩) out.length out.length out.length c rfl rfl w2.heap.size 0 (List.replicate out.length (Value.int .i64 0)) 3 HNEW.out XS (by rw [hxl];exact (Nat.min_self _).symm) (fun _ => ⟨rfl,_,rfl,HSR.out⟩) (by rw [hxl];simp) HXO.out w2.heap.size W4 (by first | exact jB | exact jB.drew) jN ?_;intro w5 hg5 hb5))
  all_goals
   rename_i Q' K hK
   refine hK _ _ ?_
   clear hK K
   have hW5 : w5.heap[w2.heap.size]? = some (.cells (iV out).toArray 3 (0,0)) := by
    rw [hg5.out,HXS.out]
    congr 2
    unfold splice
    simp [hxl]
   have htb5 := jc HTB.out hb5 hs2
   have hrs5 := jc HRS4.out hb5 (jb HR2.out)
   have y0 := ja htb5 0 rfl
   have y1 := ja htb5 1 rfl
   have y2 := ja htb5 2 rfl
   have y3' := ja htb5 3 rfl
   have y4 := ja htb5 4 rfl
   have y5 := ja htb5 5 rfl
   have y6 := ja htb5 6 rfl
   have y7 := ja htb5 7 rfl
   simp only [Jr,List.getElem_toArray,List.getElem_cons_zero,List.getElem_cons_succ] at y0 y1 y2 y3' y4 y5 y6 y7
   have HW5 := jH hW5
   have HRS5 := jH hrs5
   have hwl : w.heap.size < w2.heap.size := Nat.lt_trans hwb hs2
   clear hW5 htb5 hrs5 hg5
   go_wp2_with (first
    | (show wpList _ _ _ (Oper.mk none (Op.store 30 (.tmp 2) (.tmp 55)) _ _ _ _ :: _) _ _;refine Jv HRS5.out rfl 30 (.tmp 2) (.tmp 55) rfl (Jr X (.slice (some ⟨w2.heap.size,0,none⟩) out.length out.length)) rfl rfl rfl Tryz.kiRes (jby X rfl) ?_;intro w6 hb6 hl6))
   exact jed rfl hb6 ⟨_,rfl,.inr ⟨h0,w2.heap.size,rfl,hB2l,(hl6.rest _ (jb HW5.out) (by omega)).trans HW5.out⟩,(HB4.out.trans (hb5.mono hB2l)).trans (hl6.below.mono jN)⟩
end Ko
end Go.Proofs.YtjmgolahkgalbaaGreatDoor
