import Derived.Test.YtjmgolahkgalbaaGreatDoorS04
import Derived.Test.YtjmgolahkgalbaaGreatDoorS05
import Derived.Handy
import Derived.Deep.AppendLies
import Derived.Deep.RegionLaw
import Derived.Deep.RegionHeld3
set_option linter.unusedVariables false
set_option linter.unusedSimpArgs false
set_option maxHeartbeats 20000000
namespace Go.Proofs.YtjmgolahkgalbaaGreatDoor
open Go.RowKit
variable {w : World}
theorem JY {b : Nat} {a : Array Value} {t : TypeId} (h : w.heap[b]? = some (.cells a t (0,0))) (i : Nat) : w.cell? ⟨b,i,none⟩ = a[i]? /\ w.frozen? ⟨b,i,none⟩ = false := by
 constructor <;> simp [World.cell?,World.frozen?,h]
theorem bs_app (a b : List UInt8) : (⟨a.toArray⟩ : ByteArray) ++ ⟨b.toArray⟩ = ⟨(a ++ b).toArray⟩ := by
 apply ByteArray.ext
 simp
theorem jf {b : Nat} {a : Array Value} {t : TypeId} (h : w.heap[b]? = some (.cells a t (0,0))) (i : Nat) (u : Value) : (w.setCell ⟨b,i,none⟩ u).heap[b]? = some (.cells (a.setIfInBounds i u) t (0,0)) := by
 have hlt := lt_of_block h
 have h' : w.heap[b] = .cells a t (0,0) := by simpa [Array.getElem?_eq_getElem hlt] using h
 show (w.heap.modify b _)[b]? = _
 rw [Array.getElem?_eq_getElem (by simpa using hlt),Array.getElem_modify_self,h']
 rfl
theorem jc {w w' : World} {b B : Nat} {o : Obj} (h : w.heap[b]? = some o) (hb : Below B w w') (hB : b < B) : w'.heap[b]? = some o := (hb.block b hB).trans h
theorem jg (w : World) (o : Obj) : (w.alloc o).heap[w.heap.size]? = some o := by
 show (w.heap.push o)[w.heap.size]? = _
 simp
theorem ja {b : Nat} {a : Array Value} {t : TypeId} {v : Value} (h : w.heap[b]? = some (.cells a t (0,0))) (i : Nat) (hv : a[i]? = some v) : w.cell? ⟨b,i,none⟩ = some v := (JY h i).1.trans hv
theorem je {b : Nat} {a : Array Value} {t : TypeId} (h : w.heap[b]? = some (.cells a t (0,0))) (i : Nat) : w.frozen? ⟨b,i,none⟩ = false := (JY h i).2
theorem jT {b : Nat} {a : Array Value} {t : TypeId} {v : Value} (h : w.heap[b]? = some (.cells a t (0,0))) (i : Nat) (hv : a[i]? = some v) : ∀ o,(w.alloc o).cell? ⟨b,i,none⟩ = some v := fun o => by
 have := Below.heap_alloc w o b (lt_of_block h)
 rw [World.cell?_of_block (w := w) (a := ⟨b,i,none⟩) this,(JY h i).1,hv]
theorem jy (w : World) (a : Addr) (u : Value) : (w.setCell a u).heap.size = w.heap.size := by simp [World.setCell]
theorem j3 {w w1 : World} {base size n : Nat} {e : TypeId} {v : Value} {xs : List Value} (h : w.ownsRow base e size v n xs) (hb : ∀ b,v.ownBlock = some b -> w1.heap[b]? = w.heap[b]?) : w1.ownsRow base e size v n xs := by
 refine ⟨h.1,?_⟩
 rcases h.2 with h' | ⟨g,cap,cur,h1,h2,h3,h4⟩
 ·exact .inl h'
 ·exact .inr ⟨g,cap,cur,h1,h2,(hb g (by rw [h1];rfl)).trans h3,h4⟩
theorem j5 {base size n : Nat} {e : TypeId} {v : Value} {xs : List Value} (h : w.ownsRow base e size v n xs) : ∃ a c,v = .slice a n c := by
 rcases h.2 with ⟨h1,h2⟩ | ⟨g,cap,cur,h1,h2,h3,h4⟩
 ·exact ⟨none,0,by rw [h1,h2]⟩
 ·exact ⟨_,cap,h1⟩
theorem jaf {base size n : Nat} {e : TypeId} {v : Value} {xs : List Value} (h : w.ownsRow base e size v n xs) (hn : 1 <= n) : ∃ g cap,v = .slice (some ⟨g,0,none⟩) n cap /\ base <= g /\ g < w.heap.size /\ n <= cap /\ cap <= maxLen := by
 rcases h.2 with ⟨_,h2⟩ | ⟨g,cap,cur,h1,h2,h3,h4,h5,_⟩
 ·omega
 ·exact ⟨g,cap,h1,h2,lt_of_block h3,h4,h5⟩
theorem jev {base B : Nat} {e : TypeId} {xs : List Value} (hb : w.heap[B]? = some (.cells xs.toArray e (0,0))) (hB : base <= B) (hl : xs.length <= maxLen) : w.ownsRow base e 1 (.slice (some ⟨B,0,none⟩) xs.length xs.length) xs.length xs :=
 ⟨by omega,.inr ⟨B,xs.length,xs.toArray,rfl,hB,hb,jN,hl,by simp,by simp⟩⟩
theorem one_cell (w : World) (u : UInt8) (x : Int) (b : Nat) (e : TypeId) (hb : b = w.heap.size) (hx : x = (u.toNat : Int)) : ∀ j (hj : j < [u].length),(w.alloc (.cells #[.int .u8 x] e (0,0))).cell? ((⟨b,0,none⟩ : Addr).add j) = some (.int .u8 ([u][j].toNat : Int)) := by
 intro j hj
 have hj0 : j = 0 := by simp at hj;exact hj
 subst hj0 hb hx
 rw [addr_add]
 exact (JY (jg w _) 0).1
end Go.Proofs.YtjmgolahkgalbaaGreatDoor
namespace Go.Proofs.YtjmgolahkgalbaaGreatDoor
open Go.RowKit Li
variable {w : World}
theorem JQ {a b : Bool} (h : a = b) : Ending.returned (.bool a) = .returned (.bool b) := by rw [h]
def prB (vF vN vL : Value) : Obj := .cells #[vF,vN,vL] 64 (0,0)
def rwB (k f0 f1 f2 f3 l p : Nat) : Bool := decide (f1 <= 4) && (decide (f2 <= 1) && decide (f3 <= 1024)) && ((if k = 0 then (f0 == 0 && (f1 == 0 && f2 == 0)) else decide (p < f0)) && decide (f0 < l))
theorem jd8 (s : ByteArray) (k : Nat) : jt s k = rwB k (r0 s k) (r1 s k) (r2 s k) (r3 s k) (hL s) (r0 s (k - 1)) := rfl
theorem jgF {k f0 f1 f2 f3 l p : Nat} (h : 4 < f1 \/ 1 < f2 \/ 1024 < f3 \/ l <= f0) : rwB k f0 f1 f2 f3 l p = false := by
 unfold rwB
 rcases h with h | h | h | h
 ·rw [show decide (f1 <= 4) = false by simp;omega];simp
 ·rw [show decide (f2 <= 1) = false by simp;omega];simp
 ·rw [show decide (f3 <= 1024) = false by simp;omega];simp
 ·rw [show decide (f0 < l) = false by simp;omega];simp
theorem jgH {f0 f1 f2 f3 l p : Nat} (h1 : f1 <= 4) (h2 : f2 <= 1) (h3 : f3 <= 1024) (h0 : f0 < l) : rwB 0 f0 f1 f2 f3 l p = (f0 == 0 && (f1 == 0 && f2 == 0)) := by
 unfold rwB
 rw [show decide (f1 <= 4) = true by simp;omega,show decide (f2 <= 1) = true by simp;omega,show decide (f3 <= 1024) = true by simp;omega,show decide (f0 < l) = true by simp;omega]
 simp
theorem jgG {k f0 f1 f2 f3 l p : Nat} (hk : k ≠ 0) (h1 : f1 <= 4) (h2 : f2 <= 1) (h3 : f3 <= 1024) (h0 : f0 < l) : rwB k f0 f1 f2 f3 l p = decide (p < f0) := by
 unfold rwB
 rw [show decide (f1 <= 4) = true by simp;omega,show decide (f2 <= 1) = true by simp;omega,show decide (f3 <= 1024) = true by simp;omega,show decide (f0 < l) = true by simp;omega,if_neg hk]
 simp
set_option maxRecDepth 100000 in
theorem jgZ {base p g c k f0 f1 f2 f3 l pf : Nat} {vN vL : Value} {xs : List Value} (hk : k <= 70000) (hblk : w.heap[p]? = some (prB (.slice (some ⟨g,0,none⟩) (k + 1) c) vN vL)) (hpb : p < base)
 (hown : w.ownsRow base 104 5 (.slice (some ⟨g,0,none⟩) (k + 1) c) (k + 1) xs) (hc : k + 1 <= c)
 (x0 : xs[k * 5]? = some (.int .i64 f0)) (x1 : xs[k * 5 + 1]? = some (.int .i64 f1)) (x2 : xs[k * 5 + 2]? = some (.int .i64 f2)) (x3 : xs[k * 5 + 3]? = some (.int .i64 f3)) (x4 : xs[k * 5 + 4]? = some (.int .i64 l)) (hpf : 0 < k -> xs[(k - 1) * 5]? = some (.int .i64 pf)) :
 Calls Tryz.prog 49 #[.pointer (some ⟨p,0,none⟩),.int .i64 k,.int .i64 l] w fun e w' => e = .returned (.bool (rwB k f0 f1 f2 f3 l pf)) /\ Below base w w' /\ (∀ b,b < w.heap.size -> b ≠ g -> w'.heap[b]? = w.heap[b]?) /\
  (rwB k f0 f1 f2 f3 l pf = true -> w'.ownsRow base 104 5 (.slice (some ⟨g,0,none⟩) (k + 1) c) (k + 1) (if k = 0 then xs else xs.set ((k - 1) * 5 + 4) (.int .i64 f0))) := by
 have hlt := lt_of_block hblk
 have hg := hown.lt g rfl
 have HOW : Hid (w.ownsRow base 104 5 (.slice (some ⟨g,0,none⟩) (k + 1) c) (k + 1) xs) := hown
 have c0 := ja hblk 0 rfl
 simp only [List.getElem_toArray,List.getElem_cons_zero,List.getElem_cons_succ] at c0
 have d0 := (hown.cellAt (k * 5) (by omega)).trans x0
 have d1 := (hown.cellAt (k * 5 + 1) (by omega)).trans x1
 have d2 := (hown.cellAt (k * 5 + 2) (by omega)).trans x2
 have d3 := (hown.cellAt (k * 5 + 3) (by omega)).trans x3
 have d4 := (hown.cellAt (k * 5 + 4) (by omega)).trans x4
 have hA : ∀ o : Obj,Below w.heap.size w (w.alloc o) := fun o => jB.alloc jN _
 have hA' : ∀ o : Obj,Below base w (w.alloc o) := fun o => (hA o).mono (by omega)
 have HA : Hid (∀ o : Obj,Below w.heap.size w (w.alloc o)) := hA
 have HA' : Hid (∀ o : Obj,Below base w (w.alloc o)) := hA'
 obtain ⟨R,hR⟩ : ∃ R,rwB k f0 f1 f2 f3 l pf = R := ⟨_,rfl⟩
 rw [hR]
 clear hblk hown x0 x1 x2 x3 x4 hA hA'
 by_cases h1 : f1 <= 4 /\ f2 <= 1 /\ f3 <= 1024 /\ f0 < l
 ·obtain ⟨h1,h2,h3,h0⟩ := h1
  by_cases hk0 : k = 0
  ·subst hk0
   have HR : Hid (R = (f0 == 0 && (f1 == 0 && f2 == 0))) := hR.symm.trans (jgH h1 h2 h3 h0)
   clear hR
   simp only [Nat.zero_mul,Nat.zero_add] at d0 d1 d2 d3 d4
   go_enter Tryz.func49,Tryz.ntmps49
   go_wp2
   all_goals
    go_ret
    refine ⟨?_,HA'.out _,fun b hb _ => (HA.out _).block b hb,fun _ => ?_⟩
    ·refine JQ ?_
     rw [HR.out,Bool.eq_iff_iff]
     simp
     omega
    ·exact HOW.out.alloc _
  ·have HR : Hid (R = decide (pf < f0)) := hR.symm.trans (jgG hk0 h1 h2 h3 h0)
   clear hR
   obtain ⟨m,rfl⟩ : ∃ m,k = m + 1 := ⟨k - 1,by omega⟩
   have e0 : w.cell? ⟨g,m * 5,none⟩ = some (.int .i64 pf) := (HOW.out.cellAt (m * 5) (by omega)).trans (hpf (by omega))
   have e4 : w.cell? ⟨g,m * 5 + 4,none⟩ = xs[m * 5 + 4]? := HOW.out.cellAt (m * 5 + 4) (by omega)
   have hxl : m * 5 + 4 < xs.length := by have := HOW.out.1;omega
   rw [List.getElem?_eq_getElem hxl] at e4
   generalize xs[m * 5 + 4] = y4 at e4
   have g4 := HOW.out.frozenAt (m * 5 + 4)
   have hpg : p ≠ g := by omega
   have HS : Hid ((w.setCell ⟨g,m * 5 + 4,none⟩ (.int .i64 f0)).ownsRow base 104 5 (.slice (some ⟨g,0,none⟩) (m + 1 + 1) c) (m + 1 + 1) (xs.set (m * 5 + 4) (.int .i64 f0))) := (HOW.out.stored (m * 5 + 4) (.int .i64 f0)).1
   have HB : Hid (Below base w (w.setCell ⟨g,m * 5 + 4,none⟩ (.int .i64 f0))) := jB.setCell (p := ⟨g,m * 5 + 4,none⟩) (show base <= g by omega) _
   have hd1 : (((m + 1 : Nat) : Int) == 0) = false := by simp;omega
   clear hpf hk0
   go_enter Tryz.func49,Tryz.ntmps49
   go_wp2
   go_region
   go_wp2
   go_region
   go_wp2
   go_ret
   refine ⟨JQ HR.out.symm,((HB.out.alloc (by rw [jy];omega) _).drew).drew,fun b hb hbg => ?_,fun _ => ((HS.out.alloc _).drew).drew⟩
   show ((w.setCell _ _).alloc _).heap[b]? = _
   rw [Below.heap_alloc _ _ _ (by rw [jy];exact hb),Below.heap_setCell _ _ _ _ hbg]
 ·have HR : Hid (R = false) := hR.symm.trans (jgF (by omega))
  clear hR
  go_enter Tryz.func49,Tryz.ntmps49
  go_wp2
  all_goals
   first
    | omega
    | (go_ret;exact ⟨by rw [HR.out];rfl,HA'.out _,fun b hb _ => (HA.out _).block b hb,fun h => by rw [HR.out] at h;cases h⟩)
    | skip
theorem jgY {base p g c k f0 f1 f2 f3 l pf : Nat} {R : Bool} {vN vL : Value} {xs : List Value} (hR : rwB k f0 f1 f2 f3 l pf = R) (hk : k <= 70000) (hblk : w.heap[p]? = some (prB (.slice (some ⟨g,0,none⟩) (k + 1) c) vN vL)) (hpb : p < base)
 (hown : w.ownsRow base 104 5 (.slice (some ⟨g,0,none⟩) (k + 1) c) (k + 1) xs) (hc : k + 1 <= c)
 (x0 : xs[k * 5]? = some (.int .i64 f0)) (x1 : xs[k * 5 + 1]? = some (.int .i64 f1)) (x2 : xs[k * 5 + 2]? = some (.int .i64 f2)) (x3 : xs[k * 5 + 3]? = some (.int .i64 f3)) (x4 : xs[k * 5 + 4]? = some (.int .i64 l)) (hpf : 0 < k -> xs[(k - 1) * 5]? = some (.int .i64 pf)) :
 Calls Tryz.prog 49 #[.pointer (some ⟨p,0,none⟩),.int .i64 k,.int .i64 l] w fun e w' => e = .returned (.bool R) /\ Below base w w' /\ (∀ b,b < w.heap.size -> b ≠ g -> w'.heap[b]? = w.heap[b]?) /\
  (R = true -> w'.ownsRow base 104 5 (.slice (some ⟨g,0,none⟩) (k + 1) c) (k + 1) (if k = 0 then xs else xs.set ((k - 1) * 5 + 4) (.int .i64 f0))) := by
 subst hR
 exact jgZ hk hblk hpb hown hc x0 x1 x2 x3 x4 hpf
theorem jh9 {base size n g c : Nat} {e : TypeId} {xs : List Value} (h : w.ownsRow base e size (.slice (some ⟨g,0,none⟩) n c) n xs) : n <= c := by
 rcases h.2 with ⟨h1,_⟩ | ⟨g',cap,cur,h1,h2,h3,h4,h5,_⟩
 ·cases h1
 ·injection h1 with _ _ h6;omega
theorem Js {base base' size n : Nat} {e : TypeId} {v : Value} {xs : List Value} (h : w.ownsRow base e size v n xs) (hb : base' <= base) : w.ownsRow base' e size v n xs := by
 refine ⟨h.1,?_⟩
 rcases h.2 with h' | ⟨g,cap,cur,h1,h2,h3⟩
 ·exact .inl h'
 ·exact .inr ⟨g,cap,cur,h1,by omega,h3⟩
theorem jan {w W w1 : World} {base n size : Nat} {e : TypeId} {v : Value} {xs : List Value} (hown : w.ownsRow base e size v n xs) (hW : Below w.heap.size w W) (hbase : base <= w.heap.size) (hg : W.grownBy w1 v.ownBlock) :
 (∀ b,b < w.heap.size -> v.ownBlock ≠ some b -> w1.heap[b]? = w.heap[b]?) /\ w.heap.size <= w1.heap.size /\ Below base w w1 := by
 have hs := hW.size
 have hs2 := hg.size
 exact ⟨fun b h1 h2 => (hg.block b (by omega) (fun h => h2 h.symm)).trans (hW.block b h1),by omega,(hW.mono hbase).grown hg (by omega) (jh7 hown)⟩
theorem jbV {α : Type} {f : Nat -> List α} {w : Nat} (hf : ∀ i,(f i).length = w) (n j : Nat) (ys : List α) : (ji f n ++ ys)[n * w + j]? = ys[j]? := by
 rw [List.getElem?_append_right (by rw [jaC hf];omega),jaC hf,Nat.add_sub_cancel_left]
theorem jmi {α : Type} {f : Nat -> List α} {w : Nat} (hf : ∀ i,(f i).length = w) {n i o : Nat} (ys : List α) (hi : i < n) (ho : o < w) : (ji f n ++ ys)[i * w + o]? = (f i)[o]? := by
 have : (i + 1) * w <= n * w := Nat.mul_le_mul_right _ hi
 rw [Nat.succ_mul] at this
 rw [List.getElem?_append_left (by rw [jaC hf];omega)]
 exact Jq hf ho n hi
end Go.Proofs.YtjmgolahkgalbaaGreatDoor
