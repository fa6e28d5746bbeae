import Derived.WalkKit
import Derived.WalkSpells
import Derived.WalkLawsBesides
set_option linter.unusedVariables false
set_option linter.unusedSimpArgs false
set_option maxHeartbeats 20000000
namespace Go.Proofs.YtjmgolahkgalbaaGreatDoor
open Go.RowKit
variable {w : World}
theorem own_below {w w1 : World} {base size n : Nat} {e : TypeId} {v : Value} {xs : List Value} (h : w.ownsRow base e size v n xs) (hb : Below w.heap.size w w1) : w1.ownsRow base e size v n xs := by
 refine ⟨h.1,?_⟩
 rcases h.2 with h' | ⟨g,cap,cur,h1,h2,h3,h4⟩
 ·exact .inl h'
 ·refine .inr ⟨g,cap,cur,h1,h2,?_,h4⟩
  have hg : g < w.heap.size := by
   rcases Nat.lt_or_ge g w.heap.size with h | h
   ·exact h
   ·rw [Array.getElem?_eq_none h] at h3;simp at h3
  rw [hb.block g hg];exact h3
theorem Ja (w : World) (arr : List Value) (e : TypeId) (b : Nat) (hb : b = w.heap.size) : ∀ j u,arr[j]? = some u -> (w.alloc (.cells arr.toArray e)).cell? ((⟨b,0,none⟩ : Addr).add j) = some u := by
 intro j u hj
 subst hb
 have := World.cell?_alloc_new (w := w) arr.toArray e j
 have ha : (⟨w.heap.size,0,none⟩ : Addr).add j = ⟨w.heap.size,j,none⟩ := by
  unfold Addr.add
  split
  ·rename_i h;rw [h]
  ·simp
 rw [ha,this];simpa using hj
theorem jh7 {base size n : Nat} {e : TypeId} {v : Value} {xs : List Value} (h : w.ownsRow base e size v n xs) : ∀ k,v.ownBlock = some k -> base <= k :=
 fun k hk => (h.lt k hk).1
theorem jmb {B : Nat} {w wr w3 : World} {row : Option Nat} (h : Below B w wr) (hB : B <= wr.heap.size) (o : Obj) (hg : (wr.alloc o).grownBy w3 row) (hr : ∀ k,row = some k -> B <= k) : Below B w w3 :=
 (h.alloc hB o).grown hg (by have := World.size_alloc (w := wr) o;omega) hr
theorem jmV {B : Nat} {w wr w1 w3 : World} {row : Option Nat} (h : Below B w wr) (hB : B <= wr.heap.size) (h2 : Below wr.heap.size wr w1) (o1 o2 : Obj) (hg : ((w1.alloc o1).alloc o2).grownBy w3 row) (hr : ∀ k,row = some k -> B <= k) : Below B w w3 := by
 have hs := h2.size
 have h3 : Below B w (w1.alloc o1) := (h.trans (h2.mono hB)).alloc (by omega) o1
 have := World.size_alloc (w := w1) o1
 exact jmb h3 (by omega) o2 hg hr
theorem jB {B : Nat} : Below B w w := Below.refl _ _
theorem jH {p : Prop} (h : p) : Hid p := h
theorem jN {n : Nat} : n <= n := Nat.le_refl _
theorem jG {α : Type} {l : List α} {i : Nat} {a : α} (h : l[i]? = some a) : ∃ h : i < l.length,l[i] = a := List.getElem?_eq_some_iff.1 h
end Go.Proofs.YtjmgolahkgalbaaGreatDoor
