/- AID: blocks and rows in memory. No program is named here. -/
import Derived.Test.YtmkdoejpgkgpbaaDoorAid3
import Derived.Handy
set_option linter.unusedVariables false
set_option linter.unusedSimpArgs false
namespace Go.Proofs.YtmkdoejpgkgpbaaDoor
open Go.RowKit
theorem cells_of_block' {w : World} {b : Nat} {a : Array Value} {t : TypeId} (h : w.heap[b]? = some (.cells a t (0, 0))) (i : Nat) : w.cell? ⟨b, i, none⟩ = a[i]? ∧ w.frozen? ⟨b, i, none⟩ = false := by
  constructor <;> simp [World.cell?, World.frozen?, h]
theorem bs_app (a b : List UInt8) : (⟨a.toArray⟩ : ByteArray) ++ ⟨b.toArray⟩ = ⟨(a ++ b).toArray⟩ := by
  apply ByteArray.ext
  simp
theorem lb_set {w : World} {b : Nat} {a : Array Value} {t : TypeId} (h : w.heap[b]? = some (.cells a t (0, 0))) (i : Nat) (u : Value) : (w.setCell ⟨b, i, none⟩ u).heap[b]? = some (.cells (a.setIfInBounds i u) t (0, 0)) := by
  have hlt := lt_of_block h
  have h' : w.heap[b] = .cells a t (0, 0) := by simpa [Array.getElem?_eq_getElem hlt] using h
  show (w.heap.modify b _)[b]? = _
  rw [Array.getElem?_eq_getElem (by simpa using hlt), Array.getElem_modify_self, h']
  rfl
theorem lb_below {w w' : World} {b B : Nat} {o : Obj} (h : w.heap[b]? = some o) (hb : Below B w w') (hB : b < B) : w'.heap[b]? = some o := (hb.block b hB).trans h
theorem lb_new (w : World) (o : Obj) : (w.alloc o).heap[w.heap.size]? = some o := by
  show (w.heap.push o)[w.heap.size]? = _
  simp
theorem lb_at {w : World} {b : Nat} {a : Array Value} {t : TypeId} {v : Value} (h : w.heap[b]? = some (.cells a t (0, 0))) (i : Nat) (hv : a[i]? = some v) : w.cell? ⟨b, i, none⟩ = some v := (cells_of_block' h i).1.trans hv
theorem lb_f {w : World} {b : Nat} {a : Array Value} {t : TypeId} (h : w.heap[b]? = some (.cells a t (0, 0))) (i : Nat) : w.frozen? ⟨b, i, none⟩ = false := (cells_of_block' h i).2
theorem lb_past {w : World} {b : Nat} {a : Array Value} {t : TypeId} {v : Value} (h : w.heap[b]? = some (.cells a t (0, 0))) (i : Nat) (hv : a[i]? = some v) : ∀ o, (w.alloc o).cell? ⟨b, i, none⟩ = some v := fun o => by
  have := Below.heap_alloc w o b (lt_of_block h)
  rw [World.cell?_of_block (w := w) (a := ⟨b, i, none⟩) this, (cells_of_block' h i).1, hv]
theorem setCell_size (w : World) (a : Addr) (u : Value) : (w.setCell a u).heap.size = w.heap.size := by simp [World.setCell]
theorem or_keep {w w1 : World} {base size n : Nat} {e : TypeId} {v : Value} {xs : List Value} (h : w.ownsRow base e size v n xs) (hb : ∀ b, v.ownBlock = some b → w1.heap[b]? = w.heap[b]?) : w1.ownsRow base e size v n xs := by
  refine ⟨h.1, ?_⟩
  rcases h.2 with h' | ⟨g, cap, cur, h1, h2, h3, h4⟩
  · exact .inl h'
  · exact .inr ⟨g, cap, cur, h1, h2, (hb g (by rw [h1]; rfl)).trans h3, h4⟩
theorem or_slice {w : World} {base size n : Nat} {e : TypeId} {v : Value} {xs : List Value} (h : w.ownsRow base e size v n xs) : ∃ a c, v = .slice a n c := by
  rcases h.2 with ⟨h1, h2⟩ | ⟨g, cap, cur, h1, h2, h3, h4⟩
  · exact ⟨none, 0, by rw [h1, h2]⟩
  · exact ⟨_, cap, h1⟩
theorem or_shape {w : World} {base size n : Nat} {e : TypeId} {v : Value} {xs : List Value} (h : w.ownsRow base e size v n xs) (hn : 1 ≤ n) : ∃ g cap, v = .slice (some ⟨g, 0, none⟩) n cap ∧ base ≤ g ∧ g < w.heap.size ∧ n ≤ cap ∧ cap ≤ maxLen := by
  rcases h.2 with ⟨_, h2⟩ | ⟨g, cap, cur, h1, h2, h3, h4, h5, _⟩
  · omega
  · exact ⟨g, cap, h1, h2, lt_of_block h3, h4, h5⟩
theorem or_new {w : World} {base B : Nat} {e : TypeId} {xs : List Value} (hb : w.heap[B]? = some (.cells xs.toArray e (0, 0))) (hB : base ≤ B) (hl : xs.length ≤ maxLen) : w.ownsRow base e 1 (.slice (some ⟨B, 0, none⟩) xs.length xs.length) xs.length xs :=
  ⟨by omega, .inr ⟨B, xs.length, xs.toArray, rfl, hB, hb, Nat.le_refl _, hl, by simp, by simp⟩⟩
theorem one_cell (w : World) (u : UInt8) (x : Int) (b : Nat) (e : TypeId) (hb : b = w.heap.size) (hx : x = (u.toNat : Int)) : ∀ j (hj : j < [u].length), (w.alloc (.cells #[.int .u8 x] e (0, 0))).cell? ((⟨b, 0, none⟩ : Addr).add j) = some (.int .u8 ([u][j].toNat : Int)) := by
  intro j hj
  have hj0 : j = 0 := by simp at hj; exact hj
  subst hj0 hb hx
  rw [addr_add]
  exact (cells_of_block' (lb_new w _) 0).1
end Go.Proofs.YtmkdoejpgkgpbaaDoor
