import Derived.RowKit
import Derived.WalkKit
import Derived.WalkSpells
import Derived.WalkLawsBesides
import Derived.Test.YtjmifcnfnihhnaaGreatDoorProg
import Derived.Laws.IdiomStrings
import Derived.Handy
import Derived.Deep.AppendLies
import Derived.Deep.RegionLaw
import Derived.Deep.RegionHeld3
import Derived.Lib.Hide
import Derived.Deep.RegionWith
import Derived.Deep.Cut
import Derived.Deep.CutRange
import Derived.Deep.DeepCutAuto
/- PLAIN: a code's form, and its list. No program is named here. -/
set_option linter.unusedVariables false
set_option linter.unusedSimpArgs false
namespace Go.Proofs.YtjmifcnfnihhnaaGreatDoor
namespace Lr
namespace Li
open Go.RowKit

def bt (s : ByteArray) (i : Nat) : Nat := (s.data.toList.getD i 0).toNat
theorem bt_lt (s : ByteArray) (i : Nat) : bt s i < 256 := UInt8.toNat_lt _
theorem bt_at {s : ByteArray} {i : Nat} (h : i < s.size) : bt s i = s[i].toNat := by
  unfold bt
  have h2 : i < s.data.toList.length := by simpa using h
  rw [List.getD_eq_getElem?_getD, List.getElem?_eq_getElem h2]
  rfl
def nV (s : ByteArray) (i : Nat) : Nat → Int
  | 0 => 0
  | n + 1 => wrap64 (nV s i n * 256 + bt s (i + n))
def n2 (s : ByteArray) (i : Nat) : Nat := bt s i * 256 + bt s (i + 1)
theorem n2_lt (s : ByteArray) (i : Nat) : n2 s i < 65536 := by
  have := bt_lt s i
  have := bt_lt s (i + 1)
  unfold n2; omega
theorem nV_1 (s : ByteArray) (i : Nat) : nV s i 1 = bt s i := by
  have := bt_lt s i
  simp only [nV, wrap64, Nat.add_zero]; omega
theorem nV_2 (s : ByteArray) (i : Nat) : nV s i 2 = n2 s i := by
  have := bt_lt s i
  have := bt_lt s (i + 1)
  have h := nV_1 s i
  simp only [nV, wrap64, Nat.add_zero] at h ⊢
  unfold n2
  omega
theorem nV_bd (s : ByteArray) (i n : Nat) : -9223372036854775808 ≤ nV s i n ∧ nV s i n ≤ 9223372036854775807 := by
  cases n with
  | zero => simp [nV]
  | succ n => simp only [nV, wrap64]; omega
/-- the head's numbers -/
def hF (s : ByteArray) : Nat := n2 s 2
def hN (s : ByteArray) : Nat := n2 s 4
def hL (s : ByteArray) : Nat := n2 s 6
def mlB (s : ByteArray) : Bool := decide ((s.extract 0 2).toList = [109, 108])
def hdB (s : ByteArray) : Bool := decide (8 ≤ s.size) && (mlB s && (decide (0 < hF s) && decide (s.size = 8 + 6 * hF s + 8 * hN s + 8 * hL s)))
theorem hdB_mk {s : ByteArray} (h1 : 8 ≤ s.size) (h2 : (s.extract 0 2).toList = [109, 108]) (h3 : hF s ≠ 0) (h4 : s.size = 8 + 6 * hF s + 8 * hN s + 8 * hL s) : hdB s = true := by
  unfold hdB mlB
  rw [decide_eq_true h1, decide_eq_true h2, decide_eq_true (show 0 < hF s by omega), decide_eq_true h4]; rfl
theorem hdB_of {s : ByteArray} (h : hdB s = true) : 8 ≤ s.size ∧ (s.extract 0 2).toList = [109, 108] ∧ hF s ≠ 0 ∧ s.size = 8 + 6 * hF s + 8 * hN s + 8 * hL s := by
  unfold hdB mlB at h
  simp only [Bool.and_eq_true, decide_eq_true_eq] at h
  exact ⟨h.1, h.2.1, by omega, h.2.2.2⟩
/-- a row of the table of functions -/
def r0 (s : ByteArray) (k : Nat) : Nat := n2 s (8 + 6 * k)
def r1 (s : ByteArray) (k : Nat) : Nat := bt s (8 + 6 * k + 2)
def r2 (s : ByteArray) (k : Nat) : Nat := bt s (8 + 6 * k + 3)
def r3 (s : ByteArray) (k : Nat) : Nat := n2 s (8 + 6 * k + 4)
def rowA (s : ByteArray) (k : Nat) : Bool := decide (r1 s k ≤ 4) && (decide (r2 s k ≤ 1) && decide (r3 s k ≤ 1024))
def rowZ (s : ByteArray) (k : Nat) : Bool := if k = 0 then (r0 s k == 0 && (r1 s k == 0 && r2 s k == 0)) else decide (r0 s (k - 1) < r0 s k)
def rowB (s : ByteArray) (k : Nat) : Bool := rowA s k && (rowZ s k && decide (r0 s k < hL s))
/-- the constants -/
def pN (s : ByteArray) (k : Nat) : Nat := 8 + 6 * hF s + 8 * k
def kn (s : ByteArray) (k : Nat) : Int := nV s (pN s k) 8
def numB (s : ByteArray) (k : Nat) : Bool := decide (-4611686018427387904 ≤ kn s k) && decide (kn s k ≤ 4611686018427387903)
/-- the lines -/
def pL (s : ByteArray) (k : Nat) : Nat := 8 + 6 * hF s + 8 * hN s + 8 * k
def l0 (s : ByteArray) (k : Nat) : Nat := bt s (pL s k)
def l1 (s : ByteArray) (k : Nat) : Nat := bt s (pL s k + 1)
def l2 (s : ByteArray) (k : Nat) : Nat := n2 s (pL s k + 2)
def l3 (s : ByteArray) (k : Nat) : Nat := n2 s (pL s k + 4)
def l4 (s : ByteArray) (k : Nat) : Nat := n2 s (pL s k + 6)
/-- the first that is ill made -/
def bad (p : Nat → Bool) : Nat → Nat → Option Nat
  | 0, _ => none
  | n + 1, k => if p k then bad p n (k + 1) else some k
/-- the first error of the form, and its place -/
def res (s : ByteArray) : Option (Nat × Nat) :=
  if 600000 < s.size then some (1, 0) else if hdB s = false then some (10, 0) else
  match bad (rowB s) (hF s) 0 with
  | some k => some (10, 8 + 6 * k)
  | none => match bad (numB s) (hN s) 0 with
    | some k => some (10, pN s k)
    | none => none
/-- a row's cells, an element a step -/
def rowC {α : Type} (f : Nat → List α) : Nat → List α
  | 0 => []
  | k + 1 => rowC f k ++ f k
theorem rowC_len {α : Type} {f : Nat → List α} {w : Nat} (hf : ∀ i, (f i).length = w) : ∀ n, (rowC f n).length = n * w
  | 0 => by simp [rowC]
  | n + 1 => by rw [rowC, List.length_append, rowC_len hf n, hf n, Nat.succ_mul]
theorem rowC_at {α : Type} {f : Nat → List α} {w : Nat} (hf : ∀ i, (f i).length = w) {i o : Nat} (ho : o < w) : ∀ n, i < n → (rowC f n)[i * w + o]? = (f i)[o]?
  | 0, h => by omega
  | n + 1, h => by
    rw [rowC]
    by_cases hi : i < n
    · have : (i + 1) * w ≤ n * w := Nat.mul_le_mul_right _ hi
      rw [Nat.succ_mul] at this
      rw [List.getElem?_append_left (by rw [rowC_len hf]; omega)]
      exact rowC_at hf ho n hi
    · have he : i = n := by omega
      subst he
      rw [List.getElem?_append_right (by rw [rowC_len hf]; omega), rowC_len hf, Nat.add_sub_cancel_left]
theorem rowC_congr {α : Type} {f g : Nat → List α} : ∀ n, (∀ i, i < n → f i = g i) → rowC f n = rowC g n
  | 0, _ => rfl
  | n + 1, h => by rw [rowC, rowC, rowC_congr n (fun i hi => h i (by omega)), h n (by omega)]
end Li
end Lr
end Go.Proofs.YtjmifcnfnihhnaaGreatDoor
/- AID: small laws on rows that a call owns. No program is named here. -/
set_option linter.unusedVariables false
set_option linter.unusedSimpArgs false
namespace Go.Proofs.YtjmifcnfnihhnaaGreatDoor
namespace Lr
open Go.RowKit

theorem own_below {w w1 : World} {base size n : Nat} {e : TypeId} {v : Value} {xs : List Value} (h : w.ownsRow base e size v n xs) (hb : Below w.heap.size w w1) : w1.ownsRow base e size v n xs := by
  refine ⟨h.1, ?_⟩
  rcases h.2 with h' | ⟨g, cap, cur, h1, h2, h3, h4⟩
  · exact .inl h'
  · refine .inr ⟨g, cap, cur, h1, h2, ?_, h4⟩
    have hg : g < w.heap.size := by
      rcases Nat.lt_or_ge g w.heap.size with h | h
      · exact h
      · rw [Array.getElem?_eq_none h] at h3; simp at h3
    rw [hb.block g hg]; exact h3
/-- the cells of a block that was laid last -/
theorem cells_new (w : World) (arr : List Value) (e : TypeId) (b : Nat) (hb : b = w.heap.size) : ∀ j u, arr[j]? = some u → (w.alloc (.cells arr.toArray e)).cell? ((⟨b, 0, none⟩ : Addr).add j) = some u := by
  intro j u hj
  subst hb
  have := World.cell?_alloc_new (w := w) arr.toArray e j
  have ha : (⟨w.heap.size, 0, none⟩ : Addr).add j = ⟨w.heap.size, j, none⟩ := by
    unfold Addr.add
    split
    · rename_i h; rw [h]
    · simp
  rw [ha, this]; simpa using hj
theorem own_ge {w : World} {base size n : Nat} {e : TypeId} {v : Value} {xs : List Value} (h : w.ownsRow base e size v n xs) : ∀ k, v.ownBlock = some k → base ≤ k :=
  fun k hk => (h.lt k hk).1
end Lr
end Go.Proofs.YtjmifcnfnihhnaaGreatDoor
/- WALKS: numbers of a code's bytes, on both sides. -/
set_option linter.unusedVariables false
set_option linter.unusedSimpArgs false
namespace Go.Proofs.YtjmifcnfnihhnaaGreatDoor
namespace Lr
namespace Li
end Li
open Go.RowKit Li

theorem wrap64_i64 (n : Int) : IntKind.i64.wrap n = wrap64 n := by unfold wrap64; exact IntKind.wrap_i64 n
theorem or_low8 (x : Int) (b : Nat) (hb : b < 256) : bits BinOp.or IntKind.i64 (wrap64 (x * 256)) (wrap64 (b : Int)) = wrap64 (x * 256 + b) := by
  show IntKind.i64.wrap ((BitVec.ofInt 64 (wrap64 (x * 256)) ||| BitVec.ofInt 64 (wrap64 (b : Int))).toNat : Int) = _
  rw [BitVec.toNat_or, BitVec.toNat_ofInt, BitVec.toNat_ofInt, wrap64_i64]
  obtain ⟨q, hq⟩ : ∃ q : Nat, (wrap64 (x * 256) % ((2 ^ 64 : Nat) : Int)).toNat = 2 ^ 8 * q := ⟨((wrap64 (x * 256) % 18446744073709551616).toNat) / 256, by unfold wrap64; omega⟩
  have hb2 : (wrap64 (b : Int) % ((2 ^ 64 : Nat) : Int)).toNat = b := by unfold wrap64; omega
  rw [hq, hb2, ← Nat.two_pow_add_eq_or_of_lt hb]
  unfold wrap64 at hq ⊢
  omega
theorem ret_int' {k : IntKind} {a b : Int} (h : a = b) : Ending.returned (.int k a) = .returned (.int k b) := by rw [h]
set_option maxHeartbeats 800000 in
theorem number_any {s : ByteArray} {a n : Nat} {w : World} (hs : s.size ≤ 600000) (hn : a + n ≤ s.size) :
    Calls Tryz.prog 40 #[.string s, .int .i64 a, .int .i64 n] w fun e w' => e = .returned (.int .i64 (nV s a n)) ∧ w' = w := by
  go_enter Tryz.func40, Tryz.ntmps40
  go_wp2
  go_loop [7, 8] (fun v i => ∃ k : Nat, k ≤ n ∧ i = .int .i64 ((a + k : Nat) : Int) ∧ v = .int .i64 (nV s a k)) (fun _ i => a + n - (intOf i).toNat)
  case atStart => exact ⟨0, by omega, rfl, rfl⟩
  case round =>
    obtain ⟨k, hk, rfl, rfl⟩ := hrel
    have hbd := nV_bd s a k
    have HS : Hid (nV s a (k + 1) = wrap64 (nV s a k * 256 + bt s (a + k))) := rfl
    by_cases hlt : k < n
    · have HB : Hid (bt s (a + k) = s[a + k].toNat) := bt_at (by omega)
      go_wp2
      all_goals
        go_round
        case rel =>
          refine ⟨k + 1, by omega, by go_num, ?_⟩
          rw [HS.out, HB.out, or_low8 _ _ (UInt8.toNat_lt _)]
        case measure => simp [intOf]; omega
    · go_wp2
      go_ret
      exact ⟨ret_int' (by rw [show k = n by omega]), rfl⟩
theorem wrapped_any {n : Int} {w : World} (h0 : -9223372036854775808 ≤ n) (h1 : n ≤ 9223372036854775807) :
    Calls Tryz.prog 67 #[.int .i64 n] w fun e w' => e = .returned (.int .i64 (wrap64 (n * 2) / 2)) ∧ w' = w := by
  go_enter Tryz.func67, Tryz.ntmps67
  go_wp2
  go_ret
  exact ⟨rfl, rfl⟩
end Lr
end Go.Proofs.YtjmifcnfnihhnaaGreatDoor
/- AID: append onto a row that the call owns, with the block that it comes to lie in. No program is named here. -/
set_option linter.unusedVariables false
set_option linter.unusedSimpArgs false
namespace Go.Proofs.YtjmifcnfnihhnaaGreatDoor
namespace Lr
open Go.RowKit
section
variable {P : Program} (w : World)
theorem run_append_own2 (base : Nat) (t ty e : TypeId) (i : TypeInfo) (z : Value) (size bytes : Nat) (ht : P.underlying t = some (.slice e)) (hi : P.info? e = some i) (hz : i.zero = some z)
    (hsize : i.size = size) (hby : i.bytes = bytes) (hzs : z.cells.size = size) (hsz : 0 < size)
    (v : Value) (n : Nat) (xs : List Value) (hown : w.ownsRow base e size v n xs)
    (a : Addr) (m c : Nat) (news : List Value) (hl : news.length = m * size) (hnews : ∀ j u, news[j]? = some u → w.cell? (a.add j) = some u) (h1 : ∀ u ∈ news, u.oneCell' = true)
    (h63 : n + m ≤ maxLen) (hbytes : (n + m) * bytes ≤ 140737488355328) (hbase : base ≤ w.heap.size) :
    ∃ v' w', (Builtin.append_ #[t, t] ty #[v, .slice (some a) m c]).run P w = .ok v' w' ∧ w'.ownsRow base e size v' (n + m) (xs ++ news) ∧ w.grownBy w' v.ownBlock ∧
      (v'.ownBlock = v.ownBlock ∨ v'.ownBlock = some w.heap.size) := by
  obtain ⟨v', w', hr, h2, h3, _⟩ := run_append_own (P := P) w base t ty e i z size bytes ht hi hz hsize hby hzs hsz v n xs hown a m c news hl hnews h1 h63 hbytes hbase
  refine ⟨v', w', hr, h2, h3, ?_⟩
  subst hsize
  subst hby
  have hsmall : n + m ≤ 9223372036854775807 := by simp only [maxLen] at h63; omega
  rcases hown.2 with ⟨rfl, rfl⟩ | ⟨g, cap, cur, rfl, hbg, hg, hnc, hcm, hcs, htake⟩
  · by_cases hm : m = 0
    · subst hm
      rcases h2.2 with ⟨rfl, _⟩ | ⟨g, cap, cur, rfl, _⟩
      · left; rfl
      · have hn : news = [] := List.eq_nil_of_length_eq_zero (by simpa using hl)
        subst hn
        have hr2 : (Builtin.append_ #[t, t] ty #[.slice none 0 0, .slice (some a) 0 c]).run P w = .ok (.slice none 0 0) w := by
          simp [Builtin.append_, run_underlying ht, sizeOf, typeInfo, hi, Builtin.lenOf, Builtin.firstCells, loadCells, loadCellsFrom]
        rw [hr] at hr2
        injection hr2 with e1 _
        cases e1
    · have hr2 := run_append_nil (P := P) w t ty e i z ht hi hz a m c news hl hnews (by omega) (by omega) (by have hb := hbytes; simp only [Nat.zero_add] at hb; omega)
      rw [hr] at hr2
      injection hr2 with e1 _
      right; rw [e1]; rfl
  · by_cases hroom : n + m ≤ cap
    · have hfit : n * i.size + news.length ≤ cur.size := by rw [hl, hcs, ← Nat.add_mul]; exact Nat.mul_le_mul_right _ hroom
      have hr2 := run_append_room (P := P) w t ty e i ht hi g n cap cur hg a m c news hl hnews h1 hroom hfit
      rw [hr] at hr2
      injection hr2 with e1 _
      left; rw [e1]; rfl
    · have holds : ∀ j u, xs[j]? = some u → w.cell? ((⟨g, 0, none⟩ : Addr).add j) = some u := hown.cells (g := g) rfl
      have hr2 := run_append_grow (P := P) w t ty e i z ht hi hz ⟨g, 0, none⟩ n cap xs hown.1 holds a m c news hl hnews (by omega) (by omega) (growslice_fits (by omega) hbytes)
      rw [hr] at hr2
      injection hr2 with e1 _
      right; rw [e1]; rfl
theorem wpList_append_own2 {ops : Array Oper} {rest : List Oper} {o : Oper} {a : Act} {Q : Exit → Act → World → Prop} (hgd : o.guard = none) (s x : Operand) (t : TypeId)
    (ho : o.op = .call { callee := .builtin .append, args := #[s, x], argTypes := #[t, t] })
    (base : Nat) (e : TypeId) (i : TypeInfo) (z : Value) (size bytes : Nat) (ht : P.underlying t = some (.slice e)) (hi : P.info? e = some i) (hz : i.zero = some z)
    (hsize : i.size = size) (hby : i.bytes = bytes) (hzs : z.cells.size = size) (hsz : 0 < size)
    (v : Value) (n : Nat) (xs : List Value) (hs : a.eval s = v) (hown : w.ownsRow base e size v n xs)
    (ad : Addr) (m c : Nat) (news : List Value) (hx : a.eval x = .slice (some ad) m c) (hl : news.length = m * size) (hnews : ∀ j u, news[j]? = some u → w.cell? (ad.add j) = some u) (h1 : ∀ u ∈ news, u.oneCell' = true)
    (h63 : n + m ≤ maxLen) (hbytes : (n + m) * bytes ≤ 140737488355328) (hbase : base ≤ w.heap.size)
    (h : ∀ v' w', w'.ownsRow base e size v' (n + m) (xs ++ news) → w.grownBy w' v.ownBlock → (v'.ownBlock = v.ownBlock ∨ v'.ownBlock = some w.heap.size) → wpList P ops Q rest (a.put o.dst v') w') : wpList P ops Q (o :: rest) a w := by
  refine wpList_plain hgd fun K hK => ?_
  obtain ⟨v', w', hr, h2, h3, h4⟩ := run_append_own2 (P := P) w base t o.type e i z size bytes ht hi hz hsize hby hzs hsz v n xs hown ad m c news hl hnews h1 h63 hbytes hbase
  unfold Oper.wp execOp
  simp only [ho, resolve, invoke, builtin, Sem.run_bind, Sem.run_pure, Result.andThen_ok, List.map_toArray, List.map_cons, List.map_nil, hs, hx, hr]
  exact hK _ _ (h v' w' h2 h3 h4)
end
end Lr
end Go.Proofs.YtjmifcnfnihhnaaGreatDoor
/- AID: blocks and rows in memory. No program is named here. -/
set_option linter.unusedVariables false
set_option linter.unusedSimpArgs false
namespace Go.Proofs.YtjmifcnfnihhnaaGreatDoor
namespace Lr
open Go.RowKit
theorem cells_of_block' {w : World} {b : Nat} {a : Array Value} {t : TypeId} (h : w.heap[b]? = some (.cells a t (0, 0))) (i : Nat) : w.cell? ⟨b, i, none⟩ = a[i]? ∧ w.frozen? ⟨b, i, none⟩ = false := by
  constructor <;> simp [World.cell?, World.frozen?, h]
theorem lb_set {w : World} {b : Nat} {a : Array Value} {t : TypeId} (h : w.heap[b]? = some (.cells a t (0, 0))) (i : Nat) (u : Value) : (w.setCell ⟨b, i, none⟩ u).heap[b]? = some (.cells (a.setIfInBounds i u) t (0, 0)) := by
  have hlt := lt_of_block h
  have h' : w.heap[b] = .cells a t (0, 0) := by simpa [Array.getElem?_eq_getElem hlt] using h
  show (w.heap.modify b _)[b]? = _
  rw [Array.getElem?_eq_getElem (by simpa using hlt), Array.getElem_modify_self, h']
  rfl
theorem lb_below {w w' : World} {b B : Nat} {o : Obj} (h : w.heap[b]? = some o) (hb : Below B w w') (hB : b < B) : w'.heap[b]? = some o := (hb.block b hB).trans h
theorem lb_new (w : World) (o : Obj) : (w.alloc o).heap[w.heap.size]? = some o := by
  show (w.heap.push o)[w.heap.size]? = _
  simp
theorem lb_at {w : World} {b : Nat} {a : Array Value} {t : TypeId} {v : Value} (h : w.heap[b]? = some (.cells a t (0, 0))) (i : Nat) (hv : a[i]? = some v) : w.cell? ⟨b, i, none⟩ = some v := (cells_of_block' h i).1.trans hv
theorem lb_f {w : World} {b : Nat} {a : Array Value} {t : TypeId} (h : w.heap[b]? = some (.cells a t (0, 0))) (i : Nat) : w.frozen? ⟨b, i, none⟩ = false := (cells_of_block' h i).2
theorem lb_past {w : World} {b : Nat} {a : Array Value} {t : TypeId} {v : Value} (h : w.heap[b]? = some (.cells a t (0, 0))) (i : Nat) (hv : a[i]? = some v) : ∀ o, (w.alloc o).cell? ⟨b, i, none⟩ = some v := fun o => by
  have := Below.heap_alloc w o b (lt_of_block h)
  rw [World.cell?_of_block (w := w) (a := ⟨b, i, none⟩) this, (cells_of_block' h i).1, hv]
theorem setCell_size (w : World) (a : Addr) (u : Value) : (w.setCell a u).heap.size = w.heap.size := by simp [World.setCell]
theorem or_keep {w w1 : World} {base size n : Nat} {e : TypeId} {v : Value} {xs : List Value} (h : w.ownsRow base e size v n xs) (hb : ∀ b, v.ownBlock = some b → w1.heap[b]? = w.heap[b]?) : w1.ownsRow base e size v n xs := by
  refine ⟨h.1, ?_⟩
  rcases h.2 with h' | ⟨g, cap, cur, h1, h2, h3, h4⟩
  · exact .inl h'
  · exact .inr ⟨g, cap, cur, h1, h2, (hb g (by rw [h1]; rfl)).trans h3, h4⟩
theorem or_slice {w : World} {base size n : Nat} {e : TypeId} {v : Value} {xs : List Value} (h : w.ownsRow base e size v n xs) : ∃ a c, v = .slice a n c := by
  rcases h.2 with ⟨h1, h2⟩ | ⟨g, cap, cur, h1, h2, h3, h4⟩
  · exact ⟨none, 0, by rw [h1, h2]⟩
  · exact ⟨_, cap, h1⟩
theorem or_shape {w : World} {base size n : Nat} {e : TypeId} {v : Value} {xs : List Value} (h : w.ownsRow base e size v n xs) (hn : 1 ≤ n) : ∃ g cap, v = .slice (some ⟨g, 0, none⟩) n cap ∧ base ≤ g ∧ g < w.heap.size ∧ n ≤ cap ∧ cap ≤ maxLen := by
  rcases h.2 with ⟨_, h2⟩ | ⟨g, cap, cur, h1, h2, h3, h4, h5, _⟩
  · omega
  · exact ⟨g, cap, h1, h2, lt_of_block h3, h4, h5⟩
end Lr
end Go.Proofs.YtjmifcnfnihhnaaGreatDoor
/- WALKS: the document's row. -/
set_option linter.unusedVariables false
set_option linter.unusedSimpArgs false
namespace Go.Proofs.YtjmifcnfnihhnaaGreatDoor
namespace Lr
namespace Li
end Li
open Go.RowKit Li

theorem ret_bool' {a b : Bool} (h : a = b) : Ending.returned (.bool a) = .returned (.bool b) := by rw [h]
/-- is a row well made? f: its four numbers; l: the lines; p: the first line of the row ahead -/
def rwB (k f0 f1 f2 f3 l p : Nat) : Bool := decide (f1 ≤ 4) && (decide (f2 ≤ 1) && decide (f3 ≤ 1024)) && ((if k = 0 then (f0 == 0 && (f1 == 0 && f2 == 0)) else decide (p < f0)) && decide (f0 < l))
theorem rwB_rowB (s : ByteArray) (k : Nat) : rowB s k = rwB k (r0 s k) (r1 s k) (r2 s k) (r3 s k) (hL s) (r0 s (k - 1)) := rfl
theorem or_mono {w : World} {base base' size n : Nat} {e : TypeId} {v : Value} {xs : List Value} (h : w.ownsRow base e size v n xs) (hb : base' ≤ base) : w.ownsRow base' e size v n xs := by
  refine ⟨h.1, ?_⟩
  rcases h.2 with h' | ⟨g, cap, cur, h1, h2, h3⟩
  · exact .inl h'
  · exact .inr ⟨g, cap, cur, h1, by omega, h3⟩
theorem app_keep {w W w1 : World} {base n size : Nat} {e : TypeId} {v : Value} {xs : List Value} (hown : w.ownsRow base e size v n xs) (hW : Below w.heap.size w W) (hbase : base ≤ w.heap.size) (hg : W.grownBy w1 v.ownBlock) :
    (∀ b, b < w.heap.size → v.ownBlock ≠ some b → w1.heap[b]? = w.heap[b]?) ∧ w.heap.size ≤ w1.heap.size ∧ Below base w w1 := by
  have hs := hW.size
  have hs2 := hg.size
  exact ⟨fun b h1 h2 => (hg.block b (by omega) (fun h => h2 h.symm)).trans (hW.block b h1), by omega, (hW.mono hbase).grown hg (by omega) (own_ge hown)⟩
end Lr
end Go.Proofs.YtjmifcnfnihhnaaGreatDoor
/- PLAIN and WALKS: aids of the code's form. -/
set_option linter.unusedVariables false
set_option linter.unusedSimpArgs false
namespace Go.Proofs.YtjmifcnfnihhnaaGreatDoor
namespace Lr
namespace Li
end Li
open Go.RowKit Li
theorem res_none {s : ByteArray} (h : res s = none) : s.size ≤ 600000 ∧ hdB s = true ∧ bad (rowB s) (hF s) 0 = none ∧ bad (numB s) (hN s) 0 = none := by
  unfold res at h
  split at h
  · cases h
  · split at h
    · cases h
    · rename_i h1 h2
      refine ⟨by omega, by simpa using h2, ?_⟩
      split at h
      · cases h
      · rename_i h3
        split at h
        · cases h
        · rename_i h4; exact ⟨h3, h4⟩
theorem lb_new' {w : World} {o : Obj} {b : Nat} (h : b = w.heap.size) : (w.alloc o).heap[b]? = some o := by
  subst h; exact lb_new w o
end Lr
end Go.Proofs.YtjmifcnfnihhnaaGreatDoor
/- WALKS: the code's small functions of a code's rows. -/
set_option linter.unusedVariables false
set_option linter.unusedSimpArgs false
namespace Go.Proofs.YtjmifcnfnihhnaaGreatDoor
namespace Lr
namespace Li
end Li
open Go.RowKit Li

/-- a function's row on the code's side -/
def cF (s : ByteArray) (i : Nat) : List Value := [.int .i64 (r0 s i), .int .i64 (r1 s i), .int .i64 (r2 s i), .int .i64 (r3 s i)]
theorem cF_len (s : ByteArray) : ∀ i, (cF s i).length = 4 := fun _ => rfl
def rdB (s : ByteArray) (at' : Nat) (vF vN vL : Value) : Obj := .cells #[.string s, .int .i64 at', vF, vN, vL] 104 (0, 0)
set_option maxRecDepth 100000 in
set_option maxHeartbeats 800000 in
theorem function_any {w : World} {g n c i nn cn nl cl : Nat} {an al : Option Addr} {a0 a1 a2 a3 : Int} (hn : n ≤ 70000) (hi : i < n) (hc : n ≤ c) (hg : g < w.heap.size) (d0 : w.cell? ⟨g, i * 4, none⟩ = some (.int .i64 a0)) (d1 : w.cell? ⟨g, i * 4 + 1, none⟩ = some (.int .i64 a1)) (d2 : w.cell? ⟨g, i * 4 + 2, none⟩ = some (.int .i64 a2)) (d3 : w.cell? ⟨g, i * 4 + 3, none⟩ = some (.int .i64 a3)) :
    Calls Tryz.prog 68 #[.agg #[.slice (some ⟨g, 0, none⟩) n c, .slice an nn cn, .slice al nl cl], .int .i64 i] w fun e w' => e = .returned (.agg #[.int .i64 a0, .int .i64 a1, .int .i64 a2, .int .i64 a3]) ∧ Below w.heap.size w w' := by
  have hB : ∀ o1 o2 : Obj, Below w.heap.size w ((w.alloc o1).alloc o2) := fun o1 o2 => ((Below.refl _ _).alloc (Nat.le_refl _) _).alloc (by rw [World.size_alloc]; omega) _
  have e0 : ∀ o1 o2 : Obj, ((w.alloc o1).alloc o2).cell? ⟨g, i * 4, none⟩ = some (.int .i64 a0) := fun o1 o2 => ((hB o1 o2).cell (p := ⟨g, _, none⟩) hg).trans d0
  have e1 : ∀ o1 o2 : Obj, ((w.alloc o1).alloc o2).cell? ⟨g, i * 4 + 1, none⟩ = some (.int .i64 a1) := fun o1 o2 => ((hB o1 o2).cell (p := ⟨g, _, none⟩) hg).trans d1
  have e2 : ∀ o1 o2 : Obj, ((w.alloc o1).alloc o2).cell? ⟨g, i * 4 + 2, none⟩ = some (.int .i64 a2) := fun o1 o2 => ((hB o1 o2).cell (p := ⟨g, _, none⟩) hg).trans d2
  have e3 : ∀ o1 o2 : Obj, ((w.alloc o1).alloc o2).cell? ⟨g, i * 4 + 3, none⟩ = some (.int .i64 a3) := fun o1 o2 => ((hB o1 o2).cell (p := ⟨g, _, none⟩) hg).trans d3
  have HB : Hid (∀ o1 o2 : Obj, Below w.heap.size w ((w.alloc o1).alloc o2)) := hB
  have g1 : decide ((n : Int) ≤ (i : Int)) = false := by simp; omega
  have g2 : (i : Int) < (n : Int) := by omega
  clear hB d0 d1 d2 d3
  go_enter Tryz.func68, Tryz.ntmps68
  go_wp2
  go_returns
  exact ⟨rfl, HB.out _ _⟩
/-- may a row follow k rows? -/
def flB (k f0 f1 f2 f3 p : Nat) : Bool := decide (f1 ≤ 4) && (decide (f2 ≤ 1) && decide (f3 ≤ 1024)) && (if k = 0 then (f0 == 0 && (f1 == 0 && f2 == 0)) else decide (p < f0))
theorem flB_rwB (k f0 f1 f2 f3 l p : Nat) : rwB k f0 f1 f2 f3 l p = (flB k f0 f1 f2 f3 p && decide (f0 < l)) := by
  unfold rwB flB; simp only [Bool.and_assoc]
theorem flB_no {k f0 f1 f2 f3 p : Nat} (h : 4 < f1 ∨ 1 < f2 ∨ 1024 < f3) : flB k f0 f1 f2 f3 p = false := by
  unfold flB
  rcases h with h | h | h
  · rw [show decide (f1 ≤ 4) = false by simp; omega]; simp
  · rw [show decide (f2 ≤ 1) = false by simp; omega]; simp
  · rw [show decide (f3 ≤ 1024) = false by simp; omega]; simp
theorem flB_0 {f0 f1 f2 f3 p : Nat} (h1 : f1 ≤ 4) (h2 : f2 ≤ 1) (h3 : f3 ≤ 1024) : flB 0 f0 f1 f2 f3 p = (f0 == 0 && (f1 == 0 && f2 == 0)) := by
  unfold flB
  rw [show decide (f1 ≤ 4) = true by simp; omega, show decide (f2 ≤ 1) = true by simp; omega, show decide (f3 ≤ 1024) = true by simp; omega]
  simp
theorem flB_k {k f0 f1 f2 f3 p : Nat} (hk : k ≠ 0) (h1 : f1 ≤ 4) (h2 : f2 ≤ 1) (h3 : f3 ≤ 1024) : flB k f0 f1 f2 f3 p = decide (p < f0) := by
  unfold flB
  rw [show decide (f1 ≤ 4) = true by simp; omega, show decide (f2 ≤ 1) = true by simp; omega, show decide (f3 ≤ 1024) = true by simp; omega, if_neg hk]
  simp
theorem fld_fn0 (a b c d : Int) (w : World) : Sem.run Tryz.prog (Instr.field 97 (.agg #[.int .i64 a, .int .i64 b, .int .i64 c, .int .i64 d]) 0) w = .ok (.int .i64 a) w := by kernel_rfl
set_option maxRecDepth 100000 in
set_option maxHeartbeats 1600000 in
theorem follows_any {s : ByteArray} {w : World} {r at' k nn cn nl cl f0 f1 f2 f3 : Nat} {vF : Value} {an al : Option Addr} {R : Bool} (hR : flB k f0 f1 f2 f3 (r0 s (k - 1)) = R) (hk : k ≤ 70000) (hblk : w.heap[r]? = some (rdB s at' vF (.slice an nn cn) (.slice al nl cl))) {base : Nat} (hown : w.ownsRow base 97 4 vF k (rowC (cF s) k)) :
    Calls Tryz.prog 66 #[.pointer (some ⟨r, 0, none⟩), .agg #[.int .i64 f0, .int .i64 f1, .int .i64 f2, .int .i64 f3]] w fun e w' => e = .returned (.bool R) ∧ Below w.heap.size w w' := by
  have hlt := lt_of_block hblk
  have c2 := lb_at hblk 2 rfl
  have c2' : ∀ o, (w.alloc o).cell? ⟨r, 2, none⟩ = some vF := lb_past hblk 2 rfl
  have c3' : ∀ o, (w.alloc o).cell? ⟨r, 3, none⟩ = some (.slice an nn cn) := lb_past hblk 3 rfl
  have c4' : ∀ o, (w.alloc o).cell? ⟨r, 4, none⟩ = some (.slice al nl cl) := lb_past hblk 4 rfl
  simp only [List.getElem_toArray, List.getElem_cons_zero, List.getElem_cons_succ] at c2
  obtain ⟨aF, cFc, rfl⟩ := or_slice hown
  have HB : Hid (∀ o : Obj, Below w.heap.size w (w.alloc o)) := fun o => (Below.refl _ _).alloc (Nat.le_refl _) _
  by_cases h1 : f1 ≤ 4 ∧ f2 ≤ 1 ∧ f3 ≤ 1024
  · obtain ⟨h1, h2, h3⟩ := h1
    by_cases hk0 : k = 0
    · subst hk0
      have HR : Hid (R = (f0 == 0 && (f1 == 0 && f2 == 0))) := hR.symm.trans (flB_0 h1 h2 h3)
      clear hR hblk hown
      go_enter Tryz.func66, Tryz.ntmps66
      go_wp2
      all_goals
        go_ret
        refine ⟨?_, HB.out _⟩
        refine ret_bool' ?_
        rw [HR.out, Bool.eq_iff_iff]
        simp
        omega
    · have HR : Hid (R = decide (r0 s (k - 1) < f0)) := hR.symm.trans (flB_k hk0 h1 h2 h3)
      obtain ⟨m, rfl⟩ : ∃ m, k = m + 1 := ⟨k - 1, by omega⟩
      obtain ⟨g, cap, hsl, hg1, hg2, hg3, hg4⟩ := or_shape hown (by omega)
      injection hsl with e1 e2 e3
      subst e1 e3
      have hk1 : (((m + 1 : Nat) : Int) == 0) = false := by simp; omega
      have HF : Hid (∀ (z : Int) w', z = (m : Int) → Below w.heap.size w w' → Calls Tryz.prog 68 #[.agg #[.slice (some ⟨g, 0, none⟩) (m + 1) cFc, .slice an nn cn, .slice al nl cl], .int .i64 z] w' fun e w2 => e = .returned (.agg #[.int .i64 (r0 s m), .int .i64 (r1 s m), .int .i64 (r2 s m), .int .i64 (r3 s m)]) ∧ Below w'.heap.size w' w2) := fun z w' hz hb => by
        subst hz
        have hcell : ∀ o v, o < 4 → (cF s m)[o]? = some v → w'.cell? ⟨g, m * 4 + o, none⟩ = some v := fun o v ho hv => by
          rw [hb.cell (p := ⟨g, m * 4 + o, none⟩) hg2, hown.cellAt (m * 4 + o) (by omega)]
          exact (rowC_at (cF_len s) ho (m + 1) (by omega)).trans hv
        have hs := hb.size
        exact function_any (by omega) (by omega) hg3 (by omega) (hcell 0 _ (by omega) rfl) (hcell 1 _ (by omega) rfl) (hcell 2 _ (by omega) rfl) (hcell 3 _ (by omega) rfl)
      rw [Nat.add_sub_cancel] at HR
      have hf := fld_fn0 (r0 s m) (r1 s m) (r2 s m) (r3 s m)
      generalize (r0 s m : Nat) = q0 at *
      generalize (r1 s m : Int) = q1 at *
      generalize (r2 s m : Int) = q2 at *
      generalize (r3 s m : Int) = q3 at *
      clear hR hblk hown hk0
      go_enter Tryz.func66, Tryz.ntmps66
      have hwm : IntKind.i64.wrap (m : Int) = m := by rw [IntKind.wrap_i64]; omega
      go_wp2
      go_region_with (go_at_call 68; refine (HF.out _ _ (by omega) (by first | exact HB.out _ | exact (HB.out _).drew)).mono ?_; rintro _ w2 ⟨rfl, hb2⟩; have hc2 : w2.cell? ⟨w.heap.size, 0, none⟩ = some (.int .i64 f0) := (hb2.cell (p := ⟨w.heap.size, 0, none⟩) (by first | (show w.heap.size < (w.alloc _).heap.size; rw [World.size_alloc]; omega) | (show w.heap.size < (w.alloc _).drew.heap.size; show w.heap.size < (w.alloc _).heap.size; rw [World.size_alloc]; omega))).trans (lb_at (lb_new w _) 0 rfl))
      all_goals
        rename_i Q' K hK
        refine hK _ _ ?_
        clear hK
        clear K
        go_wp2
        go_ret
        refine ⟨ret_bool' ?_, ?_⟩
        · rw [HR.out]
        · have hb3 := hb2.mono (show w.heap.size ≤ (w.alloc _).heap.size by rw [World.size_alloc]; omega)
          first | exact (HB.out _).trans hb3 | exact ((HB.out _).drew).trans hb3
  · have HR : Hid (R = false) := hR.symm.trans (flB_no (by omega))
    clear hR hblk hown
    go_enter Tryz.func66, Tryz.ntmps66
    go_wp2
    all_goals
      first
        | omega
        | (go_ret; exact ⟨by rw [HR.out]; rfl, HB.out _⟩)
end Lr
end Go.Proofs.YtjmifcnfnihhnaaGreatDoor
/- WALKS: the code's table of functions. -/
set_option linter.unusedVariables false
set_option linter.unusedSimpArgs false
namespace Go.Proofs.YtjmifcnfnihhnaaGreatDoor
namespace Lr
namespace Li
end Li
open Go.RowKit Li

theorem Tryz.inf97 : (Tryz.prog.info? 97).map (fun i => (i.zero, i.size, i.bytes)) = some (some (.agg #[.int .i64 0, .int .i64 0, .int .i64 0, .int .i64 0]), 4, 32) := by kernel_rfl
theorem Tryz.und53 : Tryz.prog.underlying 53 = some (.slice 97) := by kernel_rfl
def nilS : Value := .slice none 0 0
/-- of the blocks that were there r alone has changed -/
structure Lone (r : Nat) (w w' : World) : Prop where
  below : Below r w w'
  size : w.heap.size ≤ w'.heap.size
  rest : ∀ b, b < w.heap.size → b ≠ r → w'.heap[b]? = w.heap[b]?
theorem Lone.refl (r : Nat) (w : World) : Lone r w w := ⟨Below.refl _ _, Nat.le_refl _, fun _ _ _ => rfl⟩
theorem Lone.trans {r : Nat} {w w1 w2 : World} (h : Lone r w w1) (h2 : Lone r w1 w2) : Lone r w w2 :=
  ⟨h.below.trans h2.below, Nat.le_trans h.size h2.size, fun b hb hr => (h2.rest b (by have := h.size; omega) hr).trans (h.rest b hb hr)⟩
theorem Lone.of {r : Nat} {w w1 : World} (h : Below w.heap.size w w1) (hr : r ≤ w.heap.size) : Lone r w w1 := ⟨h.mono hr, h.size, fun b hb _ => h.block b hb⟩
theorem Lone.set {r : Nat} {w w1 : World} (h : Lone r w w1) (i : Nat) (u : Value) : Lone r w (w1.setCell ⟨r, i, none⟩ u) :=
  ⟨h.below.setCell (p := ⟨r, i, none⟩) (Nat.le_refl _) _, by rw [setCell_size]; exact h.size, fun b hb hr => by rw [Below.heap_setCell _ _ _ _ hr]; exact h.rest b hb hr⟩
theorem Lone.drew {r : Nat} {w w1 : World} (h : Lone r w w1) : Lone r w w1.drew := ⟨h.below.drew, h.size, h.rest⟩
/-- a row appended to: all else is as it was -/
theorem Lone.app {r base n size : Nat} {w w0 W w1 : World} {e : TypeId} {v : Value} {xs : List Value} (h0 : Lone r w w0) (hown : w0.ownsRow base e size v n xs) (hb : w.heap.size ≤ base) (hr : r < base) (hW : Below w0.heap.size w0 W) (hbase : base ≤ w0.heap.size) (hg : W.grownBy w1 v.ownBlock) : Lone r w w1 := by
  obtain ⟨h1, h2, h3⟩ := app_keep hown hW hbase hg
  exact ⟨h0.below.trans (h3.mono (by omega)), by have := h0.size; omega, fun b hb' hr' => (h1 b (by have := h0.size; omega) (fun h => by have := (hown.lt _ h).1; omega)).trans (h0.rest b hb' hr')⟩
set_option maxRecDepth 100000 in
set_option maxHeartbeats 3200000 in
theorem rows_any {s : ByteArray} {w : World} {r F L : Nat} (hs : s.size ≤ 600000) (hsz : 8 + 6 * F ≤ s.size) (hF : F < 65536) (hLl : L < 65536) (hL' : hL s = L) (hblk : w.heap[r]? = some (rdB s 8 nilS nilS nilS)) :
    Calls Tryz.prog 39 #[.pointer (some ⟨r, 0, none⟩), .int .i64 F, .int .i64 L] w fun e w' => ∃ (k : Nat) (v : Value), w'.heap[r]? = some (rdB s (8 + 6 * k) v nilS nilS) ∧ Lone r w w' ∧
      ((e = .returned (.bool false) ∧ bad (rowB s) F 0 = some k) ∨ (e = .returned (.bool true) ∧ bad (rowB s) F 0 = none ∧ k = F ∧ w'.ownsRow w.heap.size 97 4 v F (rowC (cF s) F))) := by
  have hr := lt_of_block hblk
  obtain ⟨R, hR⟩ : ∃ R, bad (rowB s) F 0 = R := ⟨_, rfl⟩
  rw [hR]
  have HR : Hid (bad (rowB s) F 0 = R) := hR
  have HBK0 : Hid (w.heap[r]? = some (rdB s 8 nilS nilS nilS)) := hblk
  have EL : Hid (hL s = L) := hL'
  clear hR hblk hL'
  go_enter Tryz.func39, Tryz.ntmps39
  go_wp2_with fail
  go_loopw [7] (fun i wr => ∃ (k : Nat) (v : Value), k ≤ F ∧ i = .int .i64 k ∧ bad (rowB s) (F - k) k = R ∧ wr.heap[r]? = some (rdB s (8 + 6 * k) v nilS nilS) ∧ wr.ownsRow w.heap.size 97 4 v k (rowC (cF s) k) ∧ Lone r w wr) (fun i _ => F - (intOf i).toNat)
  case atStart => exact ⟨0, nilS, by omega, rfl, HR.out, HBK0.out, World.ownsRow_nil _ _ _ _, Lone.refl _ _⟩
  case round =>
    obtain ⟨k, v, hk, rfl, hbad, hblk, hown, hlone⟩ := hrel
    have HBK : Hid (wr.heap[r]? = some (rdB s (8 + 6 * k) v nilS nilS)) := hblk
    have HLO : Hid (Lone r w wr) := hlone
    have hsw := hlone.size
    by_cases hlt : k < F
    · have HBAD : Hid (bad (rowB s) (F - k) k = R) := hbad
      obtain ⟨f0, hf0⟩ : ∃ f, r0 s k = f := ⟨_, rfl⟩
      obtain ⟨f1, hf1⟩ : ∃ f, r1 s k = f := ⟨_, rfl⟩
      obtain ⟨f2, hf2⟩ : ∃ f, r2 s k = f := ⟨_, rfl⟩
      obtain ⟨f3, hf3⟩ : ∃ f, r3 s k = f := ⟨_, rfl⟩
      have hf0l : f0 < 65536 := by rw [← hf0]; exact n2_lt _ _
      have CA : Hid (∀ (z n : Int) (w : World), z = 8 + 6 * (k : Int) ∧ n = 2 → Calls Tryz.prog 40 #[.string s, .int .i64 z, .int .i64 n] w fun e w' => e = .returned (.int .i64 (f0 : Int)) ∧ w' = w) := fun z n w hz => by
        rw [hz.2]
        have := number_any (s := s) (a := 8 + 6 * k) (n := 2) (w := w) hs (by omega)
        rw [nV_2, show n2 s (8 + 6 * k) = f0 from hf0, show ((8 + 6 * k : Nat) : Int) = z by omega] at this
        exact this
      have CB : Hid (∀ (z n : Int) (w : World), z = 8 + 6 * (k : Int) + 2 ∧ n = 1 → Calls Tryz.prog 40 #[.string s, .int .i64 z, .int .i64 n] w fun e w' => e = .returned (.int .i64 (f1 : Int)) ∧ w' = w) := fun z n w hz => by
        rw [hz.2]
        have := number_any (s := s) (a := 8 + 6 * k + 2) (n := 1) (w := w) hs (by omega)
        rw [nV_1, show bt s (8 + 6 * k + 2) = f1 from hf1, show ((8 + 6 * k + 2 : Nat) : Int) = z by omega] at this
        exact this
      have CC : Hid (∀ (z n : Int) (w : World), z = 8 + 6 * (k : Int) + 3 ∧ n = 1 → Calls Tryz.prog 40 #[.string s, .int .i64 z, .int .i64 n] w fun e w' => e = .returned (.int .i64 (f2 : Int)) ∧ w' = w) := fun z n w hz => by
        rw [hz.2]
        have := number_any (s := s) (a := 8 + 6 * k + 3) (n := 1) (w := w) hs (by omega)
        rw [nV_1, show bt s (8 + 6 * k + 3) = f2 from hf2, show ((8 + 6 * k + 3 : Nat) : Int) = z by omega] at this
        exact this
      have CD : Hid (∀ (z n : Int) (w : World), z = 8 + 6 * (k : Int) + 4 ∧ n = 2 → Calls Tryz.prog 40 #[.string s, .int .i64 z, .int .i64 n] w fun e w' => e = .returned (.int .i64 (f3 : Int)) ∧ w' = w) := fun z n w hz => by
        rw [hz.2]
        have := number_any (s := s) (a := 8 + 6 * k + 4) (n := 2) (w := w) hs (by omega)
        rw [nV_2, show n2 s (8 + 6 * k + 4) = f3 from hf3, show ((8 + 6 * k + 4 : Nat) : Int) = z by omega] at this
        exact this
      have HOW : Hid (wr.ownsRow w.heap.size 97 4 v k (rowC (cF s) k)) := hown
      have c0 : wr.cell? ⟨r, 0, none⟩ = some (.string s) := lb_at hblk 0 rfl
      have c1 : wr.cell? ⟨r, 1, none⟩ = some (.int .i64 (8 + 6 * (k : Int))) := by
        have := lb_at hblk 1 rfl
        simpa using this
      have n0 := World.new_ne wr ⟨r, 0, none⟩ c0
      have n1 := World.new_ne wr ⟨r, 1, none⟩ c1
      have y2 : IntKind.i64.wrap (8 + 6 * (k : Int) + 2) = 8 + 6 * (k : Int) + 2 := by rw [IntKind.wrap_i64]; omega
      have y3 : IntKind.i64.wrap (8 + 6 * (k : Int) + 3) = 8 + 6 * (k : Int) + 3 := by rw [IntKind.wrap_i64]; omega
      have y4 : IntKind.i64.wrap (8 + 6 * (k : Int) + 4) = 8 + 6 * (k : Int) + 4 := by rw [IntKind.wrap_i64]; omega
      have HRW : Hid (rowB s k = (flB k f0 f1 f2 f3 (r0 s (k - 1)) && decide (f0 < L))) := by
        show _ = _
        rw [rwB_rowB, flB_rwB, EL.out, hf0, hf1, hf2, hf3]
      have ECF : Hid (cF s k = [.int .i64 f0, .int .i64 f1, .int .i64 f2, .int .i64 f3]) := by show cF s k = _; unfold cF; rw [hf0, hf1, hf2, hf3]
      clear hf0 hf1 hf2 hf3 hbad hblk hown hlone
      go_upto_region 4 with fail
      go_cut [8] from 9 to 82 (fun s8 wx => s8 = .pointer (some ⟨wr.heap.size, 0, none⟩) ∧ wx = (wr.alloc (.cells #[.int .i64 f0, .int .i64 f1, .int .i64 f2, .int .i64 f3] 97)).drew)
      case first =>
        go_region_held3 (fun w' => w'.cell? ⟨r, 0, none⟩ = some (.string s) ∧ w'.cell? ⟨r, 1, none⟩ = some (.int .i64 (8 + 6 * (k : Int)))) (go_keep) (first
          | (go_at_call 40; refine (CA.out _ _ _ (by omega)).mono ?_; rintro _ w1 ⟨rfl, hw1⟩; have hw2 := hw1.symm; subst hw2)
          | (go_at_call 40; refine (CB.out _ _ _ (by omega)).mono ?_; rintro _ w1 ⟨rfl, hw1⟩; have hw2 := hw1.symm; subst hw2)
          | (go_at_call 40; refine (CC.out _ _ _ (by omega)).mono ?_; rintro _ w1 ⟨rfl, hw1⟩; have hw2 := hw1.symm; subst hw2)
          | (go_at_call 40; refine (CD.out _ _ _ (by omega)).mono ?_; rintro _ w1 ⟨rfl, hw1⟩; have hw2 := hw1.symm; subst hw2))
        all_goals (try go_wp2_with fail)
        all_goals go_meet
        all_goals exact ⟨rfl, rfl⟩
      case rest =>
        obtain ⟨rfl, rfl⟩ := hcut
        have hB : Below wr.heap.size wr (wr.alloc (.cells #[.int .i64 f0, .int .i64 f1, .int .i64 f2, .int .i64 f3] 97)).drew := ((Below.refl _ _).alloc (Nat.le_refl _) _).drew
        have hblk1 := lb_below HBK.out hB (by omega)
        have hnew : (wr.alloc (.cells #[.int .i64 f0, .int .i64 f1, .int .i64 f2, .int .i64 f3] 97)).drew.heap[wr.heap.size]? = some (.cells #[.int .i64 f0, .int .i64 f1, .int .i64 f2, .int .i64 f3] 97) := lb_new wr _
        have hown1 := own_below HOW.out hB
        have hsz1 : (wr.alloc (.cells #[.int .i64 f0, .int .i64 f1, .int .i64 f2, .int .i64 f3] 97)).drew.heap.size = wr.heap.size + 1 := World.size_alloc (w := wr) _
        have hlo1 := HLO.out.trans (Lone.of hB (by omega))
        generalize (wr.alloc (.cells #[.int .i64 f0, .int .i64 f1, .int .i64 f2, .int .i64 f3] 97)).drew = W at *
        have e0 := lb_at hnew 0 rfl
        have e1 := lb_at hnew 1 rfl
        have e2 := lb_at hnew 2 rfl
        have e3 := lb_at hnew 3 rfl
        simp only [List.getElem_toArray, List.getElem_cons_zero, List.getElem_cons_succ] at e0 e1 e2 e3
        have HFO : Hid (∀ Q, flB k f0 f1 f2 f3 (r0 s (k - 1)) = Q → Calls Tryz.prog 66 #[.pointer (some ⟨r, 0, none⟩), .agg #[.int .i64 f0, .int .i64 f1, .int .i64 f2, .int .i64 f3]] W fun e w' => e = .returned (.bool Q) ∧ Below W.heap.size W w') := fun Q hQ => follows_any hQ (by omega) hblk1 hown1
        have HB1 : Hid (W.heap[r]? = some (rdB s (8 + 6 * k) v nilS nilS)) := hblk1
        have HN1 : Hid (W.heap[wr.heap.size]? = some (.cells #[.int .i64 f0, .int .i64 f1, .int .i64 f2, .int .i64 f3] 97)) := hnew
        have HO1 : Hid (W.ownsRow w.heap.size 97 4 v k (rowC (cF s) k)) := hown1
        have HL1 : Hid (Lone r w W) := hlo1
        have HS1 : Hid (W.heap.size = wr.heap.size + 1) := hsz1
        clear hB hblk1 hnew hown1 hlo1 hsz1 c0 c1 n0 n1 HBK HOW HLO
        by_cases hfl : flB k f0 f1 f2 f3 (r0 s (k - 1)) = true
        · have HC := Lib.hid (HFO.out true hfl)
          by_cases hll : f0 < L
          · have HNX : Hid (bad (rowB s) (F - (k + 1)) (k + 1) = R) := by
              have h := HBAD.out
              rw [show F - k = (F - (k + 1)) + 1 by omega, bad, if_pos (by rw [HRW.out, hfl, decide_eq_true hll]; rfl)] at h
              exact h
            have hdl : decide ((L : Int) ≤ (f0 : Int)) = false := by simp; omega
            clear hfl HFO
            obtain ⟨i0, hi0, hz1, hz2, hz3⟩ := info_parts Tryz.inf97
            go_wp2_with (go_at_call 66; refine HC.out.mono ?_; rintro _ w2 ⟨rfl, hb2⟩; have hs2 := hb2.size; have hsW := HS1.out; have HB2 := Lib.hid (lb_below HB1.out hb2 (by omega)); have HN2 := Lib.hid (lb_below HN1.out hb2 (by omega)); have HO2 := Lib.hid (own_below HO1.out hb2); have HL2 := Lib.hid (HL1.out.trans (Lone.of hb2 (by omega))); have g0 := lb_at HN2.out 0 rfl; have g1 := lb_at HN2.out 1 rfl; have g2 := lb_at HN2.out 2 rfl; have g3 := lb_at HN2.out 3 rfl; have d2 := lb_at HB2.out 2 rfl; have d2' : ∀ o, (w2.alloc o).cell? ⟨r, 2, none⟩ = some v := lb_past HB2.out 2 rfl; simp only [List.getElem_toArray, List.getElem_cons_zero, List.getElem_cons_succ] at g0 g1 g2 g3 d2)
            go_region_law ((refine step_append_lies _ (by rfl) (.tmp 69) (.tmp 71) 53 (by rfl) w.heap.size 97 i0 _ 4 32 Tryz.und53 hi0 hz1 hz2 hz3 rfl (by decide) v k (rowC (cF s) k) (by rfl) (HO2.out.alloc _) ⟨w2.heap.size, 0, none⟩ 1 1 [.int .i64 f0, .int .i64 f1, .int .i64 f2, .int .i64 f3] (by rfl) (by rfl) (cells_new _ _ _ _ (by simp)) (by intro u hu; simp at hu; rcases hu with rfl | rfl | rfl | rfl <;> rfl) (by decide) (by unfold maxLen; omega) (by omega) (by simp; omega) _ rfl ?_; intro g c w3 hown3 hgrow hat hlt3; obtain ⟨hh3, hs3, hb3⟩ := app_keep HO2.out (((Below.refl _ _).alloc (Nat.le_refl _) _).drew) (by omega) hgrow; have hlo3 := Lone.app HL2.out HO2.out (Nat.le_refl _) hr (((Below.refl _ _).alloc (Nat.le_refl _) _).drew) (by omega) hgrow; have hblk3 := (hh3 r (by omega) (fun h => by have := (HO2.out.lt _ h).1; omega)).trans HB2.out; have d3 := lb_at hblk3 2 rfl; have q3 := lb_f hblk3 2; simp only [List.getElem_toArray, List.getElem_cons_zero, List.getElem_cons_succ] at d3))
            all_goals
              rename_i Q' K hK
              refine hK _ _ ?_
              clear hK
              clear K
              have hblk4 := lb_set hblk3 2 (.slice (some ⟨g, 0, none⟩) (k + 1) c)
              have c41 : (w3.setCell ⟨r, 2, none⟩ (.slice (some ⟨g, 0, none⟩) (k + 1) c)).cell? ⟨r, 1, none⟩ = some (.int .i64 (8 + 6 * (k : Int))) := by
                have := lb_at hblk4 1 rfl
                simpa using this
              have q41 := lb_f hblk4 1
              go_wp2_with fail
              go_roundw
              case rel =>
                refine ⟨k + 1, .slice (some ⟨g, 0, none⟩) (k + 1) c, by omega, by go_num, HNX.out, ?_, ?_, (hlo3.set 2 _).set 1 _⟩
                · have e : ((8 + 6 * (k + 1) : Nat) : Int) = 8 + 6 * (k : Int) + 6 := by omega
                  unfold rdB
                  rw [e]
                  exact lb_set hblk4 1 _
                · have e : rowC (cF s) (k + 1) = rowC (cF s) k ++ [.int .i64 f0, .int .i64 f1, .int .i64 f2, .int .i64 f3] := by rw [← ECF.out]; rfl
                  rw [e]
                  exact ownsRow_setCell_below (a := ⟨r, 1, none⟩) (ownsRow_setCell_below (a := ⟨r, 2, none⟩) hown3 hr _) hr _
              case measure => simp [intOf]; omega
          · have HNX : Hid (R = some k) := by
              have h := HBAD.out
              rw [show F - k = (F - (k + 1)) + 1 by omega, bad, if_neg (by rw [HRW.out, decide_eq_false hll]; simp)] at h
              exact h.symm
            have hdl : decide ((L : Int) ≤ (f0 : Int)) = true := by simp; omega
            clear hfl HFO
            go_wp2_with (go_at_call 66; refine HC.out.mono ?_; rintro _ w2 ⟨rfl, hb2⟩; have hs2 := hb2.size; have hsW := HS1.out; have HN2 := Lib.hid (lb_below HN1.out hb2 (by omega)); have g0 := lb_at HN2.out 0 rfl; simp only [List.getElem_toArray, List.getElem_cons_zero, List.getElem_cons_succ] at g0)
            go_ret
            exact ⟨k, v, lb_below HB1.out hb2 (by omega), HL1.out.trans (Lone.of hb2 (by omega)), .inl ⟨rfl, HNX.out⟩⟩
        · have hff : flB k f0 f1 f2 f3 (r0 s (k - 1)) = false := by simpa using hfl
          have HC := Lib.hid (HFO.out false hff)
          have HNX : Hid (R = some k) := by
            have h := HBAD.out
            rw [show F - k = (F - (k + 1)) + 1 by omega, bad, if_neg (by rw [HRW.out, hff]; simp)] at h
            exact h.symm
          clear hfl hff HFO
          go_wp2_with (go_at_call 66; refine HC.out.mono ?_; rintro _ w2 ⟨rfl, hb2⟩; have hs2 := hb2.size; have hsW := HS1.out)
          go_ret
          exact ⟨k, v, lb_below HB1.out hb2 (by omega), HL1.out.trans (Lone.of hb2 (by omega)), .inl ⟨rfl, HNX.out⟩⟩
    · rw [show k = F by omega] at hown hbad hblk
      rw [Nat.sub_self, bad] at hbad
      have HNX : Hid (R = none) := hbad.symm
      have HOW : Hid (wr.ownsRow w.heap.size 97 4 v F (rowC (cF s) F)) := hown
      have HB : Hid (wr.heap[r]? = some (rdB s (8 + 6 * F) v nilS nilS)) := hblk
      clear hbad hown hblk hlone
      go_wp2_with fail
      go_ret
      exact ⟨F, v, HB.out, HLO.out, .inr ⟨rfl, HNX.out, rfl, HOW.out⟩⟩
end Lr
end Go.Proofs.YtjmifcnfnihhnaaGreatDoor
/- WALKS: the code's constants. -/
set_option linter.unusedVariables false
set_option linter.unusedSimpArgs false
namespace Go.Proofs.YtjmifcnfnihhnaaGreatDoor
namespace Lr
namespace Li
end Li
open Go.RowKit Li

theorem Tryz.inG3 : (Tryz.prog.info? 3).map (fun i => (i.zero, i.size, i.bytes)) = some (some (.int .i64 0), 1, 8) := by kernel_rfl
def cN (s : ByteArray) (i : Nat) : List Value := [.int .i64 (kn s i)]
set_option maxRecDepth 100000 in
set_option maxHeartbeats 3200000 in
theorem constants_any {s : ByteArray} {w : World} {r F N : Nat} {aF : Option Addr} {nF cF' : Nat} (hs : s.size ≤ 600000) (hsz : 8 + 6 * F + 8 * N ≤ s.size) (hFl : F < 65536) (hNl : N < 65536) (hF' : hF s = F) (hblk : w.heap[r]? = some (rdB s (8 + 6 * F) (.slice aF nF cF') nilS nilS)) :
    Calls Tryz.prog 41 #[.pointer (some ⟨r, 0, none⟩), .int .i64 N] w fun e w' => ∃ (k : Nat) (v : Value), w'.heap[r]? = some (rdB s (8 + 6 * F + 8 * k) (.slice aF nF cF') v nilS) ∧ Lone r w w' ∧
      ((e = .returned (.bool false) ∧ bad (numB s) N 0 = some k) ∨ (e = .returned (.bool true) ∧ bad (numB s) N 0 = none ∧ k = N ∧ w'.ownsRow w.heap.size 3 1 v N (rowC (cN s) N))) := by
  have hr := lt_of_block hblk
  obtain ⟨R, hR⟩ : ∃ R, bad (numB s) N 0 = R := ⟨_, rfl⟩
  rw [hR]
  have HR : Hid (bad (numB s) N 0 = R) := hR
  have HBK0 : Hid (w.heap[r]? = some (rdB s (8 + 6 * F) (.slice aF nF cF') nilS nilS)) := hblk
  have EF : Hid (hF s = F) := hF'
  clear hR hblk hF'
  go_enter Tryz.func41, Tryz.ntmps41
  go_wp2_with fail
  go_loopw [5] (fun i wr => ∃ (k : Nat) (v : Value), k ≤ N ∧ i = .int .i64 k ∧ bad (numB s) (N - k) k = R ∧ wr.heap[r]? = some (rdB s (8 + 6 * F + 8 * k) (.slice aF nF cF') v nilS) ∧ wr.ownsRow w.heap.size 3 1 v k (rowC (cN s) k) ∧ Lone r w wr) (fun i _ => N - (intOf i).toNat)
  case atStart => exact ⟨0, nilS, by omega, rfl, HR.out, HBK0.out, World.ownsRow_nil _ _ _ _, Lone.refl _ _⟩
  case round =>
    obtain ⟨k, v, hk, rfl, hbad, hblk, hown, hlone⟩ := hrel
    have HBK : Hid (wr.heap[r]? = some (rdB s (8 + 6 * F + 8 * k) (.slice aF nF cF') v nilS)) := hblk
    have HLO : Hid (Lone r w wr) := hlone
    have hsw := hlone.size
    by_cases hlt : k < N
    · have HBAD : Hid (bad (numB s) (N - k) k = R) := hbad
      have hp : pN s k = 8 + 6 * F + 8 * k := by unfold pN; rw [EF.out]
      obtain ⟨x, hx⟩ : ∃ x, kn s k = x := ⟨_, rfl⟩
      have hxb : -9223372036854775808 ≤ x ∧ x ≤ 9223372036854775807 := by rw [← hx]; exact nV_bd _ _ _
      obtain ⟨hx1, hx2⟩ := hxb
      have CA : Hid (∀ (z n : Int) (w : World), z = 8 + 6 * (F : Int) + 8 * (k : Int) ∧ n = 8 → Calls Tryz.prog 40 #[.string s, .int .i64 z, .int .i64 n] w fun e w' => e = .returned (.int .i64 x) ∧ w' = w) := fun z n w hz => by
        rw [hz.2]
        have := number_any (s := s) (a := 8 + 6 * F + 8 * k) (n := 8) (w := w) hs (by omega)
        rw [show nV s (8 + 6 * F + 8 * k) 8 = x by rw [← hp]; exact hx, show ((8 + 6 * F + 8 * k : Nat) : Int) = z by omega] at this
        exact this
      have HNB : Hid (numB s k = (decide (-4611686018427387904 ≤ x) && decide (x ≤ 4611686018427387903))) := by show _ = _; unfold numB; rw [hx]
      have ECN : Hid (cN s k = [.int .i64 x]) := by show cN s k = _; unfold cN; rw [hx]
      have HOW : Hid (wr.ownsRow w.heap.size 3 1 v k (rowC (cN s) k)) := hown
      have c0 : wr.cell? ⟨r, 0, none⟩ = some (.string s) := lb_at hblk 0 rfl
      have c1 : wr.cell? ⟨r, 1, none⟩ = some (.int .i64 (8 + 6 * (F : Int) + 8 * (k : Int))) := by
        have := lb_at hblk 1 rfl
        simpa using this
      clear hp hx hbad hblk hown hlone
      go_upto_region 4 with fail
      go_cut [6] from 7 to 43 (fun s6 wx => s6 = .int .i64 x ∧ wx = wr.drew)
      case first =>
        go_region_held3 (fun w' => w'.cell? ⟨r, 0, none⟩ = some (.string s) ∧ w'.cell? ⟨r, 1, none⟩ = some (.int .i64 (8 + 6 * (F : Int) + 8 * (k : Int)))) (go_keep) ((go_at_call 40; refine (CA.out _ _ _ (by omega)).mono ?_; rintro _ w1 ⟨rfl, hw1⟩; have hw2 := hw1.symm; subst hw2))
        all_goals (try go_wp2_with fail)
        all_goals go_meet
        all_goals exact ⟨rfl, rfl⟩
      case rest =>
        obtain ⟨rfl, rfl⟩ := hcut
        by_cases hnb : -4611686018427387904 ≤ x ∧ x ≤ 4611686018427387903
        · obtain ⟨hnb1, hnb2⟩ := hnb
          have HNX : Hid (bad (numB s) (N - (k + 1)) (k + 1) = R) := by
            have h := HBAD.out
            rw [show N - k = (N - (k + 1)) + 1 by omega, bad, if_pos (by rw [HNB.out, decide_eq_true hnb1, decide_eq_true hnb2]; rfl)] at h
            exact h
          have HW : Hid (∀ w : World, Calls Tryz.prog 67 #[.int .i64 x] w fun e w' => e = .returned (.int .i64 x) ∧ w' = w) := fun w => by
            have := wrapped_any (n := x) (w := w) (by omega) (by omega)
            rw [show wrap64 (x * 2) / 2 = x by unfold wrap64; omega] at this
            exact this
          have HBd : Hid (wr.drew.heap[r]? = some (rdB s (8 + 6 * F + 8 * k) (.slice aF nF cF') v nilS)) := HBK.out
          have HOd : Hid (wr.drew.ownsRow w.heap.size 3 1 v k (rowC (cN s) k)) := HOW.out.drew
          have HLd : Hid (Lone r w wr.drew) := HLO.out.drew
          have hsd : w.heap.size ≤ wr.drew.heap.size := hsw
          obtain ⟨W, hW⟩ : ∃ W, W = wr.drew := ⟨_, rfl⟩
          rw [← hW] at HBd HOd HLd hsd ⊢
          clear hW c0 c1 HBK HOW HLO
          have d3 := lb_at HBd.out 3 rfl
          have d3' : ∀ o, (W.alloc o).cell? ⟨r, 3, none⟩ = some v := lb_past HBd.out 3 rfl
          simp only [List.getElem_toArray, List.getElem_cons_zero, List.getElem_cons_succ] at d3
          obtain ⟨i0, hi0, hz1, hz2, hz3⟩ := info_parts Tryz.inG3
          go_wp2_with (first
            | (go_at_call 67; refine (HW.out _).mono ?_; rintro _ w1 ⟨rfl, hw1⟩; have hw2 := hw1.symm; subst hw2)
            | (at_builtin; refine wpList_append_own2 _ rfl (.tmp 30) (.tmp 32) 27 rfl w.heap.size 3 i0 _ 1 8 Tryz.underlying27 hi0 hz1 hz2 hz3 rfl (by decide) _ _ _ rfl (HOd.out.alloc _) _ 1 1 [.int .i64 x] rfl rfl (cells_new _ _ _ _ (by simp)) ?_ ?_ ?_ ?_ ?_; (intro u hu; simp at hu; subst hu; rfl); (unfold maxLen; omega); omega; (simp; omega); intro v' w4 hown4 hg4 hrow4; clear hrow4; obtain ⟨hh4, hs4, hb4⟩ := app_keep HOd.out ((Below.refl _ _).alloc (Nat.le_refl _) _) (by omega) hg4; have hlo4 := Lone.app HLd.out HOd.out (Nat.le_refl _) hr ((Below.refl _ _).alloc (Nat.le_refl _) _) (by omega) hg4; have hblk4 := (hh4 r (by omega) (fun h => by have := (HOd.out.lt _ h).1; omega)).trans HBd.out; obtain ⟨a4, c4, rfl⟩ := or_slice hown4; have f3 := lb_at hblk4 3 rfl; have q3 := lb_f hblk4 3; have hblk5 := lb_set hblk4 3 (.slice a4 (k + 1) c4); have c51 : (w4.setCell ⟨r, 3, none⟩ (.slice a4 (k + 1) c4)).cell? ⟨r, 1, none⟩ = some (.int .i64 (8 + 6 * (F : Int) + 8 * (k : Int))) := (by have := lb_at hblk5 1 rfl; simpa using this); have q51 := lb_f hblk5 1; simp only [List.getElem_toArray, List.getElem_cons_zero, List.getElem_cons_succ] at f3))
          go_roundw
          case rel =>
            refine ⟨k + 1, .slice a4 (k + 1) c4, by omega, by go_num, HNX.out, ?_, ?_, (hlo4.set 3 _).set 1 _⟩
            · have e : ((8 + 6 * F + 8 * (k + 1) : Nat) : Int) = 8 + 6 * (F : Int) + 8 * (k : Int) + 8 := by omega
              unfold rdB
              rw [e]
              exact lb_set hblk5 1 _
            · have e : rowC (cN s) (k + 1) = rowC (cN s) k ++ [.int .i64 x] := by rw [← ECN.out]; rfl
              rw [e]
              exact ownsRow_setCell_below (a := ⟨r, 1, none⟩) (ownsRow_setCell_below (a := ⟨r, 3, none⟩) hown4 hr _) hr _
          case measure => simp [intOf]; omega
        · have HNX : Hid (R = some k) := by
            have h := HBAD.out
            rw [show N - k = (N - (k + 1)) + 1 by omega, bad, if_neg (by rw [HNB.out]; simp; omega)] at h
            exact h.symm
          obtain ⟨y, hy⟩ : ∃ y, wrap64 (x * 2) / 2 = y := ⟨_, rfl⟩
          have HW : Hid (∀ w : World, Calls Tryz.prog 67 #[.int .i64 x] w fun e w' => e = .returned (.int .i64 y) ∧ w' = w) := fun w => by
            rw [← hy]
            exact wrapped_any (n := x) (w := w) (by omega) (by omega)
          have hyx : y ≠ x := by rw [← hy]; unfold wrap64; omega
          have hyb : (y != x) = true := by simp [hyx]
          clear hnb hy
          go_wp2_with (go_at_call 67; refine (HW.out _).mono ?_; rintro _ w1 ⟨rfl, hw1⟩; have hw2 := hw1.symm; subst hw2)
          all_goals first
            | (exfalso; exact hyx (by assumption))
            | (go_ret
               exact ⟨k, v, HBK.out, HLO.out.drew, .inl ⟨rfl, HNX.out⟩⟩)
    · rw [show k = N by omega] at hown hbad hblk
      rw [Nat.sub_self, bad] at hbad
      have HNX : Hid (R = none) := hbad.symm
      have HOW : Hid (wr.ownsRow w.heap.size 3 1 v N (rowC (cN s) N)) := hown
      have HB : Hid (wr.heap[r]? = some (rdB s (8 + 6 * F + 8 * N) (.slice aF nF cF') v nilS)) := hblk
      clear hbad hown hblk hlone
      go_wp2_with fail
      go_ret
      exact ⟨N, v, HB.out, HLO.out, .inr ⟨rfl, HNX.out, rfl, HOW.out⟩⟩
end Lr
end Go.Proofs.YtjmifcnfnihhnaaGreatDoor
/- WALKS: the code's lines. -/
set_option linter.unusedVariables false
set_option linter.unusedSimpArgs false
namespace Go.Proofs.YtjmifcnfnihhnaaGreatDoor
namespace Lr
namespace Li
end Li
open Go.RowKit Li

theorem Tryz.inf99 : (Tryz.prog.info? 99).map (fun i => (i.zero, i.size, i.bytes)) = some (some (.agg #[.int .i64 0, .int .i64 0, .int .i64 0, .int .i64 0, .int .i64 0]), 5, 40) := by kernel_rfl
theorem Tryz.und54 : Tryz.prog.underlying 54 = some (.slice 99) := by kernel_rfl
def cL (s : ByteArray) (i : Nat) : List Value := [.int .i64 (l0 s i), .int .i64 (l1 s i), .int .i64 (l2 s i), .int .i64 (l3 s i), .int .i64 (l4 s i)]
set_option maxRecDepth 100000 in
set_option maxHeartbeats 6400000 in
theorem lines_any {s : ByteArray} {w : World} {r F N L : Nat} {aF aN : Option Addr} {nF cF' nN cN' : Nat} (hs : s.size ≤ 600000) (hsz : 8 + 6 * F + 8 * N + 8 * L ≤ s.size) (hFl : F < 65536) (hNl : N < 65536) (hLl : L < 65536) (hF' : hF s = F) (hN' : hN s = N) (hblk : w.heap[r]? = some (rdB s (8 + 6 * F + 8 * N) (.slice aF nF cF') (.slice aN nN cN') nilS)) :
    Calls Tryz.prog 42 #[.pointer (some ⟨r, 0, none⟩), .int .i64 L] w fun e w' => e = .returned (.tuple #[]) ∧ ∃ (v : Value), w'.heap[r]? = some (rdB s (8 + 6 * F + 8 * N + 8 * L) (.slice aF nF cF') (.slice aN nN cN') v) ∧ Lone r w w' ∧ w'.ownsRow w.heap.size 99 5 v L (rowC (cL s) L) := by
  have hr := lt_of_block hblk
  have HBK0 : Hid (w.heap[r]? = some (rdB s (8 + 6 * F + 8 * N) (.slice aF nF cF') (.slice aN nN cN') nilS)) := hblk
  have EF : Hid (hF s = F) := hF'
  have EN : Hid (hN s = N) := hN'
  clear hblk hF' hN'
  go_enter Tryz.func42, Tryz.ntmps42
  go_wp2_with fail
  go_loopw [4] (fun i wr => ∃ (k : Nat) (v : Value), k ≤ L ∧ i = .int .i64 k ∧ wr.heap[r]? = some (rdB s (8 + 6 * F + 8 * N + 8 * k) (.slice aF nF cF') (.slice aN nN cN') v) ∧ wr.ownsRow w.heap.size 99 5 v k (rowC (cL s) k) ∧ Lone r w wr) (fun i _ => L - (intOf i).toNat)
  case atStart => exact ⟨0, nilS, by omega, rfl, HBK0.out, World.ownsRow_nil _ _ _ _, Lone.refl _ _⟩
  case round =>
    obtain ⟨k, v, hk, rfl, hblk, hown, hlone⟩ := hrel
    have HBK : Hid (wr.heap[r]? = some (rdB s (8 + 6 * F + 8 * N + 8 * k) (.slice aF nF cF') (.slice aN nN cN') v)) := hblk
    have HLO : Hid (Lone r w wr) := hlone
    have hsw := hlone.size
    by_cases hlt : k < L
    · have hp : pL s k = 8 + 6 * F + 8 * N + 8 * k := by unfold pL; rw [EF.out, EN.out]
      obtain ⟨f0, hf0⟩ : ∃ f, l0 s k = f := ⟨_, rfl⟩
      obtain ⟨f1, hf1⟩ : ∃ f, l1 s k = f := ⟨_, rfl⟩
      obtain ⟨f2, hf2⟩ : ∃ f, l2 s k = f := ⟨_, rfl⟩
      obtain ⟨f3, hf3⟩ : ∃ f, l3 s k = f := ⟨_, rfl⟩
      obtain ⟨f4, hf4⟩ : ∃ f, l4 s k = f := ⟨_, rfl⟩
      have CA : Hid (∀ (z n : Int) (w : World), z = 8 + 6 * (F : Int) + 8 * (N : Int) + 8 * (k : Int) ∧ n = 1 → Calls Tryz.prog 40 #[.string s, .int .i64 z, .int .i64 n] w fun e w' => e = .returned (.int .i64 (f0 : Int)) ∧ w' = w) := fun z n w hz => by
        rw [hz.2]
        have := number_any (s := s) (a := pL s k) (n := 1) (w := w) hs (by omega)
        rw [nV_1, show bt s (pL s k) = f0 from hf0, show ((pL s k : Nat) : Int) = z by omega] at this
        exact this
      have CB : Hid (∀ (z n : Int) (w : World), z = 8 + 6 * (F : Int) + 8 * (N : Int) + 8 * (k : Int) + 1 ∧ n = 1 → Calls Tryz.prog 40 #[.string s, .int .i64 z, .int .i64 n] w fun e w' => e = .returned (.int .i64 (f1 : Int)) ∧ w' = w) := fun z n w hz => by
        rw [hz.2]
        have := number_any (s := s) (a := pL s k + 1) (n := 1) (w := w) hs (by omega)
        rw [nV_1, show bt s (pL s k + 1) = f1 from hf1, show ((pL s k + 1 : Nat) : Int) = z by omega] at this
        exact this
      have CC : Hid (∀ (z n : Int) (w : World), z = 8 + 6 * (F : Int) + 8 * (N : Int) + 8 * (k : Int) + 2 ∧ n = 2 → Calls Tryz.prog 40 #[.string s, .int .i64 z, .int .i64 n] w fun e w' => e = .returned (.int .i64 (f2 : Int)) ∧ w' = w) := fun z n w hz => by
        rw [hz.2]
        have := number_any (s := s) (a := pL s k + 2) (n := 2) (w := w) hs (by omega)
        rw [nV_2, show n2 s (pL s k + 2) = f2 from hf2, show ((pL s k + 2 : Nat) : Int) = z by omega] at this
        exact this
      have CD : Hid (∀ (z n : Int) (w : World), z = 8 + 6 * (F : Int) + 8 * (N : Int) + 8 * (k : Int) + 4 ∧ n = 2 → Calls Tryz.prog 40 #[.string s, .int .i64 z, .int .i64 n] w fun e w' => e = .returned (.int .i64 (f3 : Int)) ∧ w' = w) := fun z n w hz => by
        rw [hz.2]
        have := number_any (s := s) (a := pL s k + 4) (n := 2) (w := w) hs (by omega)
        rw [nV_2, show n2 s (pL s k + 4) = f3 from hf3, show ((pL s k + 4 : Nat) : Int) = z by omega] at this
        exact this
      have CE : Hid (∀ (z n : Int) (w : World), z = 8 + 6 * (F : Int) + 8 * (N : Int) + 8 * (k : Int) + 6 ∧ n = 2 → Calls Tryz.prog 40 #[.string s, .int .i64 z, .int .i64 n] w fun e w' => e = .returned (.int .i64 (f4 : Int)) ∧ w' = w) := fun z n w hz => by
        rw [hz.2]
        have := number_any (s := s) (a := pL s k + 6) (n := 2) (w := w) hs (by omega)
        rw [nV_2, show n2 s (pL s k + 6) = f4 from hf4, show ((pL s k + 6 : Nat) : Int) = z by omega] at this
        exact this
      have HOW : Hid (wr.ownsRow w.heap.size 99 5 v k (rowC (cL s) k)) := hown
      have c0 : wr.cell? ⟨r, 0, none⟩ = some (.string s) := lb_at hblk 0 rfl
      have c1 : wr.cell? ⟨r, 1, none⟩ = some (.int .i64 (8 + 6 * (F : Int) + 8 * (N : Int) + 8 * (k : Int))) := by
        have := lb_at hblk 1 rfl
        simpa using this
      have n0 := World.new_ne wr ⟨r, 0, none⟩ c0
      have n1 := World.new_ne wr ⟨r, 1, none⟩ c1
      have y1 : IntKind.i64.wrap (8 + 6 * (F : Int) + 8 * (N : Int) + 8 * (k : Int) + 1) = 8 + 6 * (F : Int) + 8 * (N : Int) + 8 * (k : Int) + 1 := by rw [IntKind.wrap_i64]; omega
      have y2 : IntKind.i64.wrap (8 + 6 * (F : Int) + 8 * (N : Int) + 8 * (k : Int) + 2) = 8 + 6 * (F : Int) + 8 * (N : Int) + 8 * (k : Int) + 2 := by rw [IntKind.wrap_i64]; omega
      have y4 : IntKind.i64.wrap (8 + 6 * (F : Int) + 8 * (N : Int) + 8 * (k : Int) + 4) = 8 + 6 * (F : Int) + 8 * (N : Int) + 8 * (k : Int) + 4 := by rw [IntKind.wrap_i64]; omega
      have y6 : IntKind.i64.wrap (8 + 6 * (F : Int) + 8 * (N : Int) + 8 * (k : Int) + 6) = 8 + 6 * (F : Int) + 8 * (N : Int) + 8 * (k : Int) + 6 := by rw [IntKind.wrap_i64]; omega
      have ECL : Hid (cL s k = [.int .i64 f0, .int .i64 f1, .int .i64 f2, .int .i64 f3, .int .i64 f4]) := by show cL s k = _; unfold cL; rw [hf0, hf1, hf2, hf3, hf4]
      clear hf0 hf1 hf2 hf3 hf4 hblk hown hlone hp
      go_upto_region 3 with fail
      go_cut [5] from 6 to 79 (fun s5 wx => s5 = .pointer (some ⟨wr.heap.size, 0, none⟩) ∧ wx = (wr.alloc (.cells #[.int .i64 f0, .int .i64 f1, .int .i64 f2, .int .i64 f3, .int .i64 f4] 99)).drew)
      case first =>
        go_region_held3 (fun w' => w'.cell? ⟨r, 0, none⟩ = some (.string s) ∧ w'.cell? ⟨r, 1, none⟩ = some (.int .i64 (8 + 6 * (F : Int) + 8 * (N : Int) + 8 * (k : Int)))) (go_keep) (first
          | (go_at_call 40; refine (CA.out _ _ _ (by omega)).mono ?_; rintro _ w1 ⟨rfl, hw1⟩; have hw2 := hw1.symm; subst hw2)
          | (go_at_call 40; refine (CB.out _ _ _ (by omega)).mono ?_; rintro _ w1 ⟨rfl, hw1⟩; have hw2 := hw1.symm; subst hw2)
          | (go_at_call 40; refine (CC.out _ _ _ (by omega)).mono ?_; rintro _ w1 ⟨rfl, hw1⟩; have hw2 := hw1.symm; subst hw2)
          | (go_at_call 40; refine (CD.out _ _ _ (by omega)).mono ?_; rintro _ w1 ⟨rfl, hw1⟩; have hw2 := hw1.symm; subst hw2)
          | (go_at_call 40; refine (CE.out _ _ _ (by omega)).mono ?_; rintro _ w1 ⟨rfl, hw1⟩; have hw2 := hw1.symm; subst hw2))
        all_goals (try go_wp2_with fail)
        all_goals go_meet
        all_goals exact ⟨rfl, rfl⟩
      case rest =>
        obtain ⟨rfl, rfl⟩ := hcut
        have hB : Below wr.heap.size wr (wr.alloc (.cells #[.int .i64 f0, .int .i64 f1, .int .i64 f2, .int .i64 f3, .int .i64 f4] 99)).drew := ((Below.refl _ _).alloc (Nat.le_refl _) _).drew
        have hblk1 := lb_below HBK.out hB (by omega)
        have hnew : (wr.alloc (.cells #[.int .i64 f0, .int .i64 f1, .int .i64 f2, .int .i64 f3, .int .i64 f4] 99)).drew.heap[wr.heap.size]? = some (.cells #[.int .i64 f0, .int .i64 f1, .int .i64 f2, .int .i64 f3, .int .i64 f4] 99) := lb_new wr _
        have hown1 := own_below HOW.out hB
        have hsz1 : (wr.alloc (.cells #[.int .i64 f0, .int .i64 f1, .int .i64 f2, .int .i64 f3, .int .i64 f4] 99)).drew.heap.size = wr.heap.size + 1 := World.size_alloc (w := wr) _
        have hlo1 := HLO.out.trans (Lone.of hB (by omega))
        generalize (wr.alloc (.cells #[.int .i64 f0, .int .i64 f1, .int .i64 f2, .int .i64 f3, .int .i64 f4] 99)).drew = w2 at *
        have g0 := lb_at hnew 0 rfl
        have g1 := lb_at hnew 1 rfl
        have g2 := lb_at hnew 2 rfl
        have g3 := lb_at hnew 3 rfl
        have g4 := lb_at hnew 4 rfl
        have d2 := lb_at hblk1 4 rfl
        have d2' : ∀ o, (w2.alloc o).cell? ⟨r, 4, none⟩ = some v := lb_past hblk1 4 rfl
        simp only [List.getElem_toArray, List.getElem_cons_zero, List.getElem_cons_succ] at g0 g1 g2 g3 g4 d2
        have HB2 : Hid (w2.heap[r]? = some (rdB s (8 + 6 * F + 8 * N + 8 * k) (.slice aF nF cF') (.slice aN nN cN') v)) := hblk1
        have HO2 : Hid (w2.ownsRow w.heap.size 99 5 v k (rowC (cL s) k)) := hown1
        have HL2 : Hid (Lone r w w2) := hlo1
        have hsw2 : w.heap.size ≤ w2.heap.size := by omega
        clear hB hblk1 hnew hown1 hlo1 c0 c1 n0 n1 HBK HOW HLO hsz1
        obtain ⟨i0, hi0, hz1, hz2, hz3⟩ := info_parts Tryz.inf99
        go_wp2_with fail
        go_region_law ((refine step_append_lies _ (by rfl) (.tmp 66) (.tmp 68) 54 (by rfl) w.heap.size 99 i0 _ 5 40 Tryz.und54 hi0 hz1 hz2 hz3 rfl (by decide) v k (rowC (cL s) k) (by rfl) (HO2.out.alloc _) ⟨w2.heap.size, 0, none⟩ 1 1 [.int .i64 f0, .int .i64 f1, .int .i64 f2, .int .i64 f3, .int .i64 f4] (by rfl) (by rfl) (cells_new _ _ _ _ (by simp)) (by intro u hu; simp at hu; rcases hu with rfl | rfl | rfl | rfl | rfl <;> rfl) (by decide) (by unfold maxLen; omega) (by omega) (by simp; omega) _ rfl ?_; intro g c w3 hown3 hgrow hat hlt3; obtain ⟨hh3, hs3, hb3⟩ := app_keep HO2.out (((Below.refl _ _).alloc (Nat.le_refl _) _).drew) (by omega) hgrow; have hlo3 := Lone.app HL2.out HO2.out (Nat.le_refl _) hr (((Below.refl _ _).alloc (Nat.le_refl _) _).drew) (by omega) hgrow; have hblk3 := (hh3 r (by omega) (fun h => by have := (HO2.out.lt _ h).1; omega)).trans HB2.out; have d3 := lb_at hblk3 4 rfl; have q3 := lb_f hblk3 4; simp only [List.getElem_toArray, List.getElem_cons_zero, List.getElem_cons_succ] at d3))
        all_goals
          rename_i Q' K hK
          refine hK _ _ ?_
          clear hK
          clear K
          have hblk4 := lb_set hblk3 4 (.slice (some ⟨g, 0, none⟩) (k + 1) c)
          have c41 : (w3.setCell ⟨r, 4, none⟩ (.slice (some ⟨g, 0, none⟩) (k + 1) c)).cell? ⟨r, 1, none⟩ = some (.int .i64 (8 + 6 * (F : Int) + 8 * (N : Int) + 8 * (k : Int))) := by
            have := lb_at hblk4 1 rfl
            simpa using this
          have q41 := lb_f hblk4 1
          go_wp2_with fail
          go_roundw
          case rel =>
            refine ⟨k + 1, .slice (some ⟨g, 0, none⟩) (k + 1) c, by omega, by go_num, ?_, ?_, (hlo3.set 4 _).set 1 _⟩
            · have e : ((8 + 6 * F + 8 * N + 8 * (k + 1) : Nat) : Int) = 8 + 6 * (F : Int) + 8 * (N : Int) + 8 * (k : Int) + 8 := by omega
              unfold rdB
              rw [e]
              exact lb_set hblk4 1 _
            · have e : rowC (cL s) (k + 1) = rowC (cL s) k ++ [.int .i64 f0, .int .i64 f1, .int .i64 f2, .int .i64 f3, .int .i64 f4] := by rw [← ECL.out]; rfl
              rw [e]
              exact ownsRow_setCell_below (a := ⟨r, 1, none⟩) (ownsRow_setCell_below (a := ⟨r, 4, none⟩) hown3 hr _) hr _
          case measure => simp [intOf]; omega
    · rw [show k = L by omega] at hown hblk
      have HOW : Hid (wr.ownsRow w.heap.size 99 5 v L (rowC (cL s) L)) := hown
      have HB : Hid (wr.heap[r]? = some (rdB s (8 + 6 * F + 8 * N + 8 * L) (.slice aF nF cF') (.slice aN nN cN') v)) := hblk
      clear hown hblk hlone
      go_wp2_with fail
      go_returns
      exact ⟨rfl, v, HB.out, HLO.out, HOW.out⟩
end Lr
end Go.Proofs.YtjmifcnfnihhnaaGreatDoor
/- WALKS: the code's isWhole, Read. -/
set_option linter.unusedVariables false
set_option linter.unusedSimpArgs false
namespace Go.Proofs.YtjmifcnfnihhnaaGreatDoor
namespace Lr
namespace Li
end Li
open Go.RowKit Li

set_option maxRecDepth 100000 in
set_option maxHeartbeats 800000 in
theorem isWhole_any {s : ByteArray} {w : World} (hs : s.size ≤ 600000) :
    Calls Tryz.prog 38 #[.string s] w fun e w' => e = .returned (.bool (hdB s)) ∧ w' = w := by
  obtain ⟨R, hR⟩ : ∃ R, hdB s = R := ⟨_, rfl⟩
  rw [hR]
  by_cases h8 : s.size < 8
  · have HR : Hid (R = false) := by rw [← hR]; unfold hdB; rw [decide_eq_false (by omega)]; rfl
    clear hR
    go_enter Tryz.func38, Tryz.ntmps38
    go_wp2
    go_ret
    exact ⟨by rw [HR.out]; rfl, rfl⟩
  · have HD : Hid (hdB s = R) := hR
    have HF : Hid (nV s 2 2 = ((hF s : Nat) : Int)) := nV_2 s 2
    have HN : Hid (nV s 4 2 = ((hN s : Nat) : Int)) := nV_2 s 4
    have HL : Hid (nV s 6 2 = ((hL s : Nat) : Int)) := nV_2 s 6
    obtain ⟨F, hF'⟩ : ∃ F, hF s = F := ⟨_, rfl⟩
    obtain ⟨N, hN'⟩ : ∃ N, hN s = N := ⟨_, rfl⟩
    obtain ⟨L, hL'⟩ : ∃ L, hL s = L := ⟨_, rfl⟩
    have hFl : F < 65536 := by rw [← hF']; exact n2_lt _ _
    have hNl : N < 65536 := by rw [← hN']; exact n2_lt _ _
    have hLl : L < 65536 := by rw [← hL']; exact n2_lt _ _
    rw [hF'] at HF
    rw [hN'] at HN
    rw [hL'] at HL
    have CF : Hid (∀ (z n : Int) (w : World), z = 2 ∧ n = 2 → Calls Tryz.prog 40 #[.string s, .int .i64 z, .int .i64 n] w fun e w' => e = .returned (.int .i64 (F : Int)) ∧ w' = w) := fun z n w hz => by rw [← HF.out, hz.1, hz.2]; exact number_any (a := 2) (n := 2) (by omega) (by omega)
    have CN : Hid (∀ (z n : Int) (w : World), z = 4 ∧ n = 2 → Calls Tryz.prog 40 #[.string s, .int .i64 z, .int .i64 n] w fun e w' => e = .returned (.int .i64 (N : Int)) ∧ w' = w) := fun z n w hz => by rw [← HN.out, hz.1, hz.2]; exact number_any (a := 4) (n := 2) (by omega) (by omega)
    have CL : Hid (∀ (z n : Int) (w : World), z = 6 ∧ n = 2 → Calls Tryz.prog 40 #[.string s, .int .i64 z, .int .i64 n] w fun e w' => e = .returned (.int .i64 (L : Int)) ∧ w' = w) := fun z n w hz => by rw [← HL.out, hz.1, hz.2]; exact number_any (a := 6) (n := 2) (by omega) (by omega)
    have HE : Hid (R = (decide ((s.extract 0 2).toList = [109, 108]) && (decide (0 < F) && decide (s.size = 8 + 6 * F + 8 * N + 8 * L)))) := by
      show _ = _
      rw [← hR]
      unfold hdB mlB
      rw [hF', hN', hL', decide_eq_true (show 8 ≤ s.size by omega)]
      rfl
    clear hF' hN' hL' hR
    by_cases hml : (s.extract 0 2).toList = [109, 108]
    · rw [decide_eq_true hml, Bool.true_and] at HE
      go_enter Tryz.func38, Tryz.ntmps38
      go_wp2_with (first
        | (go_at_call 40; refine (CF.out _ _ _ (by omega)).mono ?_; rintro _ w1 ⟨rfl, hw1⟩; have hw2 := hw1.symm; subst hw2)
        | (go_at_call 40; refine (CN.out _ _ _ (by omega)).mono ?_; rintro _ w1 ⟨rfl, hw1⟩; have hw2 := hw1.symm; subst hw2)
        | (go_at_call 40; refine (CL.out _ _ _ (by omega)).mono ?_; rintro _ w1 ⟨rfl, hw1⟩; have hw2 := hw1.symm; subst hw2))
      all_goals
        go_ret
        refine ⟨ret_bool' ?_, rfl⟩
        rw [HE.out, Bool.eq_iff_iff]
        simp
        omega
    · rw [decide_eq_false hml, Bool.false_and] at HE
      have hmb : ((s.extract 0 2).toList == [109, 108]) = false := by simp [hml]
      go_enter Tryz.func38, Tryz.ntmps38
      go_wp2_with (first
        | (go_at_call 40; refine (CF.out _ _ _ (by omega)).mono ?_; rintro _ w1 ⟨rfl, hw1⟩; have hw2 := hw1.symm; subst hw2)
        | (go_at_call 40; refine (CN.out _ _ _ (by omega)).mono ?_; rintro _ w1 ⟨rfl, hw1⟩; have hw2 := hw1.symm; subst hw2)
        | (go_at_call 40; refine (CL.out _ _ _ (by omega)).mono ?_; rintro _ w1 ⟨rfl, hw1⟩; have hw2 := hw1.symm; subst hw2))
      all_goals first
        | (exfalso; exact hml (by assumption))
        | (go_ret; exact ⟨by rw [HE.out]; rfl, rfl⟩)
structure CdAt (s : ByteArray) (w : World) (B : Nat) (vF vN vL : Value) : Prop where
  funs : w.ownsRow B 97 4 vF (hF s) (rowC (cF s) (hF s))
  nums : w.ownsRow B 3 1 vN (hN s) (rowC (cN s) (hN s))
  lines : w.ownsRow B 99 5 vL (hL s) (rowC (cL s) (hL s))
theorem rows_ok {s : ByteArray} {w : World} {r F L : Nat} (hs : s.size ≤ 600000) (hsz : 8 + 6 * F ≤ s.size) (hF : F < 65536) (hLl : L < 65536) (hL' : hL s = L) (hblk : w.heap[r]? = some (rdB s 8 nilS nilS nilS)) (hb : bad (rowB s) F 0 = none) :
    Calls Tryz.prog 39 #[.pointer (some ⟨r, 0, none⟩), .int .i64 F, .int .i64 L] w fun e w' => e = .returned (.bool true) ∧ ∃ a c, w'.heap[r]? = some (rdB s (8 + 6 * F) (.slice a F c) nilS nilS) ∧ Lone r w w' ∧ w'.ownsRow w.heap.size 97 4 (.slice a F c) F (rowC (cF s) F) := by
  refine (rows_any hs hsz hF hLl hL' hblk).mono ?_
  rintro e w' ⟨k', v, h1, h2, ⟨h3, h4⟩ | ⟨h3, h4, h5, h6⟩⟩
  · rw [hb] at h4; cases h4
  · subst h5
    obtain ⟨a, c, rfl⟩ := or_slice h6
    exact ⟨h3, a, c, h1, h2, h6⟩
theorem constants_ok {s : ByteArray} {w : World} {r F N : Nat} {aF : Option Addr} {nF cF' : Nat} (hs : s.size ≤ 600000) (hsz : 8 + 6 * F + 8 * N ≤ s.size) (hFl : F < 65536) (hNl : N < 65536) (hF' : hF s = F) (hblk : w.heap[r]? = some (rdB s (8 + 6 * F) (.slice aF nF cF') nilS nilS)) (hb : bad (numB s) N 0 = none) :
    Calls Tryz.prog 41 #[.pointer (some ⟨r, 0, none⟩), .int .i64 N] w fun e w' => e = .returned (.bool true) ∧ ∃ a c, w'.heap[r]? = some (rdB s (8 + 6 * F + 8 * N) (.slice aF nF cF') (.slice a N c) nilS) ∧ Lone r w w' ∧ w'.ownsRow w.heap.size 3 1 (.slice a N c) N (rowC (cN s) N) := by
  refine (constants_any hs hsz hFl hNl hF' hblk).mono ?_
  rintro e w' ⟨k', v, h1, h2, ⟨h3, h4⟩ | ⟨h3, h4, h5, h6⟩⟩
  · rw [hb] at h4; cases h4
  · subst h5
    obtain ⟨a, c, rfl⟩ := or_slice h6
    exact ⟨h3, a, c, h1, h2, h6⟩
end Lr
end Go.Proofs.YtjmifcnfnihhnaaGreatDoor
/- WALKS: the code's Read. -/
set_option linter.unusedVariables false
set_option linter.unusedSimpArgs false
namespace Go.Proofs.YtjmifcnfnihhnaaGreatDoor
namespace Lr
namespace Li
end Li
open Go.RowKit Li

def O38 : Obj := .cells #[.slice none 0 0, .slice none 0 0, .slice none 0 0] 56 (0, 0)
def O60 (s : ByteArray) : Obj := .cells #[.string s, .int .i64 8, .slice none 0 0, .slice none 0 0, .slice none 0 0] 104 (0, 0)
theorem lb_second {w : World} {o o2 : Obj} {b : Nat} (h : b = w.heap.size) : ((w.alloc o).alloc o2).heap[b]? = some o := by
  subst h
  rw [Below.heap_alloc _ _ _ (by rw [World.size_alloc]; omega)]
  exact lb_new w o
theorem Lone.own {r : Nat} {w w' : World} (h : Lone r w w') {base sz n : Nat} {e : TypeId} {v : Value} {xs : List Value} (ho : w.ownsRow base e sz v n xs) (hr : r < base) : w'.ownsRow base e sz v n xs :=
  or_keep ho fun b hb => h.rest b (ho.lt b hb).2 (by have := (ho.lt b hb).1; omega)
theorem read_ret {W : World} {tmps : Array Value} {q : Nat} {x0 x1 x2 : Value} {er at' : Int} {Q : Ending → World → Prop} (ht : tmps.getD 2 undef = .pointer (some ⟨q, 0, none⟩)) (h3 : tmps.getD 3 undef = .int .i64 er) (h4 : tmps.getD 4 undef = .int .i64 at')
    (c0 : W.cell? ⟨q, 0, none⟩ = some x0) (c1 : W.cell? ⟨q, 1, none⟩ = some x1) (c2 : W.cell? ⟨q, 2, none⟩ = some x2) (hq : Q (.returned (.tuple #[.agg #[x0, x1, x2], .int .i64 er, .int .i64 at'])) W) :
    bodyPost Tryz.prog Tryz.f26 Q Exit.ret { tmps := tmps, defers := [] } W := by
  have ht' : tmps[2]?.getD undef = .pointer (some ⟨q, 0, none⟩) := by simpa using ht
  have h3' : tmps[3]?.getD undef = .int .i64 er := by simpa using h3
  have h4' : tmps[4]?.getD undef = .int .i64 at' := by simpa using h4
  exact bodyPost_ret (v := .tuple #[.agg #[x0, x1, x2], .int .i64 er, .int .i64 at']) (by simp [results, Tryz.results26, go_sem, ht', h3', h4', c0, c1, c2]) rfl hq
structure Nums (s : ByteArray) (F N L : Nat) : Prop where
  hs : s.size ≤ 600000
  hd : hdB s = true
  eF : hF s = F
  eN : hN s = N
  eL : hL s = L
  lF : F < 65536
  lN : N < 65536
  lL : L < 65536
  sz : s.size = 8 + 6 * F + 8 * N + 8 * L
  wh : ∀ W : World, Calls Tryz.prog 38 #[.string s] W fun e w' => e = .returned (.bool true) ∧ w' = W
  cF : ∀ (z n : Int) (w : World), z = 2 ∧ n = 2 → Calls Tryz.prog 40 #[.string s, .int .i64 z, .int .i64 n] w fun e w' => e = .returned (.int .i64 (F : Int)) ∧ w' = w
  cN : ∀ (z n : Int) (w : World), z = 4 ∧ n = 2 → Calls Tryz.prog 40 #[.string s, .int .i64 z, .int .i64 n] w fun e w' => e = .returned (.int .i64 (N : Int)) ∧ w' = w
  cL : ∀ (z n : Int) (w : World), z = 6 ∧ n = 2 → Calls Tryz.prog 40 #[.string s, .int .i64 z, .int .i64 n] w fun e w' => e = .returned (.int .i64 (L : Int)) ∧ w' = w
theorem nums_mk {s : ByteArray} (hs : s.size ≤ 600000) (hd : hdB s = true) : Nums s (hF s) (hN s) (hL s) := by
  obtain ⟨h8, _, _, hz⟩ := hdB_of hd
  refine ⟨hs, hd, rfl, rfl, rfl, n2_lt _ _, n2_lt _ _, n2_lt _ _, hz, fun W => ?_, ?_, ?_, ?_⟩
  · have := isWhole_any (s := s) (w := W) hs
    rw [hd] at this
    exact this
  · intro z n w h
    have := number_any (s := s) (a := 2) (n := 2) (w := w) hs (by omega)
    rw [nV_2] at this
    rw [h.1, h.2]; exact this
  · intro z n w h
    have := number_any (s := s) (a := 4) (n := 2) (w := w) hs (by omega)
    rw [nV_2] at this
    rw [h.1, h.2]; exact this
  · intro z n w h
    have := number_any (s := s) (a := 6) (n := 2) (w := w) hs (by omega)
    rw [nV_2] at this
    rw [h.1, h.2]; exact this
set_option maxRecDepth 100000 in
set_option maxHeartbeats 1600000 in
theorem cread_fine {s : ByteArray} {w : World} {F N L : Nat} (hn : Nums s F N L) (hb0 : bad (rowB s) F 0 = none) (hb : bad (numB s) N 0 = none) :
    Calls Tryz.prog 26 #[.string s] w fun e w' => ∃ vF vN vL, e = .returned (.tuple #[.agg #[vF, vN, vL], .int .i64 0, .int .i64 0]) ∧ w'.ownsRow w.heap.size 97 4 vF F (rowC (cF s) F) ∧ w'.ownsRow w.heap.size 3 1 vN N (rowC (cN s) N) ∧ w'.ownsRow w.heap.size 99 5 vL L (rowC (cL s) L) ∧ Below w.heap.size w w' := by
  have HN := Lib.hid hn
  have hll := hn.lL
  have hfl := hn.lF
  have hnl := hn.lN
  have h601 := hn.sz
  have h602 : s.size ≤ 600000 := hn.hs
  have HRB : Hid (∀ (W : World) b q, W.heap[b]? = some (O60 s) → W.heap[q]? = some O38 → q < b → Calls Tryz.prog 39 #[.pointer (some ⟨b, 0, none⟩), .int .i64 F, .int .i64 L] W fun e w' => e = .returned (.bool true) ∧ ∃ a c, w'.heap[b]? = some (rdB s (8 + 6 * F) (.slice a F c) nilS nilS) ∧ w'.heap[q]? = some O38 ∧ Below q W w' ∧ w'.ownsRow (b + 1) 97 4 (.slice a F c) F (rowC (cF s) F)) := fun W b q h1 h2 h3 => by
    refine (rows_ok hn.hs (by omega) hn.lF hn.lL hn.eL h1 hb0).mono ?_
    rintro e w' ⟨he, a, c, h4, h5, h6⟩
    exact ⟨he, a, c, h4, (h5.rest q (lt_of_block h2) (by omega)).trans h2, h5.below.mono (by omega), or_mono h6 (lt_of_block h1)⟩
  have HCB : Hid (∀ (W : World) b q a c, W.heap[b]? = some (rdB s (8 + 6 * F) (.slice a F c) nilS nilS) → W.heap[q]? = some O38 → q < b → W.ownsRow (b + 1) 97 4 (.slice a F c) F (rowC (cF s) F) → Calls Tryz.prog 41 #[.pointer (some ⟨b, 0, none⟩), .int .i64 N] W fun e w' => e = .returned (.bool true) ∧ ∃ a2 c2, w'.heap[b]? = some (rdB s (8 + 6 * F + 8 * N) (.slice a F c) (.slice a2 N c2) nilS) ∧ w'.heap[q]? = some O38 ∧ Below q W w' ∧ w'.ownsRow (b + 1) 97 4 (.slice a F c) F (rowC (cF s) F) ∧ w'.ownsRow (b + 1) 3 1 (.slice a2 N c2) N (rowC (cN s) N)) := fun W b q a c h1 h2 h3 ho => by
    refine (constants_ok hn.hs (by omega) hn.lF hn.lN hn.eF h1 hb).mono ?_
    rintro e w' ⟨he, a2, c2, h4, h5, h6⟩
    exact ⟨he, a2, c2, h4, (h5.rest q (lt_of_block h2) (by omega)).trans h2, h5.below.mono (by omega), h5.own ho (by omega), or_mono h6 (lt_of_block h1)⟩
  have HLB : Hid (∀ (W : World) b q a c a2 c2, W.heap[b]? = some (rdB s (8 + 6 * F + 8 * N) (.slice a F c) (.slice a2 N c2) nilS) → W.heap[q]? = some O38 → q < b → W.ownsRow (b + 1) 97 4 (.slice a F c) F (rowC (cF s) F) → W.ownsRow (b + 1) 3 1 (.slice a2 N c2) N (rowC (cN s) N) → Calls Tryz.prog 42 #[.pointer (some ⟨b, 0, none⟩), .int .i64 L] W fun e w' => e = .returned (.tuple #[]) ∧ ∃ a3 c3, w'.heap[b]? = some (rdB s (8 + 6 * F + 8 * N + 8 * L) (.slice a F c) (.slice a2 N c2) (.slice a3 L c3)) ∧ w'.heap[q]? = some O38 ∧ Below q W w' ∧ w'.ownsRow (b + 1) 97 4 (.slice a F c) F (rowC (cF s) F) ∧ w'.ownsRow (b + 1) 3 1 (.slice a2 N c2) N (rowC (cN s) N) ∧ w'.ownsRow (b + 1) 99 5 (.slice a3 L c3) L (rowC (cL s) L)) := fun W b q a c a2 c2 h1 h2 h3 ho ho2 => by
    refine (lines_any hn.hs (by omega) hn.lF hn.lN hn.lL hn.eF hn.eN h1).mono ?_
    rintro e w' ⟨he, v, h4, h5, h6⟩
    obtain ⟨a3, c3, rfl⟩ := or_slice h6
    exact ⟨he, a3, c3, h4, (h5.rest q (lt_of_block h2) (by omega)).trans h2, h5.below.mono (by omega), h5.own ho (by omega), h5.own ho2 (by omega), or_mono h6 (lt_of_block h1)⟩
  clear hn hb h601 hb0
  go_enter Tryz.func26, Tryz.ntmps26
  go_wp2_with (first
    | (go_at_call 38; refine (HN.out.wh _).mono ?_; rintro _ w1 ⟨rfl, hw1⟩; have hw2 := hw1.symm; subst hw2)
    | (go_at_call 40; refine (HN.out.cF _ _ _ (by omega)).mono ?_; rintro _ w1 ⟨rfl, hw1⟩; have hw2 := hw1.symm; subst hw2)
    | (go_at_call 40; refine (HN.out.cL _ _ _ (by omega)).mono ?_; rintro _ w1 ⟨rfl, hw1⟩; have hw2 := hw1.symm; subst hw2)
    | (go_at_call 40; refine (HN.out.cN _ _ _ (by omega)).mono ?_; rintro _ w1 ⟨rfl, hw1⟩; have hw2 := hw1.symm; subst hw2)
    | (go_at_call 39; refine (HRB.out _ _ w.heap.size (lb_new' (by simp)) (lb_second rfl) (by omega)).mono ?_; rintro _ w5 ⟨rfl, a5, c5, hk5, hq5, hb5, ho5⟩; have HK5 := Lib.hid hk5; have HQ5 := Lib.hid hq5; have HO5 := Lib.hid ho5; have HB5 := Lib.hid hb5; clear hk5 hq5 ho5 hb5)
    | (go_at_call 41; refine (HCB.out _ _ w.heap.size _ _ HK5.out HQ5.out (by omega) HO5.out).mono ?_; rintro _ w6 ⟨rfl, a6, c6, hk6, hq6, hb6, ho6, hm6⟩; have HK6 := Lib.hid hk6; have HQ6 := Lib.hid hq6; have HO6 := Lib.hid ho6; have HM6 := Lib.hid hm6; have HB6 := Lib.hid hb6; clear hk6 hq6 ho6 hm6 hb6)
    | (go_at_call 42; refine (HLB.out _ _ w.heap.size _ _ _ _ HK6.out HQ6.out (by omega) HO6.out HM6.out).mono ?_; rintro _ w2 ⟨rfl, a7, c7, hk2, hq2, hb2, ho7, hm7, hl7⟩; have HO7 := Lib.hid ho7; have HM7 := Lib.hid hm7; have HL7 := Lib.hid hl7; have HB7 := Lib.hid hb2; clear ho7 hm7 hl7 hb2; have c2 := lb_at hk2 2 rfl; have c3 := lb_at hk2 3 rfl; have c4 := lb_at hk2 4 rfl; have e0 := lb_at hq2 0 rfl; have e1 := lb_at hq2 1 rfl; have e2 := lb_at hq2 2 rfl; have p0 := lb_f hq2 0; have p1 := lb_f hq2 1; have p2 := lb_f hq2 2; have HQ7 := Lib.hid hq2; clear hq2 hk2; simp only [List.getElem_toArray, List.getElem_cons_zero, List.getElem_cons_succ] at c2 c3 c4 e0 e1 e2))
  have hq3 := lb_set (lb_set (lb_set HQ7.out 0 (.slice a5 F c5)) 1 (.slice a6 N c6)) 2 (.slice a7 L c7)
  have HB3 : Hid (Below w.heap.size w (((w2.setCell ⟨w.heap.size, 0, none⟩ (.slice a5 F c5)).setCell ⟨w.heap.size, 1, none⟩ (.slice a6 N c6)).setCell ⟨w.heap.size, 2, none⟩ (.slice a7 L c7))) := ((((((((Below.refl w.heap.size w).alloc (Nat.le_refl _) O38).alloc (by rw [World.size_alloc]; omega) (O60 s)).trans HB5.out).trans HB6.out).trans HB7.out).setCell (p := ⟨w.heap.size, 0, none⟩) (Nat.le_refl _) _).setCell (p := ⟨w.heap.size, 1, none⟩) (Nat.le_refl _) _).setCell (p := ⟨w.heap.size, 2, none⟩) (Nat.le_refl _) _
  have x0 := lb_at hq3 0 rfl
  have x1 := lb_at hq3 1 rfl
  have x2 := lb_at hq3 2 rfl
  have hlt : w.heap.size < w.heap.size + 1 + 1 := by omega
  refine read_ret rfl rfl rfl x0 x1 x2 ⟨_, _, _, rfl, ?_, ?_, ?_, HB3.out⟩
  · exact or_mono (ownsRow_setCell_below (a := ⟨w.heap.size, 2, none⟩) (ownsRow_setCell_below (a := ⟨w.heap.size, 1, none⟩) (ownsRow_setCell_below (a := ⟨w.heap.size, 0, none⟩) HO7.out hlt _) hlt _) hlt _) (by omega)
  · exact or_mono (ownsRow_setCell_below (a := ⟨w.heap.size, 2, none⟩) (ownsRow_setCell_below (a := ⟨w.heap.size, 1, none⟩) (ownsRow_setCell_below (a := ⟨w.heap.size, 0, none⟩) HM7.out hlt _) hlt _) hlt _) (by omega)
  · exact or_mono (ownsRow_setCell_below (a := ⟨w.heap.size, 2, none⟩) (ownsRow_setCell_below (a := ⟨w.heap.size, 1, none⟩) (ownsRow_setCell_below (a := ⟨w.heap.size, 0, none⟩) HL7.out hlt _) hlt _) hlt _) (by omega)
theorem cread_ok {s : ByteArray} {w : World} (h : res s = none) :
    Calls Tryz.prog 26 #[.string s] w fun e w' => ∃ vF vN vL, e = .returned (.tuple #[.agg #[vF, vN, vL], .int .i64 0, .int .i64 0]) ∧ CdAt s w' w.heap.size vF vN vL ∧ Below w.heap.size w w' := by
  obtain ⟨h1, h2, h3, h4⟩ := res_none h
  refine (cread_fine (nums_mk h1 h2) h3 h4).mono ?_
  rintro e w' ⟨vF, vN, vL, he, a, b, c, d⟩
  exact ⟨vF, vN, vL, he, ⟨a, b, c⟩, d⟩
end Lr
end Go.Proofs.YtjmifcnfnihhnaaGreatDoor
