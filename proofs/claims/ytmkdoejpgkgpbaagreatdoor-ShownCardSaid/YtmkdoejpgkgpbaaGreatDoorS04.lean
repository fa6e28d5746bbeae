import Derived.Test.YtmkdoejpgkgpbaaGreatDoorS03
import Derived.Laws.IdiomStrings
set_option linter.unusedVariables false
set_option linter.unusedSimpArgs false
set_option maxHeartbeats 20000000
namespace Go.Proofs.YtmkdoejpgkgpbaaGreatDoor
open Go.RowKit
theorem addr_add (b j : Nat) : (⟨b,0,none⟩ : Addr).add j = ⟨b,j,none⟩ := by
 unfold Addr.add
 split
 ·rename_i h;rw [h]
 ·simp
theorem addr_add' (b i j : Nat) : (⟨b,i,none⟩ : Addr).add j = ⟨b,i + j,none⟩ := by
 unfold Addr.add
 split
 ·rename_i h;rw [h];simp
 ·simp
theorem set_cells {w1 : World} {x : ByteArray} {b n : Nat} (l : List UInt8) (v : UInt8) (hn : x.size = n + 1) (hc : ∀ j (hj : j < x.size),w1.cell? ⟨b,j,none⟩ = some (.int .u8 x[j].toNat))
 (hl : l = x.data.toList.take n ++ [v]) : ∀ j (hj : j < l.length),(w1.setCell ⟨b,n,none⟩ (.int .u8 v.toNat)).cell? ((⟨b,0,none⟩ : Addr).add j) = some (.int .u8 (l[j].toNat : Int)) := by
 intro j hj
 rw [addr_add]
 have hx : x.data.toList.length = n + 1 := by simpa using hn
 have hlen : l.length = n + 1 := by rw [hl];simp;omega
 by_cases h : j = n
 ·subst h
  have := hc j (by omega)
  rw [World.cell?_setCell_same _ _ _ this]
  have : l[j] = v := by simp [hl,hn]
  rw [this]
 ·rw [World.cell?_setCell_other _ _ _ _ (by intro e;injection e with _ e2;omega),hc j (by omega)]
  have : l[j] = x[j] := by
   subst hl
   rw [List.getElem_append_left (by simp;omega),List.getElem_take];rfl
  rw [this]
theorem own_strs (W : World) (e : TypeId) (b base : Nat) (xs : List ByteArray) (hb : b = W.heap.size) (hB : base <= W.heap.size) (hl : xs.length <= 1000) :
 (W.alloc (.cells (xs.map Value.string).toArray e)).ownsRow base e 1 (.slice (some ⟨b,0,none⟩) xs.length xs.length) xs.length (xs.map Value.string) := by
 subst hb
 have := World.ownsRow_lit (e := e) (size := 1) W (xs.map Value.string).toArray xs.length hB (by unfold maxLen;omega) (by simp)
 simpa using this
section
variable {P : Program} (w : World)
theorem wpList_bytes_of {ops : Array Oper} {rest : List Oper} {o : Oper} {a : Act} {Q : Exit -> Act -> World -> Prop} (hgd : o.guard = none) (s : Operand) (src dst e : TypeId)
 (ho : o.op = .convert src dst s) (x : ByteArray) (hx : a.eval s = .string x) (hs : P.underlying src = some .string) (hd : P.underlying dst = some (.slice e)) (he : P.underlying e = some (.int .u8))
 (h : ∀ w1 cap,(∀ j (hj : j < x.size),w1.cell? ⟨w.heap.size,j,none⟩ = some (.int .u8 x[j].toNat)) -> (∀ j,j < x.size -> w1.frozen? ⟨w.heap.size,j,none⟩ = false) -> Below w.heap.size w w1 -> w1.heap.size = w.heap.size + 1 ->
  wpList P ops Q rest (a.put o.dst (.slice (some ⟨w.heap.size,0,none⟩) x.size cap)) w1) : wpList P ops Q (o :: rest) a w := by
 refine wpList_plain hgd fun K hK => ?_
 have hr := run_bytes_of_string (P := P) w src dst e x hs hd he
 unfold Oper.wp execOp
 simp only [ho,hx,hr,Sem.run_bind,Sem.run_pure,Result.andThen_ok]
 refine hK _ _ (h _ _ ?_ ?_ ?_ ?_)
 ·intro j hj
  exact (World.cell?_alloc_mark w.drew _ _ _ j).trans (bytesRow_at x _ j hj)
 ·intro j hj
  refine (World.frozen?_alloc_mark w.drew _ _ _ _ j).trans ?_
  have : ¬ (bytesRow x (grownCap w x.size 0 e)).size <= j := by
   unfold bytesRow
   simp
   have : x.data.size = x.size := rfl
   omega
  simp [this]
 ·exact ((Below.refl _ _).drew).alloc (Nat.le_refl _) _
 ·exact World.size_alloc (w := w.drew) _
theorem wpList_string_of {ops : Array Oper} {rest : List Oper} {o : Oper} {a : Act} {Q : Exit -> Act -> World -> Prop} (hgd : o.guard = none) (s : Operand) (src dst e : TypeId)
 (ho : o.op = .convert src dst s) (l : List UInt8) (ad : Addr) (n cap : Nat) (hx : a.eval s = .slice (some ad) n cap) (hn : l.length = n) (hs : P.underlying src = some (.slice e)) (he : P.underlying e = some (.int .u8)) (hd : P.underlying dst = some .string)
 (hc : ∀ j (hj : j < l.length),w.cell? (ad.add j) = some (.int .u8 (l[j].toNat : Int)))
 (h : wpList P ops Q rest (a.put o.dst (.string ⟨l.toArray⟩)) w) : wpList P ops Q (o :: rest) a w := by
 refine wpList_plain hgd fun K hK => ?_
 subst hn
 have hr := run_convert_bytes_back (P := P) w src dst e ad cap l hs he hd hc
 unfold Oper.wp execOp
 simp only [ho,hx,hr,Sem.run_bind,Sem.run_pure,Result.andThen_ok]
 exact hK _ _ h
end
end Go.Proofs.YtmkdoejpgkgpbaaGreatDoor
namespace Go.Proofs.YtmkdoejpgkgpbaaGreatDoor
open Go.RowKit Sl
def cmpS (t : ByteArray) : Bool := t.toList == [61] || t.toList == [60,62] || t.toList == [60] || t.toList == [60,61] || t.toList == [62] || t.toList == [62,61]
def atoS (t : ByteArray) : Bool := t.toList == [110,117,109] || t.toList == [105,100] || t.toList == [116,114,117,101] || t.toList == [102,97,108,115,101] || t.toList == [114,101,97,100]
theorem compares_any (t : ByteArray) (w : World) :
 Calls Tryz.prog 184 #[.string t] w fun e w' => e = .returned (.bool (cmpS t)) /\ w' = w := by
 go_enter Tryz.func184,Tryz.ntmps184
 go_wp2
 all_goals
  go_ret
  refine ⟨ret_bool ?_,rfl⟩
  unfold cmpS
  simp_all
theorem atomic_any (t : ByteArray) (w : World) :
 Calls Tryz.prog 185 #[.string t] w fun e w' => e = .returned (.bool (atoS t)) /\ w' = w := by
 go_enter Tryz.func185,Tryz.ntmps185
 go_wp2
 all_goals
  go_ret
  refine ⟨ret_bool ?_,rfl⟩
  unfold atoS
  simp_all
theorem part_any (x : ByteArray) (hx : 0 < x.size) (w : World) :
 Calls Tryz.prog 113 #[.string x] w fun e w' => e = .returned (.bool (decide (65 <= x[0].toNat) && decide (x[0].toNat <= 90))) /\ w' = w := by
 go_enter Tryz.func113,Tryz.ntmps113
 go_wp2
 all_goals
  go_ret
  refine ⟨ret_bool ?_,rfl⟩
  rw [Bool.eq_iff_iff];simp;omega
end Go.Proofs.YtmkdoejpgkgpbaaGreatDoor
