import Derived.Test.YtjmgolahkgalbaaGreatDoorS03
import Derived.Laws.IdiomStrings
set_option linter.unusedVariables false
set_option linter.unusedSimpArgs false
set_option maxHeartbeats 20000000
namespace Go.Proofs.YtjmgolahkgalbaaGreatDoor
open Go.RowKit
theorem addr_add (b j : Nat) : (⟨b,0,none⟩ : Addr).add j = ⟨b,j,none⟩ := by
 unfold Addr.add
 split
 ·rename_i h;rw [h]
 ·simp
theorem jmX (b i j : Nat) : (⟨b,i,none⟩ : Addr).add j = ⟨b,i + j,none⟩ := by
 unfold Addr.add
 split
 ·rename_i h;rw [h];simp
 ·simp
theorem jmy {w1 : World} {x : ByteArray} {b n : Nat} (l : List UInt8) (v : UInt8) (hn : x.size = n + 1) (hc : ∀ j (hj : j < x.size),w1.cell? ⟨b,j,none⟩ = some (.int .u8 x[j].toNat))
 (hl : l = x.data.toList.take n ++ [v]) : ∀ j (hj : j < l.length),(w1.setCell ⟨b,n,none⟩ (.int .u8 v.toNat)).cell? ((⟨b,0,none⟩ : Addr).add j) = some (.int .u8 (l[j].toNat : Int)) := by
 intro j hj
 rw [addr_add]
 have hx : x.data.toList.length = n + 1 := by simpa using hn
 have hlen : l.length = n + 1 := by rw [hl];simp;omega
 by_cases h : j = n
 ·subst h
  have := hc j (by omega)
  rw [World.cell?_setCell_same _ _ _ this]
  have : l[j] = v := by simp [hl,hn]
  rw [this]
 ·rw [World.cell?_setCell_other _ _ _ _ (by intro e;injection e with _ e2;omega),hc j (by omega)]
  have : l[j] = x[j] := by
   subst hl
   rw [List.getElem_append_left (by simp;omega),List.getElem_take];rfl
  rw [this]
theorem jmE (W : World) (e : TypeId) (b base : Nat) (xs : List ByteArray) (hb : b = W.heap.size) (hB : base <= W.heap.size) (hl : xs.length <= 1000) :
 (W.alloc (.cells (xs.map Value.string).toArray e)).ownsRow base e 1 (.slice (some ⟨b,0,none⟩) xs.length xs.length) xs.length (xs.map Value.string) := by
 subst hb
 have := World.ownsRow_lit (e := e) (size := 1) W (xs.map Value.string).toArray xs.length hB (by unfold maxLen;omega) (by simp)
 simpa using this
section
variable {P : Program} (w : World)
theorem jmu {ops : Array Oper} {rest : List Oper} {o : Oper} {a : Act} {Q : Exit -> Act -> World -> Prop} (hgd : o.guard = none) (s : Operand) (src dst e : TypeId)
 (ho : o.op = .convert src dst s) (x : ByteArray) (hx : a.eval s = .string x) (hs : P.underlying src = some .string) (hd : P.underlying dst = some (.slice e)) (he : P.underlying e = some (.int .u8))
 (h : ∀ w1 cap,(∀ j (hj : j < x.size),w1.cell? ⟨w.heap.size,j,none⟩ = some (.int .u8 x[j].toNat)) -> (∀ j,j < x.size -> w1.frozen? ⟨w.heap.size,j,none⟩ = false) -> Below w.heap.size w w1 -> w1.heap.size = w.heap.size + 1 ->
  wpList P ops Q rest (a.put o.dst (.slice (some ⟨w.heap.size,0,none⟩) x.size cap)) w1) : wpList P ops Q (o :: rest) a w := by
 refine wpList_plain hgd fun K hK => ?_
 have hr := run_bytes_of_string (P := P) w src dst e x hs hd he
 unfold Oper.wp execOp
 simp only [ho,hx,hr,Sem.run_bind,Sem.run_pure,Result.andThen_ok]
 refine hK _ _ (h _ _ ?_ ?_ ?_ ?_)
 ·intro j hj
  exact (World.cell?_alloc_mark w.drew _ _ _ j).trans (bytesRow_at x _ j hj)
 ·intro j hj
  refine (World.frozen?_alloc_mark w.drew _ _ _ _ j).trans ?_
  have : ¬ (bytesRow x (grownCap w x.size 0 e)).size <= j := by
   unfold bytesRow
   simp
   have : x.data.size = x.size := rfl
   omega
  simp [this]
 ·exact (jB.drew).alloc jN _
 ·exact World.size_alloc (w := w.drew) _
theorem jmt {ops : Array Oper} {rest : List Oper} {o : Oper} {a : Act} {Q : Exit -> Act -> World -> Prop} (hgd : o.guard = none) (s : Operand) (src dst e : TypeId)
 (ho : o.op = .convert src dst s) (l : List UInt8) (ad : Addr) (n cap : Nat) (hx : a.eval s = .slice (some ad) n cap) (hn : l.length = n) (hs : P.underlying src = some (.slice e)) (he : P.underlying e = some (.int .u8)) (hd : P.underlying dst = some .string)
 (hc : ∀ j (hj : j < l.length),w.cell? (ad.add j) = some (.int .u8 (l[j].toNat : Int)))
 (h : wpList P ops Q rest (a.put o.dst (.string ⟨l.toArray⟩)) w) : wpList P ops Q (o :: rest) a w := by
 refine wpList_plain hgd fun K hK => ?_
 subst hn
 have hr := run_convert_bytes_back (P := P) w src dst e ad cap l hs he hd hc
 unfold Oper.wp execOp
 simp only [ho,hx,hr,Sem.run_bind,Sem.run_pure,Result.andThen_ok]
 exact hK _ _ h
end
section
variable {P : Program} (w : World)
theorem jgO (base : Nat) (t ty e : TypeId) (i : TypeInfo) (z : Value) (size bytes : Nat) (ht : P.underlying t = some (.slice e)) (hi : P.info? e = some i) (hz : i.zero = some z)
 (hsize : i.size = size) (hby : i.bytes = bytes) (hzs : z.cells.size = size) (hsz : 0 < size)
 (v : Value) (n : Nat) (xs : List Value) (hown : w.ownsRow base e size v n xs)
 (a : Addr) (m c : Nat) (news : List Value) (hl : news.length = m * size) (hnews : ∀ j u,news[j]? = some u -> w.cell? (a.add j) = some u) (h1 : ∀ u ∈ news,u.oneCell' = true)
 (h63 : n + m <= maxLen) (hbytes : (n + m) * bytes <= 140737488355328) (hbase : base <= w.heap.size) :
 ∃ v' w',(Builtin.append_ #[t,t] ty #[v,.slice (some a) m c]).run P w = .ok v' w' /\ w'.ownsRow base e size v' (n + m) (xs ++ news) /\ w.grownBy w' v.ownBlock /\
   (v'.ownBlock = v.ownBlock \/ v'.ownBlock = some w.heap.size) := by
 obtain ⟨v',w',hr,h2,h3,_⟩ := run_append_own (P := P) w base t ty e i z size bytes ht hi hz hsize hby hzs hsz v n xs hown a m c news hl hnews h1 h63 hbytes hbase
 refine ⟨v',w',hr,h2,h3,?_⟩
 subst hsize
 subst hby
 have hsmall : n + m <= 9223372036854775807 := by simp only [maxLen] at h63;omega
 rcases hown.2 with ⟨rfl,rfl⟩ | ⟨g,cap,cur,rfl,hbg,hg,hnc,hcm,hcs,htake⟩
 ·by_cases hm : m = 0
  ·subst hm
   rcases h2.2 with ⟨rfl,_⟩ | ⟨g,cap,cur,rfl,_⟩
   ·left;rfl
   ·have hn : news = [] := List.eq_nil_of_length_eq_zero (by simpa using hl)
    subst hn
    have hr2 : (Builtin.append_ #[t,t] ty #[.slice none 0 0,.slice (some a) 0 c]).run P w = .ok (.slice none 0 0) w := by
     simp [Builtin.append_,run_underlying ht,sizeOf,typeInfo,hi,Builtin.lenOf,Builtin.firstCells,loadCells,loadCellsFrom]
    rw [hr] at hr2
    injection hr2 with e1 _
    cases e1
  ·have hr2 := run_append_nil (P := P) w t ty e i z ht hi hz a m c news hl hnews (by omega) (by omega) (by have hb := hbytes;simp only [Nat.zero_add] at hb;omega)
   rw [hr] at hr2
   injection hr2 with e1 _
   right;rw [e1];rfl
 ·by_cases hroom : n + m <= cap
  ·have hfit : n * i.size + news.length <= cur.size := by rw [hl,hcs,<- Nat.add_mul];exact Nat.mul_le_mul_right _ hroom
   have hr2 := run_append_room (P := P) w t ty e i ht hi g n cap cur hg a m c news hl hnews h1 hroom hfit
   rw [hr] at hr2
   injection hr2 with e1 _
   left;rw [e1];rfl
  ·have holds : ∀ j u,xs[j]? = some u -> w.cell? ((⟨g,0,none⟩ : Addr).add j) = some u := hown.cells (g := g) rfl
   have hr2 := run_append_grow (P := P) w t ty e i z ht hi hz ⟨g,0,none⟩ n cap xs hown.1 holds a m c news hl hnews (by omega) (by omega) (growslice_fits (by omega) hbytes)
   rw [hr] at hr2
   injection hr2 with e1 _
   right;rw [e1];rfl
theorem JO {ops : Array Oper} {rest : List Oper} {o : Oper} {a : Act} {Q : Exit -> Act -> World -> Prop} (hgd : o.guard = none) (s x : Operand) (t : TypeId)
 (ho : o.op = .call { callee := .builtin .append,args := #[s,x],argTypes := #[t,t] })
 (base : Nat) (e : TypeId) (i : TypeInfo) (z : Value) (size bytes : Nat) (ht : P.underlying t = some (.slice e)) (hi : P.info? e = some i) (hz : i.zero = some z)
 (hsize : i.size = size) (hby : i.bytes = bytes) (hzs : z.cells.size = size) (hsz : 0 < size)
 (v : Value) (n : Nat) (xs : List Value) (hs : a.eval s = v) (hown : w.ownsRow base e size v n xs)
 (ad : Addr) (m c : Nat) (news : List Value) (hx : a.eval x = .slice (some ad) m c) (hl : news.length = m * size) (hnews : ∀ j u,news[j]? = some u -> w.cell? (ad.add j) = some u) (h1 : ∀ u ∈ news,u.oneCell' = true)
 (h63 : n + m <= maxLen) (hbytes : (n + m) * bytes <= 140737488355328) (hbase : base <= w.heap.size)
 (h : ∀ v' w',w'.ownsRow base e size v' (n + m) (xs ++ news) -> w.grownBy w' v.ownBlock -> (v'.ownBlock = v.ownBlock \/ v'.ownBlock = some w.heap.size) -> wpList P ops Q rest (a.put o.dst v') w') : wpList P ops Q (o :: rest) a w := by
 refine wpList_plain hgd fun K hK => ?_
 obtain ⟨v',w',hr,h2,h3,h4⟩ := jgO (P := P) w base t o.type e i z size bytes ht hi hz hsize hby hzs hsz v n xs hown ad m c news hl hnews h1 h63 hbytes hbase
 unfold Oper.wp execOp
 simp only [ho,resolve,invoke,builtin,Sem.run_bind,Sem.run_pure,Result.andThen_ok,List.map_toArray,List.map_cons,List.map_nil,hs,hx,hr]
 exact hK _ _ (h v' w' h2 h3 h4)
end
end Go.Proofs.YtjmgolahkgalbaaGreatDoor
