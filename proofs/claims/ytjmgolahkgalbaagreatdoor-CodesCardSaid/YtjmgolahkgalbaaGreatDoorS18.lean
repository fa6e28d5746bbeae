import Derived.Test.YtjmgolahkgalbaaGreatDoorS15
import Derived.Test.YtjmgolahkgalbaaGreatDoorS17
import Derived.Deep.MidRow
import Derived.Laws.OwnMore
set_option linter.unusedVariables false
set_option linter.unusedSimpArgs false
set_option maxHeartbeats 20000000
namespace Go.Proofs.YtjmgolahkgalbaaGreatDoor
namespace Ko
open Go.RowKit Li
variable {s : ByteArray} {w : World} {r : Nat}
def c1 : V -> Value
 | .n _ => .bool false
 | .b _ => .bool true
def c2 : V -> Value
 | .n z => .int .i64 z
 | .b i => .int .i64 i
def vb : V -> Bool
 | .n _ => false
 | .b _ => true
def vi : V -> Int
 | .n z => z
 | .b i => i
theorem c1_eq (v : V) : c1 v = .bool (vb v) := by cases v <;> rfl
theorem c2_eq (v : V) : c2 v = .int .i64 (vi v) := by cases v <;> rfl
def av (v : V) : Value := .agg #[.bool (vb v),.int .i64 (vi v)]
def jv (l : List V) : List Value := l.flatMap fun v => [.bool (vb v),.int .i64 (vi v)]
structure RX where
 vF : Value
 vN : Value
 vL : Value
 depth : Nat
 vin : Value
 next : Nat
 g : Nat -> V
 vfr : Value
 half : Nat
 used : Nat
 gcs : Nat
 vbk : Value
 vfree : Value
 granted : Nat
 err : Nat
 pos : Nat
 val : Int
 vout : Value
 steps : Nat
 read : Nat
def Jp (x : RX) : Array Value := #[x.vF,x.vN,x.vL,.int .i64 x.depth,x.vin,.int .i64 x.next,
 .bool (vb (x.g 0)),.int .i64 (vi (x.g 0)),.bool (vb (x.g 1)),.int .i64 (vi (x.g 1)),.bool (vb (x.g 2)),.int .i64 (vi (x.g 2)),.bool (vb (x.g 3)),.int .i64 (vi (x.g 3)),
 .bool (vb (x.g 4)),.int .i64 (vi (x.g 4)),.bool (vb (x.g 5)),.int .i64 (vi (x.g 5)),.bool (vb (x.g 6)),.int .i64 (vi (x.g 6)),.bool (vb (x.g 7)),.int .i64 (vi (x.g 7)),
 x.vfr,.int .i64 x.half,.int .i64 x.used,.int .i64 x.gcs,x.vbk,x.vfree,.int .i64 x.granted,.int .i64 x.err,.int .i64 x.pos,.int .i64 x.val,x.vout,.int .i64 x.steps,.int .i64 x.read]
def RB (w : World) (r : Nat) (x : RX) : Prop := w.heap[r]? = some (.cells (Jp x) 85 (0,0))
theorem RB.reg {x : RX} (h : RB w r x) {n : Nat} (hn : n < 8) : w.cell? ⟨r,6 + n * 2,none⟩ = some (.bool (vb (x.g n))) /\ w.cell? ⟨r,6 + n * 2 + 1,none⟩ = some (.int .i64 (vi (x.g n))) := by
 have : ∀ n : Fin 8,(Jp x)[6 + n.val * 2]? = some (.bool (vb (x.g n.val))) /\ (Jp x)[6 + n.val * 2 + 1]? = some (.int .i64 (vi (x.g n.val))) := by
  intro n
  match n with
  | ⟨0,_⟩ => exact ⟨rfl,rfl⟩
  | ⟨1,_⟩ => exact ⟨rfl,rfl⟩
  | ⟨2,_⟩ => exact ⟨rfl,rfl⟩
  | ⟨3,_⟩ => exact ⟨rfl,rfl⟩
  | ⟨4,_⟩ => exact ⟨rfl,rfl⟩
  | ⟨5,_⟩ => exact ⟨rfl,rfl⟩
  | ⟨6,_⟩ => exact ⟨rfl,rfl⟩
  | ⟨7,_⟩ => exact ⟨rfl,rfl⟩
 have h2 := this ⟨n,hn⟩
 exact ⟨ja h _ h2.1,ja h _ h2.2⟩
def upd (g : Nat -> V) (n : Nat) (v : V) : Nat -> V := fun k => if k = n then v else g k
theorem RB.setR {x : RX} (h : RB w r x) {n : Nat} (hn : n < 8) (v : V) : RB ((w.setCell ⟨r,6 + n * 2,none⟩ (.bool (vb v))).setCell ⟨r,6 + n * 2 + 1,none⟩ (.int .i64 (vi v))) r { x with g := upd x.g n v } := by
 have e := jf (jf h (6 + n * 2) (.bool (vb v))) (6 + n * 2 + 1) (.int .i64 (vi v))
 unfold RB
 rw [e]
 have : ∀ n : Fin 8,((Jp x).setIfInBounds (6 + n.val * 2) (.bool (vb v))).setIfInBounds (6 + n.val * 2 + 1) (.int .i64 (vi v)) = Jp { x with g := upd x.g n.val v } := by
  intro n
  match n with
  | ⟨0,_⟩ => rfl
  | ⟨1,_⟩ => rfl
  | ⟨2,_⟩ => rfl
  | ⟨3,_⟩ => rfl
  | ⟨4,_⟩ => rfl
  | ⟨5,_⟩ => rfl
  | ⟨6,_⟩ => rfl
  | ⟨7,_⟩ => rfl
 rw [this ⟨n,hn⟩]
theorem jb {b : Nat} {o : Obj} (h : w.heap[b]? = some o) : b < w.heap.size := by
 rcases Nat.lt_or_ge b w.heap.size with h1 | h1
 ·exact h1
 ·rw [Array.getElem?_eq_none h1] at h;cases h
theorem RB.below {w w' : World} {x : RX} (h : RB w r x) (hb : Below w.heap.size w w') : RB w' r x := jc h hb (jb h)
theorem RB.al {x : RX} (h : RB w r x) (o : Obj) : RB (w.alloc o) r x := h.below (jB.alloc jN _)
theorem RB.lone {w w' : World} {r q : Nat} {x : RX} (h : RB w r x) (hl : Lone q w w') (hne : r ≠ q) : RB w' r x := (hl.rest r (jb h) hne).trans h
theorem _root_.Go.Proofs.YtjmgolahkgalbaaGreatDoor.Lone.al {w w1 : World} (h : Lone r w w1) (hr : r <= w1.heap.size) (o : Obj) : Lone r w (w1.alloc o) := h.trans (.of (jB.alloc jN _) hr)
theorem and7 {n : Nat} (h : n < 8) : bits BinOp.and IntKind.i64 (n : Int) 7 = (n : Int) := by
 have : ∀ n : Fin 8,bits BinOp.and IntKind.i64 ((n.val : Nat) : Int) 7 = ((n.val : Nat) : Int) := by decide
 exact this ⟨n,h⟩
theorem jhg {r n : Nat} {x : RX} (h : RB w r x) (hn : n < 8) :
 Calls Tryz.prog 80 #[.pointer (some ⟨r,0,none⟩),.int .i64 n] w fun e w' => e = .returned (av (x.g n)) /\ Below w.heap.size w w' := by
 obtain ⟨q1,q2⟩ := h.reg hn
 have h7 := and7 hn
 have hlt := jb h
 go_enter Tryz.func80,Tryz.ntmps80
 go_wp2
 go_returns
 exact ⟨rfl,jB.alloc jN _⟩
theorem jgA {r n : Nat} {x : RX} (h : RB w r x) (hn : n < 8) (v : V) :
 Calls Tryz.prog 79 #[.pointer (some ⟨r,0,none⟩),.int .i64 n,av v] w fun e w' => e = .returned (.tuple #[]) /\ RB w' r { x with g := upd x.g n v } /\ Lone r w w' := by
 obtain ⟨q1,q2⟩ := h.reg hn
 have h7 := and7 hn
 have hlt := jb h
 have f1 := je h (6 + n * 2)
 have f2 := je h (6 + n * 2 + 1)
 have hn' : (n : Int) < 8 := by omega
 unfold av
 go_enter Tryz.func79,Tryz.ntmps79
 go_wp2
 go_region
 go_returns
 exact ⟨rfl,(h.setR hn v).al _,((((Lone.refl r w).set _ _).set _ _).al (by simp only [jy];omega) _).drew⟩
def jC (w : World) (n : Nat) (a : Array Value) (v : Value) : Prop := ∀ W,Below w.heap.size w W -> Calls Tryz.prog n a W fun e w' => e = .returned v /\ Below W.heap.size W w'
def jD (n : Nat) (a : Array Value) (v : Value) : Prop := ∀ W,Calls Tryz.prog n a W fun e w' => e = .returned v /\ Below W.heap.size W w'
def jE (n : Nat) (a : Array Value) (v : Value) : Prop := ∀ W,Calls Tryz.prog n a W fun e w' => e = .returned v /\ w' = W
abbrev Tg := Nat × Nat
abbrev Kp := Nat -> Option Tg
structure Fr (S : Tg -> Prop) (κ κ' : Kp) (w w' : World) : Prop where
 low : Below 0 w w'
 old : ∀ b,b < w.heap.size -> κ' b = κ b
 rest : ∀ b,b < w.heap.size -> (∀ t,κ b = some t -> ¬ S t) -> w'.heap[b]? = w.heap[b]?
theorem Fr.refl (S : Tg -> Prop) (κ : Kp) (w : World) : Fr S κ κ w w := ⟨jB,fun _ _ => rfl,fun _ _ _ => rfl⟩
theorem Fr.trans {S : Tg -> Prop} {κ κ1 κ2 : Kp} {w w1 w2 : World} (h : Fr S κ κ1 w w1) (h2 : Fr S κ1 κ2 w1 w2) : Fr S κ κ2 w w2 :=
 ⟨h.low.trans h2.low,fun b hb => (h2.old b (Nat.lt_of_lt_of_le hb h.low.size)).trans (h.old b hb),fun b hb hs => (h2.rest b (Nat.lt_of_lt_of_le hb h.low.size) (fun t ht => hs t (by rw [<- h.old b hb];exact ht))).trans (h.rest b hb hs)⟩
theorem Fr.mono {S S' : Tg -> Prop} {κ κ1 : Kp} {w w1 : World} (h : Fr S κ κ1 w w1) (hs : ∀ t,S t -> S' t) : Fr S' κ κ1 w w1 :=
 ⟨h.low,h.old,fun b hb hn => h.rest b hb (fun t ht hS => hn t ht (hs t hS))⟩
def Fr0 (κ κ' : Kp) (w w' : World) : Prop := Fr (fun t => t ≠ (9,1)) κ κ' w w'
theorem Fr.all {S : Tg -> Prop} {κ κ1 : Kp} {w w1 : World} (h : Fr S κ κ1 w w1) (hs : ¬ S (9,1) := by first | (intro h;cases h;done) | (rintro (h | h) <;> cases h) | (intro h;exact h)) : Fr0 κ κ1 w w1 := h.mono fun t ht e => hs (e ▸ ht)
theorem Fr0.trans {κ κ1 κ2 : Kp} {w w1 w2 : World} (h : Fr0 κ κ1 w w1) (h2 : Fr0 κ1 κ2 w1 w2) : Fr0 κ κ2 w w2 := Fr.trans h h2
variable {κ : Kp}
theorem Fr.of {S : Tg -> Prop} {w w1 : World} (h : Below w.heap.size w w1) : Fr S κ κ w w1 := ⟨h.mono (Nat.zero_le _),fun _ _ => rfl,fun b hb _ => h.block b hb⟩
theorem Fr.lone {S : Tg -> Prop} {w w1 : World} {t : Tg} (h : Lone r w w1) (ht : κ r = some t) (hs : S t) : Fr S κ κ w w1 :=
 ⟨h.below.mono (Nat.zero_le _),fun _ _ => rfl,fun b hb hn => h.rest b hb (fun e => hn t (by rw [e];exact ht) hs)⟩
theorem Fr.grown {S : Tg -> Prop} {w w1 : World} {row : Option Nat} (h : w.grownBy w1 row) (hr : ∀ k,row = some k -> ∃ t,κ k = some t /\ S t) : Fr S κ κ w w1 :=
 ⟨⟨h.os,h.tape,h.output,h.size,fun b hb => absurd hb (Nat.not_lt_zero _)⟩,fun _ _ => rfl,fun b hb hn => h.block b hb (fun e => by obtain ⟨t,h1,h2⟩ := hr b e.symm;exact hn t h1 h2)⟩
theorem Fr.tags {S : Tg -> Prop} {κ κ1 κ2 : Kp} {w w1 : World} (h : Fr S κ κ1 w w1) (hk : ∀ b,b < w.heap.size -> κ2 b = κ b) : Fr S κ κ2 w w1 := ⟨h.low,hk,h.rest⟩
theorem Fr.al {S : Tg -> Prop} {κ κ1 : Kp} {w w1 : World} (h : Fr S κ κ1 w w1) (o : Obj) : Fr S κ κ1 w (w1.alloc o) := h.trans (.of (jB.alloc jN _))
theorem Fr.drew {S : Tg -> Prop} {κ κ1 : Kp} {w w1 : World} (h : Fr S κ κ1 w w1) : Fr S κ κ1 w w1.drew := ⟨h.low.drew,h.old,h.rest⟩
def jq (κ : Kp) (b : Nat) (t : Tg) : Kp := fun k => if k = b then some t else κ k
structure TR (w : World) (κ : Kp) (t : Tg) (e : TypeId) (sz : Nat) (v : Value) (n : Nat) (xs : List Value) : Prop where
 own : w.ownsRow 0 e sz v n xs
 tag : ∀ b,v.ownBlock = some b -> κ b = some t
theorem TR.keep {S : Tg -> Prop} {w w' : World} {κ κ' : Kp} {t : Tg} {e : TypeId} {sz n : Nat} {v : Value} {xs : List Value} (h : TR w κ t e sz v n xs) (hf : Fr S κ κ' w w') (hn : ¬ S t) : TR w' κ' t e sz v n xs :=
 ⟨j3 h.own (fun b hb => hf.rest b (h.own.lt b hb).2 (fun t' ht => by rw [h.tag b hb] at ht;cases ht;exact hn)),fun b hb => by rw [hf.old b (h.own.lt b hb).2];exact h.tag b hb⟩
theorem TR.form {t : Tg} {e : TypeId} {sz n : Nat} {v : Value} {xs : List Value} (h : TR w κ t e sz v n xs) : (v = .slice none 0 0 /\ n = 0) \/ ∃ g cap,v = .slice (some ⟨g,0,none⟩) n cap /\ n <= cap /\ κ g = some t /\ g < w.heap.size := by
 rcases h.own.2 with h1 | ⟨g,cap,cur,rfl,h2,h3,h4,_⟩
 ·exact .inl h1
 ·exact .inr ⟨g,cap,rfl,h4,h.tag g rfl,jb h3⟩
theorem TR.at {t : Tg} {e : TypeId} {sz n : Nat} {v : Value} {xs : List Value} (h : TR w κ t e sz v n xs) (hn : 0 < n) : ∃ g cap,v = .slice (some ⟨g,0,none⟩) n cap /\ n <= cap /\ κ g = some t /\ g < w.heap.size := by
 rcases h.form with ⟨_,h1⟩ | h1
 ·omega
 ·exact h1
theorem TR.any {t : Tg} {e : TypeId} {sz n : Nat} {v : Value} {xs : List Value} (h : TR w κ t e sz v n xs) : ∃ a cap,v = .slice a n cap /\ n <= cap := by
 rcases h.form with ⟨h1,h2⟩ | ⟨g,cap,h1,h2,_⟩
 ·exact ⟨none,0,by rw [h1,h2],by omega⟩
 ·exact ⟨_,cap,h1,h2⟩
theorem TR.cell {t : Tg} {e : TypeId} {sz n g cap : Nat} {xs : List Value} (h : TR w κ t e sz (.slice (some ⟨g,0,none⟩) n cap) n xs) {j : Nat} {u : Value} (hj : xs[j]? = some u) : w.cell? ⟨g,j,none⟩ = some u := by
 have hl : j < xs.length := (jG hj).1
 rw [h.own.cellAt j (by rw [<- h.own.1];exact hl)];exact hj
theorem TR.frz {t : Tg} {e : TypeId} {sz n g cap : Nat} {xs : List Value} (h : TR w κ t e sz (.slice (some ⟨g,0,none⟩) n cap) n xs) (j : Nat) : w.frozen? ⟨g,j,none⟩ = false := h.own.frozenAt j
theorem TR.set {t : Tg} {e : TypeId} {sz n g cap : Nat} {xs : List Value} (h : TR w κ t e sz (.slice (some ⟨g,0,none⟩) n cap) n xs) (j : Nat) (u : Value) :
 TR (w.setCell ⟨g,j,none⟩ u) κ t e sz (.slice (some ⟨g,0,none⟩) n cap) n (xs.set j u) /\ Fr (· = t) κ κ w (w.setCell ⟨g,j,none⟩ u) := by
 obtain ⟨h1,h2⟩ := h.own.stored j u
 exact ⟨⟨h1,h.tag⟩,.grown h2 (fun k hk => by cases hk;exact ⟨t,h.tag g rfl,rfl⟩)⟩
theorem TR.pop {t : Tg} {e : TypeId} {sz n g cap : Nat} {xs last : List Value} (h : TR w κ t e sz (.slice (some ⟨g,0,none⟩) (n + 1) cap) (n + 1) (xs ++ last)) (hx : xs.length = n * sz) : TR w κ t e sz (.slice (some ⟨g,0,none⟩) n cap) n xs :=
 ⟨ownsRow_pop hx h.own,fun b hb => h.tag b hb⟩
theorem TR.app {w w' : World} {t : Tg} {e : TypeId} {sz n n' : Nat} {v v' : Value} {xs xs' : List Value} (h : TR w κ t e sz v n xs) (ho : w'.ownsRow 0 e sz v' n' xs') (hg : w.grownBy w' v.ownBlock) (hb : v'.ownBlock = v.ownBlock \/ v'.ownBlock = some w.heap.size) :
 ∃ κ',TR w' κ' t e sz v' n' xs' /\ Fr (· = t) κ κ' w w' /\ ∀ b,w'.heap.size <= b -> κ' b = κ b := by
 have hF := Fr.grown (S := (· = t)) (κ := κ) hg (fun k hk => ⟨t,h.tag k hk,rfl⟩)
 rcases hb with h1 | h1
 ·exact ⟨κ,⟨ho,fun b hb' => h.tag b (by rw [<- h1];exact hb')⟩,hF,fun _ _ => rfl⟩
 ·have hs := (ho.lt _ h1).2
  refine ⟨jq κ w.heap.size t,⟨ho,fun b hb' => ?_⟩,hF.tags (fun b hb' => by unfold jq;rw [if_neg (by omega)]),fun b hb' => by unfold jq;rw [if_neg (by omega)]⟩
  rw [h1] at hb';cases hb';unfold jq;rw [if_pos rfl]
theorem JG {n : Nat} {t : Tg} {b : Nat} (h : b < n) : jq κ n t b = κ b := by unfold jq;rw [if_neg (by omega)]
theorem jmx {n m : Nat} {t : Tg} {b : Nat} (h : ∀ b,n <= b -> κ b = none) (hn : n < m) (hb : m <= b) : jq κ n t b = none := by unfold jq;rw [if_neg (by omega)];exact h b (by omega)
theorem Fr.blk {S : Tg -> Prop} {κ κ' : Kp} {w w' : World} (hf : Fr S κ κ' w w') {b : Nat} {o : Obj} (h : w.heap[b]? = some o) (hk : κ b = none) : w'.heap[b]? = some o :=
 (hf.rest b (jb h) (fun t ht => by rw [hk] at ht;cases ht)).trans h
theorem Fr.none {S : Tg -> Prop} {κ κ' : Kp} {w w' : World} (hf : Fr S κ κ' w w') {b : Nat} {o : Obj} (h : w.heap[b]? = some o) (hk : κ b = none) : κ' b = none := (hf.old b (jb h)).trans hk
theorem TR.new {t : Tg} {e : TypeId} {sz n : Nat} {v : Value} {xs : List Value} (ho : w.ownsRow 0 e sz v n xs) {b : Nat} (hb : v.ownBlock = some b) : TR w (jq κ b t) t e sz v n xs :=
 ⟨ho,fun k hk => by rw [hb] at hk;cases hk;unfold jq;rw [if_pos rfl]⟩
theorem TR.nil (w : World) (κ : Kp) (t : Tg) (e : TypeId) (sz : Nat) : TR w κ t e sz (.slice none 0 0) 0 [] := ⟨World.ownsRow_nil _ _ _ _,fun b hb => by cases hb⟩
theorem jbP {α : Type} {f : α -> List Value} {c : Nat} (hf : ∀ a,(f a).length = c) : ∀ l : List α,(l.flatMap f).length = l.length * c
 | [] => by simp
 | a :: l => by rw [List.flatMap_cons,List.length_append,hf,jbP hf l,List.length_cons,Nat.add_mul];omega
theorem JR {α : Type} {f : α -> List Value} {c : Nat} (hf : ∀ a,(f a).length = c) : ∀ {l : List α} {i k : Nat} {a : α},l[i]? = some a -> k < c -> (l.flatMap f)[i * c + k]? = (f a)[k]?
 | [],i,k,a,h,_ => by simp at h
 | b :: l,0,k,a,h,hk => by
   simp at h;subst h
   rw [List.flatMap_cons,List.getElem?_append_left (by rw [hf];omega),Nat.zero_mul,Nat.zero_add]
 | b :: l,i + 1,k,a,h,hk => by
   simp only [List.getElem?_cons_succ] at h
   rw [List.flatMap_cons,List.getElem?_append_right (by rw [hf,Nat.add_mul];omega),hf,show (i + 1) * c + k - c = i * c + k by rw [Nat.add_mul];omega]
   exact JR hf h hk
theorem jaw {α : Type} {f : α -> List Value} {c : Nat} (hf : ∀ a,(f a).length = c) : ∀ {l : List α} {i k : Nat} {a a' : α} {u : Value},l[i]? = some a -> k < c -> (f a).set k u = f a' -> (l.flatMap f).set (i * c + k) u = (l.set i a').flatMap f
 | [],i,k,a,a',u,h,_,_ => by simp at h
 | b :: l,0,k,a,a',u,h,hk,he => by
   simp at h;subst h
   rw [List.set_cons_zero,List.flatMap_cons,List.flatMap_cons,List.set_append_left _ _ (by rw [hf];omega),Nat.zero_mul,Nat.zero_add,he]
 | b :: l,i + 1,k,a,a',u,h,hk,he => by
   simp only [List.getElem?_cons_succ] at h
   rw [List.set_cons_succ,List.flatMap_cons,List.flatMap_cons,List.set_append_right _ _ (by rw [hf,Nat.add_mul];omega),hf,show (i + 1) * c + k - c = i * c + k by rw [Nat.add_mul];omega,jaw hf h hk he]
theorem jmP {α : Type} {f g : α -> List Value} (h : ∀ a,f a = g a) (l : List α) : l.flatMap f = l.flatMap g := by
 rw [show f = g from funext h]
def vC (v : V) : List Value := [.bool (vb v),.int .i64 (vi v)]
theorem jaQ (v : V) : (vC v).length = 2 := rfl
theorem ja6 (l : List V) : jv l = l.flatMap vC := rfl
theorem Jj {l : List V} {i : Nat} {v : V} (h : l[i]? = some v) : (jv l)[i * 2]? = some (.bool (vb v)) /\ (jv l)[i * 2 + 1]? = some (.int .i64 (vi v)) := by
 have h0 := JR (f := vC) jaQ h (k := 0) (by omega)
 have h1 := JR (f := vC) jaQ h (k := 1) (by omega)
 exact ⟨h0,h1⟩
theorem ja5 {l : List V} {i : Nat} {v : V} (h : i < l.length) : ((jv l).set (i * 2) (.bool (vb v))).set (i * 2 + 1) (.int .i64 (vi v)) = jv (l.set i v) := by
 apply List.ext_getElem?
 intro j
 have hl := jbP (f := vC) jaQ l
 have hl2 := jbP (f := vC) jaQ (l.set i v)
 rw [List.length_set] at hl2
 rw [ja6,ja6]
 by_cases hj : j < l.length * 2
 ·obtain ⟨a,k,hk,rfl⟩ : ∃ a k,k < 2 /\ j = a * 2 + k := ⟨j / 2,j % 2,by omega,by omega⟩
  have ha : a < l.length := by omega
  rw [List.getElem?_set,List.getElem?_set,JR jaQ (List.getElem?_eq_getElem ha) hk,List.length_set,hl]
  have hs : (l.set i v)[a]? = some (if a = i then v else l[a]) := by
   rw [List.getElem?_set]
   by_cases e : i = a
   ·rw [if_pos e,if_pos h,if_pos e.symm]
   ·rw [if_neg e,if_neg (Ne.symm e),List.getElem?_eq_getElem ha]
  rw [JR jaQ hs hk]
  by_cases e : a = i
  ·subst e
   have : k = 0 \/ k = 1 := by omega
   rcases this with rfl | rfl
   ·rw [if_neg (by omega),if_pos (by omega),if_pos (by omega),if_pos rfl];rfl
   ·rw [if_pos (by omega),if_pos (by omega),if_pos rfl];rfl
  ·rw [if_neg (by omega),if_neg (by omega),if_neg e]
 ·rw [List.getElem?_eq_none (by rw [List.length_set,List.length_set,hl];omega),List.getElem?_eq_none (by rw [hl2];omega)]
theorem jb1 (l : List V) : (jv l).length = l.length * 2 := jbP (f := vC) jaQ l
theorem JJ {α : Type} {l : List α} {i j : Nat} {a c : α} (h : (l.set i a)[j]? = some c) (hi : i < l.length) : (i = j /\ c = a) \/ (i ≠ j /\ l[j]? = some c) := by
 by_cases e : i = j
 ·subst e
  rw [List.getElem?_set_self hi] at h
  cases h
  exact .inl ⟨rfl,rfl⟩
 ·rw [List.getElem?_set_ne e] at h
  exact .inr ⟨e,h⟩
theorem jde {α β : Type} {f : α -> β} {l : List α} {i : Nat} {a b : α} (h : l[i]? = some b) (e : f a = f b) : (l.set i a).map f = l.map f := by
 apply List.ext_getElem?
 intro j
 rw [List.getElem?_map,List.getElem?_map,List.getElem?_set]
 split
 ·rename_i e2;subst e2
  have hl : i < l.length := (jG h).1
  rw [if_pos hl,h]
  simp [e]
 ·rfl
def jV (l : List Nat) : List Value := l.map fun (n : Nat) => .int .i64 (n : Int)
structure HB where
 use : Bool
 fn : Int
 fs : List V
 held : Int
 rc : Bool
 v : Value
structure FX where
 back : Nat
 sl : List V
 v : Value
structure St where
 x : RX
 fs : List FX
 bs : List HB
 free : List Nat
 out : List Int
 ins : List Int
def hbC (b : HB) : List Value := [.bool b.use,.int .i64 b.fn,b.v,.int .i64 b.held,.bool b.rc]
def fxC (f : FX) : List Value := [.int .i64 f.back,f.v]
theorem JX (b : HB) : (hbC b).length = 5 := rfl
theorem jbO (f : FX) : (fxC f).length = 2 := rfl
def iV (l : List Int) : List Value := l.map fun z => .int .i64 z
def RX.vs (x : RX) : Value × Value × Value × Value × Value × Value × Value × Value := (x.vF,x.vN,x.vL,x.vin,x.vfr,x.vbk,x.vfree,x.vout)
structure RW (s : ByteArray) (w : World) (κ : Kp) (X : St) : Prop where
 frs : TR w κ (1,0) 135 2 X.x.vfr X.fs.length (X.fs.flatMap fxC)
 sls : ∀ i f,X.fs[i]? = some f -> TR w κ (2,i) 78 2 f.v f.sl.length (jv f.sl)
 bks : TR w κ (3,0) 174 5 X.x.vbk X.bs.length (X.bs.flatMap hbC)
 fds : ∀ i b,X.bs[i]? = some b -> TR w κ (4,i) 78 2 b.v b.fs.length (jv b.fs)
 fre : TR w κ (5,0) 3 1 X.x.vfree X.free.length (jV X.free)
 out : TR w κ (6,0) 3 1 X.x.vout X.out.length (iV X.out)
 ins : TR w κ (7,0) 3 1 X.x.vin X.ins.length (iV X.ins)
 cF : TR w κ (8,0) 124 4 X.x.vF (hF s) (ji (cF s) (hF s))
 cN : TR w κ (8,0) 3 1 X.x.vN (hN s) (ji (cN s) (hN s))
 cL : TR w κ (8,0) 116 5 X.x.vL (hL s) (ji (cL s) (hL s))
structure RM (s : ByteArray) (w : World) (r : Nat) (κ : Kp) (X : St) : Prop where
 run : RB w r X.x
 self : κ r = some (0,0)
 rows : RW s w κ X
 top : ∀ b,w.heap.size <= b -> κ b = none
variable {X : St}
theorem RW.keep {S : Tg -> Prop} {w w' : World} {κ κ' : Kp} (h : RW s w κ X) (hf : Fr S κ κ' w w') (hn : ∀ k i,1 <= k -> k <= 8 -> ¬ S (k,i)) : RW s w' κ' X :=
 ⟨h.frs.keep hf (hn _ _ (by omega) (by omega)),fun i f hi => (h.sls i f hi).keep hf (hn _ _ (by omega) (by omega)),h.bks.keep hf (hn _ _ (by omega) (by omega)),fun i b hi => (h.fds i b hi).keep hf (hn _ _ (by omega) (by omega)),
  h.fre.keep hf (hn _ _ (by omega) (by omega)),h.out.keep hf (hn _ _ (by omega) (by omega)),h.ins.keep hf (hn _ _ (by omega) (by omega)),h.cF.keep hf (hn _ _ (by omega) (by omega)),h.cN.keep hf (hn _ _ (by omega) (by omega)),h.cL.keep hf (hn _ _ (by omega) (by omega))⟩
theorem RB.keep {S : Tg -> Prop} {w w' : World} {κ κ' : Kp} {x : RX} {t : Tg} (h : RB w r x) (hk : κ r = some t) (hf : Fr S κ κ' w w') (hn : ¬ S t) : RB w' r x :=
 (hf.rest r (jb h) (fun t' ht => by rw [hk] at ht;cases ht;exact hn)).trans h
theorem RM.lt (h : RM s w r κ X) : r < w.heap.size := jb h.run
theorem RM.on {w w' : World} (h : RM s w r κ X) (hb : Below w.heap.size w w') : RM s w' r κ X :=
 ⟨h.run.below hb,h.self,h.rows.keep (S := fun _ => False) (Fr.of hb) (fun _ _ _ _ h => h),fun b hl => h.top b (Nat.le_trans hb.size hl)⟩
theorem RW.x {X : St} (h : RW s w κ X) {x' : RX} (e : x'.vs = X.x.vs) : RW s w κ { X with x := x' } := by
 simp only [RX.vs,Prod.mk.injEq] at e
 obtain ⟨e1,e2,e3,e4,e5,e6,e7,e8⟩ := e
 exact ⟨by rw [e5];exact h.frs,h.sls,by rw [e6];exact h.bks,h.fds,by rw [e7];exact h.fre,by rw [e8];exact h.out,by rw [e4];exact h.ins,by rw [e1];exact h.cF,by rw [e2];exact h.cN,by rw [e3];exact h.cL⟩
theorem RM.upd {w w' : World} {X : St} (h : RM s w r κ X) {x' : RX} (hr : RB w' r x') (hl : Lone r w w') (e : x'.vs = X.x.vs) : RM s w' r κ { X with x := x' } :=
 ⟨hr,h.self,(h.rows.keep (S := (· = (0,0))) (Fr.lone hl h.self rfl) (fun k i h1 h2 h => by cases h;omega)).x e,fun b hb => h.top b (Nat.le_trans hl.size hb)⟩
theorem RM.low {w w' : World} (h : RM s w r κ X) (hl : Lone r w w') : Fr0 κ κ w w' := (Fr.lone (S := (· = (0,0))) hl h.self rfl).all
theorem RM.bk (h : RM s w r κ X) {i : Nat} {b : HB} (hi : X.bs[i]? = some b) :
 ∃ g cap,X.x.vbk = .slice (some ⟨g,0,none⟩) X.bs.length cap /\ X.bs.length <= cap /\ κ g = some (3,0) /\ g < w.heap.size /\ i < X.bs.length /\ w.cell? ⟨g,i * 5,none⟩ = some (.bool b.use) /\ w.cell? ⟨g,i * 5 + 1,none⟩ = some (.int .i64 b.fn) /\ w.cell? ⟨g,i * 5 + 2,none⟩ = some b.v /\
   w.cell? ⟨g,i * 5 + 3,none⟩ = some (.int .i64 b.held) /\ w.cell? ⟨g,i * 5 + 4,none⟩ = some (.bool b.rc) /\ ∀ j,w.frozen? ⟨g,j,none⟩ = false := by
 have hl : i < X.bs.length := (jG hi).1
 obtain ⟨g,cap,e,h1,h2,h3⟩ := h.rows.bks.at (by omega)
 have hb := h.rows.bks
 rw [e] at hb
 exact ⟨g,cap,e,h1,h2,h3,hl,hb.cell (JR (k := 0) JX hi (by omega)),hb.cell (JR (k := 1) JX hi (by omega)),hb.cell (JR (k := 2) JX hi (by omega)),hb.cell (JR (k := 3) JX hi (by omega)),hb.cell (JR (k := 4) JX hi (by omega)),hb.frz⟩
theorem RM.bkg (h : RM s w r κ X) {i n g cap : Nat} {b : HB} (hi : X.bs[i]? = some b) (hg : X.x.vbk = .slice (some ⟨g,0,none⟩) n cap) :
 n = X.bs.length /\ n <= cap /\ κ g = some (3,0) /\ g < w.heap.size /\ i < n /\ w.cell? ⟨g,i * 5,none⟩ = some (.bool b.use) /\ w.cell? ⟨g,i * 5 + 1,none⟩ = some (.int .i64 b.fn) /\ w.cell? ⟨g,i * 5 + 2,none⟩ = some b.v /\
   w.cell? ⟨g,i * 5 + 3,none⟩ = some (.int .i64 b.held) /\ w.cell? ⟨g,i * 5 + 4,none⟩ = some (.bool b.rc) /\ ∀ j,w.frozen? ⟨g,j,none⟩ = false := by
 obtain ⟨g',cap',e,h1,h2,h3,h4,h5⟩ := h.bk hi
 rw [hg] at e
 cases e
 exact ⟨rfl,h1,h2,h3,h4,h5⟩
theorem RM.fr (h : RM s w r κ X) {i : Nat} {f : FX} (hi : X.fs[i]? = some f) :
 ∃ g cap,X.x.vfr = .slice (some ⟨g,0,none⟩) X.fs.length cap /\ X.fs.length <= cap /\ κ g = some (1,0) /\ g < w.heap.size /\ i < X.fs.length /\ w.cell? ⟨g,i * 2,none⟩ = some (.int .i64 f.back) /\ w.cell? ⟨g,i * 2 + 1,none⟩ = some f.v /\ ∀ j,w.frozen? ⟨g,j,none⟩ = false := by
 have hl : i < X.fs.length := (jG hi).1
 obtain ⟨g,cap,e,h1,h2,h3⟩ := h.rows.frs.at (by omega)
 have hb := h.rows.frs
 rw [e] at hb
 exact ⟨g,cap,e,h1,h2,h3,hl,hb.cell (JR (k := 0) jbO hi (by omega)),hb.cell (JR (k := 1) jbO hi (by omega)),hb.frz⟩
theorem TR.val {t : Tg} {e : TypeId} {v : Value} {l : List V} (h : TR w κ t e 2 v l.length (jv l)) {i : Nat} {u : V} (hi : l[i]? = some u) :
 ∃ g cap,v = .slice (some ⟨g,0,none⟩) l.length cap /\ l.length <= cap /\ κ g = some t /\ g < w.heap.size /\ i < l.length /\ w.cell? ⟨g,i * 2,none⟩ = some (.bool (vb u)) /\ w.cell? ⟨g,i * 2 + 1,none⟩ = some (.int .i64 (vi u)) /\ ∀ j,w.frozen? ⟨g,j,none⟩ = false := by
 have hl : i < l.length := (jG hi).1
 obtain ⟨g,cap,rfl,h1,h2,h3⟩ := h.at (by omega)
 exact ⟨g,cap,rfl,h1,h2,h3,hl,h.cell (Jj hi).1,h.cell (Jj hi).2,h.frz⟩
theorem RM.setB {X : St} (h : RM s w r κ X) {i k g cap : Nat} {b b' : HB} {u : Value} (hi : X.bs[i]? = some b) (hg : X.x.vbk = .slice (some ⟨g,0,none⟩) X.bs.length cap) (hk : k < 5) (he : (hbC b).set k u = hbC b') (hv : b'.v = b.v) (hfs : b'.fs = b.fs) :
 RM s (w.setCell ⟨g,i * 5 + k,none⟩ u) r κ { X with bs := X.bs.set i b' } /\ Fr (· = (3,0)) κ κ w (w.setCell ⟨g,i * 5 + k,none⟩ u) := by
 have hb := h.rows.bks
 rw [hg] at hb
 obtain ⟨t1,t2⟩ := hb.set (i * 5 + k) u
 rw [jaw JX hi hk he] at t1
 have hR := h.rows
 refine ⟨⟨h.run.keep h.self t2 (by intro h;cases h),h.self,⟨hR.frs.keep t2 (by intro h;cases h),fun i f hi => (hR.sls i f hi).keep t2 (by intro h;cases h),?_,fun j c hj => ?_,hR.fre.keep t2 (by intro h;cases h),hR.out.keep t2 (by intro h;cases h),hR.ins.keep t2 (by intro h;cases h),hR.cF.keep t2 (by intro h;cases h),hR.cN.keep t2 (by intro h;cases h),hR.cL.keep t2 (by intro h;cases h)⟩,fun b hb => h.top b (by rw [jy] at hb;exact hb)⟩,t2⟩
 ·show TR _ κ (3,0) _ 5 X.x.vbk (X.bs.set i b').length _
  rw [hg,List.length_set];exact t1
 ·rcases JJ hj (jG hi).1 with ⟨rfl,rfl⟩ | ⟨e,hj⟩
  ·rw [hv,hfs]
   exact (hR.fds i b hi).keep t2 (by intro h;cases h)
  ·exact (hR.fds j c hj).keep t2 (by intro h;cases h)
theorem RM.setV {X : St} (h : RM s w r κ X) {i a g cap : Nat} {b : HB} {u : V} (hi : X.bs[i]? = some b) (hg : b.v = .slice (some ⟨g,0,none⟩) b.fs.length cap) (ha : a < b.fs.length) :
 RM s ((w.setCell ⟨g,a * 2,none⟩ (.bool (vb u))).setCell ⟨g,a * 2 + 1,none⟩ (.int .i64 (vi u))) r κ { X with bs := X.bs.set i { b with fs := b.fs.set a u } } /\ Fr (· = (4,i)) κ κ w ((w.setCell ⟨g,a * 2,none⟩ (.bool (vb u))).setCell ⟨g,a * 2 + 1,none⟩ (.int .i64 (vi u))) := by
 have hl : i < X.bs.length := (jG hi).1
 have hb := h.rows.fds i b hi
 rw [hg] at hb
 obtain ⟨t1,t2⟩ := hb.set (a * 2) (.bool (vb u))
 obtain ⟨t3,t4⟩ := t1.set (a * 2 + 1) (.int .i64 (vi u))
 rw [ja5 ha] at t3
 have t5 := t2.trans t4
 have hR := h.rows
 refine ⟨⟨h.run.keep h.self t5 (by intro h;cases h),h.self,⟨hR.frs.keep t5 (by intro h;cases h),fun i f hi => (hR.sls i f hi).keep t5 (by intro h;cases h),?_,fun j c hj => ?_,hR.fre.keep t5 (by intro h;cases h),hR.out.keep t5 (by intro h;cases h),hR.ins.keep t5 (by intro h;cases h),hR.cF.keep t5 (by intro h;cases h),hR.cN.keep t5 (by intro h;cases h),hR.cL.keep t5 (by intro h;cases h)⟩,fun b hb => h.top b (by simp only [jy] at hb;exact hb)⟩,t5⟩
 ·have e : (X.bs.set i { b with fs := b.fs.set a u }).flatMap hbC = X.bs.flatMap hbC := by
   have h1 := jaw (f := hbC) JX (l := X.bs) (k := 0) (u := .bool b.use) (a' := { b with fs := b.fs.set a u }) hi (by omega) rfl
   rw [<- h1]
   apply List.ext_getElem?
   intro j
   rw [List.getElem?_set]
   split
   ·rename_i e;subst e
    have := JR JX hi (k := 0) (by omega)
    split
    ·rw [this];rfl
    ·rename_i hn
     rw [List.getElem?_eq_none (by omega)]
   ·rfl
  show TR _ κ (3,0) _ 5 X.x.vbk (X.bs.set i { b with fs := b.fs.set a u }).length _
  rw [e,List.length_set]
  exact hR.bks.keep t5 (by intro h;cases h)
 ·rcases JJ hj hl with ⟨rfl,rfl⟩ | ⟨e,hj⟩
  ·show TR _ κ (4,i) _ 2 b.v (b.fs.set a u).length _
   rw [hg,List.length_set];exact t3
  ·exact (hR.fds j c hj).keep t5 (by intro h;cases h;exact e rfl)
theorem RM.setS {X : St} (h : RM s w r κ X) {i a g cap : Nat} {b : FX} {u : V} (hi : X.fs[i]? = some b) (hg : b.v = .slice (some ⟨g,0,none⟩) b.sl.length cap) (ha : a < b.sl.length) :
 RM s ((w.setCell ⟨g,a * 2,none⟩ (.bool (vb u))).setCell ⟨g,a * 2 + 1,none⟩ (.int .i64 (vi u))) r κ { X with fs := X.fs.set i { b with sl := b.sl.set a u } } /\ Fr (· = (2,i)) κ κ w ((w.setCell ⟨g,a * 2,none⟩ (.bool (vb u))).setCell ⟨g,a * 2 + 1,none⟩ (.int .i64 (vi u))) := by
 have hl : i < X.fs.length := (jG hi).1
 have hb := h.rows.sls i b hi
 rw [hg] at hb
 obtain ⟨t1,t2⟩ := hb.set (a * 2) (.bool (vb u))
 obtain ⟨t3,t4⟩ := t1.set (a * 2 + 1) (.int .i64 (vi u))
 rw [ja5 ha] at t3
 have t5 := t2.trans t4
 have hR := h.rows
 refine ⟨⟨h.run.keep h.self t5 (by intro h;cases h),h.self,⟨?_,fun j c hj => ?_,hR.bks.keep t5 (by intro h;cases h),fun i f hi => (hR.fds i f hi).keep t5 (by intro h;cases h),hR.fre.keep t5 (by intro h;cases h),hR.out.keep t5 (by intro h;cases h),hR.ins.keep t5 (by intro h;cases h),hR.cF.keep t5 (by intro h;cases h),hR.cN.keep t5 (by intro h;cases h),hR.cL.keep t5 (by intro h;cases h)⟩,fun b hb => h.top b (by simp only [jy] at hb;exact hb)⟩,t5⟩
 ·have e : (X.fs.set i { b with sl := b.sl.set a u }).flatMap fxC = X.fs.flatMap fxC := by
   have h1 := jaw (f := fxC) jbO (l := X.fs) (k := 0) (u := .int .i64 b.back) (a' := { b with sl := b.sl.set a u }) hi (by omega) rfl
   rw [<- h1]
   apply List.ext_getElem?
   intro j
   rw [List.getElem?_set]
   split
   ·rename_i e;subst e
    have := JR jbO hi (k := 0) (by omega)
    split
    ·rw [this];rfl
    ·rename_i hn
     rw [List.getElem?_eq_none (by omega)]
   ·rfl
  show TR _ κ (1,0) _ 2 X.x.vfr (X.fs.set i { b with sl := b.sl.set a u }).length _
  rw [e,List.length_set]
  exact hR.frs.keep t5 (by intro h;cases h)
 ·rcases JJ hj hl with ⟨rfl,rfl⟩ | ⟨e,hj⟩
  ·show TR _ κ (2,i) _ 2 b.v (b.sl.set a u).length _
   rw [hg,List.length_set];exact t3
  ·exact (hR.sls j c hj).keep t5 (by intro h;cases h;exact e rfl)
end Ko
end Go.Proofs.YtjmgolahkgalbaaGreatDoor
