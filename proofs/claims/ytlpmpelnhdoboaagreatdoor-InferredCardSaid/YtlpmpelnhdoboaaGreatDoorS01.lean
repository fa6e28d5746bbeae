import Derived.Below
import Derived.ProofKit
import Derived.Laws.Strings
import Derived.Lib.Strings
set_option linter.unusedVariables false
set_option linter.unusedSimpArgs false
set_option maxHeartbeats 20000000
namespace Go.Proofs.YtlpmpelnhdoboaaGreatDoor
section
theorem Ya:∀ (w : Go.World) (o : Go.Obj), (w.alloc o).heap.size = w.heap.size + 1:=@Go.World.size_alloc
theorem Yb.{u_1}:∀ {α : Type u_1} {l : List α} {i : Nat} (h : i < l.length), l[i]? = some l[i]:=@List.getElem?_eq_getElem
theorem Yc:∀ (a b : Bool), ((a && b) = true) = (a = true /\ b = true):=@Bool.and_eq_true
theorem Yd:∀ {p : Prop} [inst : Decidable p], (decide p = true) = p:=@decide_eq_true_eq
theorem Ye:∀ (bs : ByteArray), bs.toList = bs.data.toList:=@Go.ByteArray.toList_eq
theorem Yf.{u_1}:∀ {α : Type u_1} {l : List α}, l.isEmpty = true ↔ l = []:=@List.isEmpty_iff
theorem Yg.{u}:∀ {α : Type u} {as bs : List α}, (as ++ bs).length = as.length + bs.length:=@List.length_append
theorem Yh.{u_1}:∀ {α : Type u_1} {l : List α}, l.length = 0 -> l = []:=@List.eq_nil_of_length_eq_zero
theorem Yi:∀ (n : Nat), 0 <= n:=@Nat.zero_le
theorem Yj:∀ {n m k : Nat}, n < m -> m <= k -> n < k:=@Nat.lt_of_lt_of_le
theorem Yk.{u}:∀ {α : Type u} {a : α} {as : List α}, (a :: as).length = as.length + 1:=@List.length_cons
theorem Yl:∀ (a b : Bool), ((a || b) = true) = (a = true \/ b = true):=@Bool.or_eq_true
theorem Ym:∀ {n m k : Nat}, n <= m -> m <= k -> n <= k:=@Nat.le_trans
theorem Yn.{u_1}:∀ {α : Type u_1} [inst : BEq α] [LawfulBEq α] {a b : α}, (a == b) = true ↔ a = b:=@beq_iff_eq
theorem Yo.{u_1}:∀ {α : Type u_1} {l : List α} {i : Nat} {a : α}, l[i]? = some a -> a ∈ l:=@List.mem_of_getElem?
theorem Yp.{u_1}:∀ {α : Type u_1} (a : α) (as : List α) (h : 0 < (a :: as).length), (a :: as)[0] = a:=@List.getElem_cons_zero
theorem Yq.{u_1}:∀ {α : Type u_1} {a : α} {s t : List α}, a ∈ s ++ t ↔ a ∈ s \/ a ∈ t:=@List.mem_append
theorem Yr.{u_1, u_2}:∀ {α : Type u_1} {β : Type u_2} {f : α -> β} {l : List α} {i : Nat}, (List.map f l)[i]? = Option.map f l[i]?:=@List.getElem?_map
theorem Ys.{u_1}:∀ {α : Type u_1} {i : Nat} {l : List α}, (List.drop i l).length = l.length - i:=@List.length_drop
theorem Yt:∀ {p : Prop}, (¬p -> False) -> p:=@Classical.byContradiction
theorem Yu.{u}:∀ {α : Type u} (as bs cs : List α), as ++ bs ++ cs = as ++ (bs ++ cs):=@List.append_assoc
theorem Yv.{u_1}:∀ {α : Type u_1} (y : α) {a : α} {l : List α}, a ∈ l -> a ∈ y :: l:=@List.mem_cons_of_mem
theorem Yw.{u_1}:∀ {α : Type u_1} {i : Nat} {l : List α}, l.length <= i -> List.take i l = l:=@List.take_of_length_le
theorem Yx.{u}:∀ {α : Type u} (as : List α), [] ++ as = as:=@List.nil_append
theorem Yy:∀ (n : Nat), n <= n:=@Nat.le_refl
theorem Yz.{u}:∀ {α : Type u} {xs : List α} {i : Nat} (h : i < xs.toArray.size), xs.toArray[i] = xs[i]:=@List.getElem_toArray
theorem Ka.{u}:∀ {α : Type u} {a : α} {as bs : List α}, a :: as ++ bs = a :: (as ++ bs):=@List.cons_append
theorem Kb.{u_1}:∀ {α : Type u_1} {l₁ l₂ : List α} {i : Nat}, i < l₁.length -> (l₁ ++ l₂)[i]? = l₁[i]?:=@List.getElem?_append_left
theorem Kc:∀ (n : Nat), 0 + n = n:=@Nat.zero_add
theorem Kd.{u}:∀ {α : Type u} (as : List α), as ++ [] = as:=@List.append_nil
theorem Ke:∀ {w w' : Go.World} {a : Go.Addr}, w'.heap[a.block]? = w.heap[a.block]? -> w'.cell? a = w.cell? a:=@Go.World.cell?_of_block
theorem Kf.{u_1}:∀ {α : Type u_1} {a b : α}, a ∈ [b] ↔ a = b:=@List.mem_singleton
theorem Kg:∀ (n m : Nat), n < m \/ n ≥ m:=@Nat.lt_or_ge
theorem Kh:∀ (w : Go.World) (a : Go.Addr) (u : Go.Value) (k : Nat), k ≠ a.block -> (w.setCell a u).heap[k]? = w.heap[k]?:=@Go.RowKit.Below.heap_setCell
theorem Ki.{u_1}:∀ {α : Type u_1} {i : Nat} {l : List α} (h : i < l.length), List.drop i l = l[i] :: List.drop (i + 1) l:=@List.drop_eq_getElem_cons
theorem Kj:∀ (n m k : Nat), n + (m + k) = m + (n + k):=@Nat.add_left_comm
theorem Kk.{u_1}:∀ {α : Type u_1} {b : α} {l : List α} {a : α}, a ∈ b :: l ↔ a = b \/ a ∈ l:=@List.mem_cons
theorem Kl.{u_1}:∀ {α : Type u_1} [inst : BEq α] [LawfulBEq α] {a b : α}, (a == b) = false ↔ a ≠ b:=@beq_eq_false_iff_ne
theorem Km.{u_1, u_2}:∀ {α : Type u_1} {β : Type u_2} {f : α -> β} {l₁ l₂ : List α}, List.map f (l₁ ++ l₂) = List.map f l₁ ++ List.map f l₂:=@List.map_append
theorem Ko:∀ (B : Nat) (w : Go.World), Go.RowKit.Below B w w:=@Go.RowKit.Below.refl
theorem Kq:∀ (w : Go.World) (o : Go.Obj) (k : Nat), k < w.heap.size -> (w.alloc o).heap[k]? = w.heap[k]?:=@Go.RowKit.Below.heap_alloc
theorem Kr:(false = true) = False:=@Bool.false_eq_true
theorem Ks:∀ (n m : Nat), n + m = m + n:=@Nat.add_comm
theorem Kt.{u, v}:∀ {α : Type u} {β : Type v} {f : α -> β} {a : α} {l : List α}, List.map f (a :: l) = f a :: List.map f l:=@List.map_cons
theorem Ku:∀ (n m k : Nat), n + m + k = n + (m + k):=@Nat.add_assoc
theorem Kv:∀ (n : Nat), 0 * n = 0:=@Nat.zero_mul
theorem Kx.{u_1}:∀ {α : Type u_1} {a : α} {l : List α}, a ∈ a :: l:=@List.mem_cons_self
theorem Ky:∀ {a b : ByteArray}, (a ++ b).size = a.size + b.size:=@ByteArray.size_append
theorem Kz:∀ (n : Nat), n + 0 = n:=@Nat.add_zero
theorem Ua.{u_1, u_2}:∀ {α : Type u_1} {β : Type u_2} {as : List α} (f : α -> β), (List.map f as).length = as.length:=@List.length_map
theorem Ub:∀ {m n : Nat}, m ∈ List.range n ↔ m < n:=@List.mem_range
theorem Uc.{u_1}:∀ {α : Type u_1} {i : Nat} {l : List α} (h : i < l.length), List.take (i + 1) l = List.take i l ++ [l[i]]:=@List.take_succ_eq_append_getElem
theorem Ud.{u_1}:∀ {α : Type u_1} {l₁ l₂ : List α} {i : Nat}, l₁.length <= i -> (l₁ ++ l₂)[i]? = l₂[i - l₁.length]?:=@List.getElem?_append_right
theorem Ue.{u_1}:∀ {α : Type u_1} {l : List α} {i : Nat}, l.length <= i -> l[i]? = Option.none:=@List.getElem?_eq_none
theorem Uf.{u}:∀ {α : Type u} {val val_1 : α}, some val = some val_1 -> val = val_1:=@Option.some.inj
theorem Ug:∀ {n m : Nat}, n < m -> n <= m:=@Nat.le_of_lt
theorem Uh.{u_1, u_2}:∀ {α : Type u_1} {β : Type u_2} {b : β} {f : α -> β} {l : List α}, b ∈ List.map f l ↔ ∃ a, a ∈ l /\ f a = b:=@List.mem_map
theorem Ui.{u}:∀ {α : Type u} {as : List α} {i : Nat}, as.length <= i -> List.drop i as = []:=@List.drop_eq_nil_of_le
theorem Uj.{u}:∀ {α : Type u} {a : α} {as : List α} (bs : List α), a ∈ as -> a ∈ as ++ bs:=@List.mem_append_left
theorem Uk:∀ (w : Go.World) (base : Nat) (e : Go.TypeId) (size : Nat), w.ownsRow base e size (Go.Value.slice Option.none 0 0) 0 []:=@Go.World.ownsRow_nil
end
namespace Sl
def jnw (c:UInt8):Bool:=decide (48<=c.toNat) && decide (c.toNat<=57)
def jqr (c:UInt8):Bool:=c.toNat == 95 || (decide (97<=c.toNat) && decide (c.toNat<=122))
def jos (c:UInt8):Bool:=jnw c || jqr c
def joL (c:UInt8):Bool:=c.toNat == 32 || c.toNat == 10 || c.toNat == 9 || c.toNat == 13
def stB (s:ByteArray) (i:Nat) (t:ByteArray):Bool:=decide (i+t.size<=s.size) && ((s.extract i (i+t.size)).toList == t.toList)
abbrev opn:ByteArray:=⟨#[40,42]⟩
abbrev cls:ByteArray:=⟨#[42,41]⟩
variable {s t:ByteArray}{i:Nat}
theorem jqd (h:stB s i t=true):i+t.size<=s.size:=by
 simp[stB]at h;exact h.1
theorem jEa (h:stB s i opn=true):stB s i cls=false:=by
 have C:=h;unfold stB at h ⊢;simp only[Yc,Yd,Yn]at h;have A:opn.size=2:=rfl;have B:cls.size=2:=rfl;rw[A]at h;rw[B,h.2];have:(opn.toList == cls.toList)=false:=by simp[Ye]
 rw[this];simp
def jo1 (s:ByteArray):Nat->Nat->Option Nat
 |0,_=>none
 |f+1,i=>if i<s.size then
   (if stB s i cls then some (i+2) else if stB s i opn then(match jo1 s f (i+2)with|some j=>jo1 s f j|none=>none) else jo1 s f (i+1))
  else none
theorem jvb (s:ByteArray):∀f i j,jo1 s f i=some j->i<j/\j<=s.size:=by
 intro f
 induction f with
 |zero=>intro i j h;simp[jo1]at h
 |succ f ih=>
  intro i j h;simp only[jo1]at h
  split at h
  .split at h
   .rename_i h1
    have:=jqd h1;have A:cls.size=2:=rfl;simp at h;omega
   .split at h
    .split at h
     .rename_i j' hj
      have a:=ih _ _ hj;have b:=ih _ _ h;omega
     .simp at h
    .have:=ih _ _ h;omega
  .simp at h
theorem jDB (s:ByteArray):∀f g i,s.size<f+i->s.size<g+i->jo1 s f i=jo1 s g i:=by
 intro f
 induction f with
 |zero=>
  intro g i A B
  cases g with
  |zero=>rfl
  |succ g=>simp only[jo1];rw[if_neg (by omega)]
 |succ f ih=>
  intro g i A B
  cases g with
  |zero=>simp only[jo1];rw[if_neg (by omega)]
  |succ g=>
   simp only[jo1]
   split
   .split
    .rfl
    .split
     .rw[ih g (i+2) (by omega) (by omega)]
      split
      .rename_i j hj
       have:=jvb s g _ _ hj;exact ih g j (by omega) (by omega)
      .rfl
     .exact ih g (i+1) (by omega) (by omega)
   .rfl
def rem (s:ByteArray) (i:Nat):Option Nat:=jo1 s (s.size+1) i
theorem jqP (s:ByteArray) (i:Nat):rem s i=if i<s.size then
 (if stB s i cls then some (i+2) else if stB s i opn then(match rem s (i+2)with|some j=>rem s j|none=>none) else rem s (i+1))
 else none:=by
 by_cases h:i<s.size
 .have e:rem s i=jo1 s (s.size+1) i:=rfl
  rw[e,jo1,if_pos h,if_pos h];have m:∀k,i<k->jo1 s s.size k=rem s k:=fun k hk=>jDB s _ _ _ (by omega) (by omega);rw[m (i+2) (by omega),m (i+1) (by omega)]
  split
  .rfl
  .split
   .split
    .rename_i j hj
     rw[m j];have:=jvb s _ _ _ hj;omega
    .rfl
   .rfl
 .rw[if_neg h]
  show jo1 s (s.size+1) i=none;rw[jo1,if_neg h]
theorem jsi {j:Nat}(h:rem s i=some j):i<j/\j<=s.size:=jvb s _ _ _ h
def jqR:Option Nat->Int
 |some j=>j
 |none=>-1
def cnt (s:ByteArray) (d at':Nat):Option Nat:=
 match d with
 |0=>some at'
 |d+1=>if at'<s.size then(if stB s at' opn then cnt s (d+2) (at'+2) else if stB s at' cls then cnt s d (at'+2) else cnt s (d+1) (at'+1)) else none
termination_by s.size-at'
theorem jwx (s:ByteArray) (a:Nat):cnt s 0 a=some a:=by rw[cnt]
theorem jwy (s:ByteArray) (d a:Nat) (h:¬a<s.size):cnt s (d+1) a=none:=by rw[cnt,if_neg h]
theorem jAa (s:ByteArray) (d a:Nat) (h:a<s.size) (A:stB s a opn=true):cnt s (d+1) a=cnt s (d+2) (a+2):=by rw[cnt,if_pos h,if_pos A]
theorem jAd (s:ByteArray) (d a:Nat) (h:a<s.size) (B:stB s a opn=false) (A:stB s a cls=true):cnt s (d+1) a=cnt s d (a+2):=by
 rw[cnt,if_pos h,if_neg (by simp[B]),if_pos A]
theorem jAb (s:ByteArray) (d a:Nat) (h:a<s.size) (B:stB s a opn=false) (A:stB s a cls=false):cnt s (d+1) a=cnt s (d+1) (a+1):=by
 rw[cnt,if_pos h,if_neg (by simp[B]),if_neg (by simp[A])]
theorem jIg (s:ByteArray):∀n a d,s.size<=n+a->cnt s (d+1) a=match rem s a with|some j=>cnt s d j|none=>none:=by
 intro n
 induction n with
 |zero=>
  intro a d h;rw[jwy s d a (by omega),jqP,if_neg (by omega)]
 |succ n ih=>
  intro a d h
  by_cases B:a<s.size
  .rw[jqP,if_pos B]
   by_cases C:stB s a opn=true
   .have A:=jEa C
    rw[jAa s d a B C,ih (a+2) (d+1) (by omega),if_neg (by simp[A]),if_pos C]
    cases hr :rem s (a+2) with
    |none=>rfl
    |some j=>
     have:=jsi hr;exact ih j d (by omega)
   .have ho':stB s a opn=false:=by simpa using C
    by_cases A:stB s a cls=true
    .rw[jAd s d a B ho' A,if_pos A]
    .have hc':stB s a cls=false:=by simpa using A
     rw[jAb s d a B ho' hc',if_neg A,if_neg C];exact ih (a+1) d (by omega)
  .rw[jwy s d a B,jqP,if_neg B]
theorem jIh (s:ByteArray) (a:Nat):cnt s 1 a=rem s a:=by
 rw[jIg s s.size a 0 (by omega)]
 cases rem s a with
 |none=>rfl
 |some j=>exact jwx s j
def jog (s:ByteArray) (b:Nat):Nat:=if stB s b opn then(match rem s (b+2)with|some j=>j|none=>b) else b
theorem jx4 (s:ByteArray) (b:Nat) (h:b<=s.size):b<=jog s b/\jog s b<=s.size:=by
 unfold jog
 split
 .split
  .rename_i j hj
   have:=jsi hj;omega
  .omega
 .omega
def skp (s:ByteArray) (a:Nat):Nat:=
 if h:a<s.size then(if joL s[a] then skp s (a+1) else if a<jog s a then skp s (jog s a) else a) else a
termination_by s.size-a
theorem js8 (s:ByteArray) (a:Nat) (h:¬a<s.size):skp s a=a:=by rw[skp,dif_neg h]
theorem ju1 (s:ByteArray) (a:Nat) (h:a<s.size) (A:joL s[a]=true):skp s a=skp s (a+1):=by rw[skp,dif_pos h,if_pos A]
theorem ju0 (s:ByteArray) (a:Nat) (h:a<s.size) (A:joL s[a]=false) (B:a<jog s a):skp s a=skp s (jog s a):=by
 rw[skp,dif_pos h,if_neg (by simp[A]),if_pos B]
theorem js7 (s:ByteArray) (a:Nat) (h:a<s.size) (A:joL s[a]=false) (B:¬a<jog s a):skp s a=a:=by
 rw[skp,dif_pos h,if_neg (by simp[A]),if_neg B]
def jq6:List (List UInt8):=[[],[],[],[108,101,116],[114,101,99],[105,110],[105,102],[116,104,101,110],[101,108,115,101],[102,117,110],[110,111,116],[116,114,117,101],[102,97,108,115,101],[114,101,97,100],[112,114,105,110,116],[108,101,110],[97,114,114,97,121],[112,117,116],[46,40],[60,62],[60,61],[62,61],[45,62],[40],[41],[44],[59],[61],[60],[62],[43],[45],[42],[47],[37]]
def txt (k:Nat):ByteArray:=⟨(jq6.getD k []).toArray⟩
theorem juD (k:Nat) (h:35<=k):txt k=⟨#[]⟩:=by
 unfold txt;have:jq6[k]? =none:=Ue (by show jq6.length<=k;exact h);simp[this]
theorem juC (k:Nat):(txt k).size<=5:=by
 by_cases h:k<35
 .have:∀k:Fin 35,(txt k.val).size<=5:=by decide
  exact this ⟨k,h⟩
 .rw[juD k (by omega)];decide
def jnY (p:Nat->Bool):Nat->Nat->Option Nat
 |_,0=>none
 |a,n+1=>if p a then some a else jnY p (a+1) n
def jpc (s:ByteArray) (i:Nat):Option Nat:=jnY (fun k=>stB s i (txt k)) 18 17
def kwK (t:ByteArray):Option Nat:=jnY (fun k=>(txt k).toList == t.toList) 3 15
theorem jp6 (p:Nat->Bool):∀n a k,jnY p a n=some k->a<=k/\k<a+n/\p k=true:=by
 intro n
 induction n with
 |zero=>intro a k h;simp[jnY]at h
 |succ n ih=>
  intro a k h;simp only[jnY]at h
  split at h
  .simp at h;subst h;exact⟨Yy _,by omega,by assumption⟩
  .have:=ih _ _ h;exact⟨by omega,by omega,this.2.2⟩
theorem jr2 (s:ByteArray) (k:Nat) (h:k<s.size):s.data.toList.drop k=s[k] ::s.data.toList.drop (k+1):=by
 rw[Ki (by simpa using h)];rfl
def joB:Nat->List UInt8->Option Nat
 |n,[]=>some n
 |n,c ::r=>if jnw c then(if n*10+(c.toNat-48)<=4611686018427387903 then joB (n*10+(c.toNat-48)) r else none) else none
def jod (t:ByteArray):Option Nat:=joB 0 t.data.toList
def jnn (s:ByteArray) (j:Nat):Nat:=if h:j<s.size then(if jos s[j] then jnn s (j+1) else j) else j
termination_by s.size-j
theorem jta (s:ByteArray) (j:Nat) (h:¬j<s.size):jnn s j=j:=by rw[jnn,dif_neg h]
theorem jqN (s:ByteArray) (j:Nat) (h:j<s.size) (A:jos s[j]=true):jnn s j=jnn s (j+1):=by rw[jnn,dif_pos h,if_pos A]
theorem js9 (s:ByteArray) (j:Nat) (h:j<s.size) (A:jos s[j]=false):jnn s j=j:=by rw[jnn,dif_pos h,if_neg (by simp[A])]
theorem jrK (s:ByteArray):∀n j,s.size<=n+j->j<=s.size->j<=jnn s j/\jnn s j<=s.size:=by
 intro n
 induction n with
 |zero=>intro j h B;rw[jta s j (by omega)];omega
 |succ n ih=>
  intro j h B
  by_cases A:j<s.size
  .by_cases hl:jos s[j]=true
   .rw[jqN s j A hl];have:=ih (j+1) (by omega) (by omega);omega
   .rw[js9 s j A (by simpa using hl)];omega
  .rw[jta s j A];omega
def nmK (t:ByteArray):Nat:=(kwK t).getD 2
inductive WR where
 |err (e:Nat)
 |ok (k n:Nat) (t:ByteArray) (z:Nat)
def jnA (s:ByteArray) (p:Nat):WR:=
 if h:p<s.size then
  if stB s p opn then .err 2
  else if jos s[p] then
   (if jnw s[p] then(match jod (s.extract p (jnn s p)) with
    |some v=>.ok 1 v (s.extract p (jnn s p)) (jnn s p)
    |none=>.err 3)
   else .ok (nmK (s.extract p (jnn s p))) 0 (s.extract p (jnn s p)) (jnn s p))
  else match jpc s p with
   |some k=>.ok k 0 (txt k) (p+(txt k).size)
   |none=>.err 2
 else .err 2
structure Tok where
 k:Nat
 n:Nat
 p:Nat
 t:ByteArray
inductive LR where
 |bad (e p:Nat)
 |good (l:List Tok)
def LR.pre (acc:List Tok):LR->LR
 | .bad e p=>.bad e p
 | .good l=>.good (acc ++l)
theorem LR.pre_nil (r:LR):r.pre []=r:=by cases r <;> rfl
theorem LR.pre_pre (a b:List Tok) (r:LR):(r.pre b).pre a=r.pre (a ++b):=by cases r <;> simp[LR.pre]
def joe (s:ByteArray):Nat->Nat->LR
 |0,_=>.good []
 |f+1,a=>if a<s.size then(match jnA s a with
   | .err e=>.bad e a
   | .ok k n t z=>(joe s f (skp s z)).pre [⟨k,n,a,t⟩]) else .good []
theorem jrI (s:ByteArray):∀n a,s.size<=n+a->a<=s.size->a<=skp s a/\skp s a<=s.size:=by
 intro n
 induction n with
 |zero=>intro a h B;rw[js8 s a (by omega)];omega
 |succ n ih=>
  intro a h B
  by_cases A:a<s.size
  .by_cases hb:joL s[a]=true
   .rw[ju1 s a A hb];have:=ih (a+1) (by omega) (by omega);omega
   .have hb':joL s[a]=false:=by simpa using hb
    by_cases C:a<jog s a
    .rw[ju0 s a A hb' C]
     have E:=jx4 s a B;have:=ih (jog s a) (by omega) (by omega);omega
    .rw[js7 s a A hb' C];omega
  .rw[js8 s a A];omega
theorem jrA {p k n z:Nat}(h:jnA s p= .ok k n t z):p<z/\z<=s.size/\k<35:=by
 unfold jnA at h
 split at h
 .rename_i hp
  split at h
  .simp at h
  .split at h
   .rename_i hl
    have A:p<jnn s p/\jnn s p<=s.size:=by
     rw[jqN s p hp hl];have:=jrK s s.size (p+1) (by omega) (by omega);omega
    split at h
    .split at h
     .simp at h;obtain⟨rfl,_,_,rfl⟩:=h;exact⟨A.1,A.2,by omega⟩
     .simp at h
    .simp at h
     obtain⟨rfl,_,_,rfl⟩:=h;refine⟨A.1,A.2,?_⟩;unfold nmK
     cases hk :kwK (s.extract p (jnn s p)) with
     |none=>simp
     |some k=>have:=jp6 _ _ _ _ hk;simp;omega
   .split at h
    .rename_i k' hk
     simp at h;obtain⟨rfl,_,_,rfl⟩:=h;have B:=jp6 _ _ _ _ hk;have C:=jqd B.2.2;refine⟨?_,C,by omega⟩;have:∀k:Fin 35,18<=k.val->0<(txt k.val).size:=by decide
     have:=this ⟨k',by omega⟩ B.1;simp at this;omega
    .simp at h
 .simp at h
theorem jw2 {p e:Nat}(h:jnA s p= .err e):e=2\/e=3:=by
 unfold jnA at h
 split at h
 .split at h
  .simp at h;exact .inl h.symm
  .split at h
   .split at h
    .split at h
     .simp at h
     .simp at h;exact .inr h.symm
    .simp at h
   .split at h
    .simp at h
    .simp at h;exact .inl h.symm
 .simp at h;exact .inl h.symm
theorem jE5 (s:ByteArray):∀f g a,s.size<f+a->s.size<g+a->a<=s.size->joe s f a=joe s g a:=by
 intro f
 induction f with
 |zero=>intro g a h;intro _ A;omega
 |succ f ih=>
  intro g a B E C
  cases g with
  |zero=>omega
  |succ g=>
   simp only[joe]
   split
   .split
    .rfl
    .rename_i k n t z hw
     have F:=jrA hw;have A:=jrI s s.size z (by omega) (by omega);rw[ih g (skp s z) (by omega) (by omega) (by omega)]
   .rfl
def lex (s:ByteArray) (a:Nat):LR:=joe s (s.size+1) a
theorem jyZ (s:ByteArray) (a:Nat) (h:¬a<s.size):lex s a= .good []:=by
 show joe s (s.size+1) a=_;rw[joe,if_neg h]
theorem jtu {a e:Nat}(h:a<s.size) (A:jnA s a= .err e):lex s a= .bad e a:=by
 show joe s (s.size+1) a=_;rw[joe,if_pos h,A]
theorem jtt {a k n z:Nat}(h:a<s.size) (A:jnA s a= .ok k n t z):lex s a=(lex s (skp s z)).pre [⟨k,n,a,t⟩]:=by
 show joe s (s.size+1) a=_;rw[joe,if_pos h,A];have B:=jrA A;have C:=jrI s s.size z (by omega) (by omega);show(joe s s.size (skp s z)).pre _=(joe s (s.size+1) (skp s z)).pre _;rw[jE5 s s.size (s.size+1) (skp s z) (by omega) (by omega) (by omega)]
end Sl
end Go.Proofs.YtlpmpelnhdoboaaGreatDoor
