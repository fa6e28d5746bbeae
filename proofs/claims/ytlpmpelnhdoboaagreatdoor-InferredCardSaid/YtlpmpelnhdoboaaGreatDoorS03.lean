import Derived.Test.YtlpmpelnhdoboaaGreatDoorS01
import Derived.WalkKit
import Derived.WalkSpells
import Derived.WalkLawsBesides
import Derived.Laws.IdiomStrings
import Derived.Handy
import Derived.Laws.OwnMore
import Derived.Deep.Quiet
import Derived.StillTail
set_option linter.unusedVariables false
set_option linter.unusedSimpArgs false
set_option maxHeartbeats 20000000
namespace Go.Proofs.YtlpmpelnhdoboaaGreatDoor
namespace Sl
def jnW (n:Nat) (l:List UInt8):Nat:=l.foldl (fun a c=>a*10+(c.toNat-48)) n
theorem jqJ (n:Nat) (c:UInt8) (l:List UInt8):jnW n (c ::l)=jnW (n*10+(c.toNat-48)) l:=by unfold jnW;rw[List.foldl_cons]
theorem jBd (n:Nat) (c:UInt8) (l:List UInt8):jnW n (l ++[c])=jnW n l*10+(c.toNat-48):=by simp[jnW]
theorem jBf (l:List UInt8):∀n,n<=jnW n l:=by
 induction l with
 |nil=>intro n;exact Yy _
 |cons c r ih=>intro n;rw[jqJ];have:=ih (n*10+(c.toNat-48));omega
theorem jtW (l:List UInt8):∀n,n<=4611686018427387903->joB n l=if l.all jnw=true/\jnW n l<=4611686018427387903 then some (jnW n l) else none:=by
 induction l with
 |nil=>intro n h;simp[joB,jnW,h]
 |cons c r ih=>
  intro n h;rw[joB]
  by_cases hd:jnw c=true
  .rw[if_pos hd,jqJ]
   by_cases A:n*10+(c.toNat-48)<=4611686018427387903
   .rw[if_pos A,ih _ A];simp[hd]
   .rw[if_neg A,if_neg]
    rintro ⟨_,B⟩;have:=jBf r (n*10+(c.toNat-48));omega
  .rw[if_neg hd,if_neg]
   rintro ⟨B,_⟩;simp at B;exact hd B.1
theorem jsR (l:List UInt8) (h:l.all jnw=true):∀n,jnW n l<(n+1)*10 ^ l.length:=by
 induction l with
 |nil=>intro n;simp[jnW]
 |cons c r ih=>
  intro n;simp at h;have B:48<=c.toNat/\c.toNat<=57:=by simpa[jnw] using h.1
  rw[jqJ,Yk,Nat.pow_succ];have A:=ih (by simpa using h.2) (n*10+(c.toNat-48));have E:(n*10+(c.toNat-48)+1)*10 ^ r.length<=((n+1)*10)*10 ^ r.length:=Nat.mul_le_mul_right _ (by omega);have C:(n+1)*10*10 ^ r.length=(n+1)*(10 ^ r.length*10):=by rw[Nat.mul_assoc,Nat.mul_comm 10]
  omega
theorem juy (l:List UInt8):∀n,jnW n l=n*10 ^ l.length+jnW 0 l:=by
 induction l with
 |nil=>intro n;simp[jnW]
 |cons c r ih=>
  intro n;rw[jqJ,jqJ,ih,ih (0*10+_),Yk,Nat.pow_succ]
  have:(n*10+(c.toNat-48))*10 ^ r.length=n*(10 ^ r.length*10)+(c.toNat-48)*10 ^ r.length:=by
   rw[Nat.add_mul,Nat.mul_assoc,Nat.mul_comm 10]
  simp only[Kv,Kc];omega
def leB (a b:List UInt8):Bool:=Op.bytesLess a b || a == b
theorem jFg:∀(a b:List UInt8),a.length=b.length->a.all jnw=true->b.all jnw=true->∀n,leB a b=decide (jnW n a<=jnW n b):=by
 intro a
 induction a with
 |nil=>
  intro b A _ _ n
  cases b with
  |nil=>simp[leB,jnW]
  |cons=>simp at A
 |cons c r ih=>
  intro b A F E n
  cases b with
  |nil=>simp at A
  |cons d q=>
   simp at A F E;have O:48<=c.toNat/\c.toNat<=57:=by simpa[jnw] using F.1
   have hd:48<=d.toNat/\d.toNat<=57:=by simpa[jnw] using E.1
   rw[jqJ,jqJ]
   by_cases B:c=d
   .subst B
    rw[<-ih q A (by simpa using F.2) (by simpa using E.2)];simp[leB,Op.bytesLess]
   .have hne:c.toNat≠d.toNat:=fun h=>B (UInt8.toNat_inj.1 h)
    have C:=jsR r (by simpa using F.2) 0;have I:=jsR q (by simpa using E.2) 0;rw[juy r,juy q,A];rw[A]at C
    obtain⟨P,K⟩:∃P,P=10 ^ q.length:=⟨_,rfl⟩
    rw[<-K]at C I ⊢;rw[Kc,Nat.one_mul]at C I
    by_cases H:c.toNat<d.toNat
    .have e1:leB (c ::r) (d ::q)=true:=by simp[leB,Op.bytesLess,UInt8.lt_iff_toNat_lt,H]
     rw[e1]
     symm
     rw[Yd];have:(n*10+(c.toNat-48)+1)*P<=(n*10+(d.toNat-48))*P:=Nat.mul_le_mul_right _ (by omega);rw[Nat.add_mul,Nat.one_mul]at this;omega
    .have e1:leB (c ::r) (d ::q)=false:=by
      simp[leB,Op.bytesLess,UInt8.lt_iff_toNat_lt,H,B]
     rw[e1]
     symm
     rw[decide_eq_false_iff_not];have:(n*10+(d.toNat-48)+1)*P<=(n*10+(c.toNat-48))*P:=Nat.mul_le_mul_right _ (by omega);rw[Nat.add_mul,Nat.one_mul]at this;omega
def joH:ByteArray:=⟨#[52,54,49,49,54,56,54,48,49,56,52,50,55,51,56,55,57,48,51]⟩
theorem jEL:jnW 0 joH.data.toList=4611686018427387903:=by decide
theorem jEM:joH.data.toList.all jnw=true:=by decide
def jqT:ByteArray:=⟨#[110,117,109]⟩
def idN:ByteArray:=⟨#[105,100]⟩
def endN:ByteArray:=⟨#[101,110,100]⟩
def joS (t:ByteArray):ByteArray:=if(kwK t).isSome then t else if h:0<t.size then(if jnw t[0] then jqT else if jqr t[0] then idN else t) else t
def jpz (k:Nat) (t:ByteArray):ByteArray:=if k=0 then endN else if k=1 then jqT else if k=2 then idN else t
theorem toList_inj {a b:ByteArray}(h:a.toList=b.toList):a=b:=by
 rw[Ye,Ye]at h;cases a;cases b;simp at h;rw[h]
theorem jy0 (t:ByteArray) (h:0<t.size) (hd:jnw t[0]=true):kwK t=none:=by
 cases hk :kwK t with
 |none=>rfl
 |some k=>
  exfalso;have A:=jp6 _ _ _ _ hk;have C:txt k=t:=toList_inj (by simpa using A.2.2);have:∀k:Fin 18,3<=k.val->(if h:0<(txt k.val).size then jnw (txt k.val)[0] else false)=false:=by decide
  have B:=this ⟨k,by omega⟩ A.1;subst C;simp only[h,dif_pos]at B;rw[B]at hd;cases hd
theorem jy5 {k:Nat}{t:ByteArray}(h:3<=k):jpz k t=t:=by
 unfold jpz;rw[if_neg (by omega),if_neg (by omega),if_neg (by omega)]
theorem jFl (t:ByteArray):kwK t=jnY (fun k=>(txt k).data.toList == t.data.toList) 3 15:=by
 unfold kwK
 congr 1
 funext k
 rw[Ye,Ye]
theorem jCk (k:Nat) (C:18<=k) (E:k<35):joS (txt k)=txt k:=by
 have hk:∀k:Fin 35,18<=k.val->jnY (fun j=>(txt j).data.toList == (txt k.val).data.toList) 3 15=none:=by decide
 have hd:∀k:Fin 35,18<=k.val->(if h:0<(txt k.val).size then jnw (txt k.val)[0] || jqr (txt k.val)[0] else false)=false:=by decide
 have B:=hk ⟨k,E⟩ C;have A:=hd ⟨k,E⟩ C;rw[<-jFl]at B;simp only at B A;unfold joS;rw[B,if_neg (by simp)]
 split
 .rename_i h
  rw[dif_pos h]at A;simp only[Bool.or_eq_false_iff]at A;rw[if_neg (by simp[A.1]),if_neg (by simp[A.2])]
 .rfl
theorem jzP (s:ByteArray) (p z:Nat) (A:p<z) (B:z<=s.size) (h:0<(s.extract p z).size):(s.extract p z)[0]=s[p]:=by
 simp[ByteArray.getElem_extract]
variable {s:ByteArray}{p:Nat}
theorem jw1 {k n z:Nat}{t:ByteArray}(h:jnA s p= .ok k n t z) :
 0<t.size/\z=p+t.size/\joS t=jpz k t/\((joS t).toList == jqT.toList)=decide (k=1)/\t.size<=s.size:=by
 have W:=jrA h;unfold jnA at h
 split at h
 .rename_i hp
  split at h
  .simp at h
  .split at h
   .rename_i A
    have K:p<jnn s p/\jnn s p<=s.size:=by
     rw[jqN s p hp A];have:=jrK s s.size (p+1) (by omega) (by omega);omega
    have U:(s.extract p (jnn s p)).size=jnn s p-p:=by simp;omega
    have B:0<(s.extract p (jnn s p)).size:=by omega
    have F:=jzP s p (jnn s p) K.1 K.2 B
    split at h
    .rename_i hd
     split at h
     .simp at h
      obtain⟨rfl,_,rfl,rfl⟩:=h;have hk:=jy0 _ B (by rw[F];exact hd)
      have e:joS (s.extract p (jnn s p))=jqT:=by
       unfold joS;rw[hk,if_neg (by simp),dif_pos B,if_pos (by rw[F];exact hd)]
      refine⟨B,by omega,by rw[e];rfl,by rw[e];simp,by omega⟩
     .simp at h
    .rename_i hd
     simp at h;obtain⟨rfl,_,rfl,rfl⟩:=h
     cases hk :kwK (s.extract p (jnn s p)) with
     |some k=>
      have C:=jp6 _ _ _ _ hk;have H:nmK (s.extract p (jnn s p))=k:=by unfold nmK;rw[hk];rfl
      have e:joS (s.extract p (jnn s p))=s.extract p (jnn s p):=by
       unfold joS;rw[hk,if_pos (by simp)]
      rw[H,e,jy5 (by omega)];refine⟨B,by omega,rfl,?_,by omega⟩;have O:txt k=s.extract p (jnn s p):=toList_inj (by simpa using C.2.2);have:∀k:Fin 18,3<=k.val->((txt k.val).data.toList == jqT.data.toList)=false:=by decide
      have E:=this ⟨k,by omega⟩ C.1;rw[<-O,Ye,Ye];simp only at E;rw[E];simp;omega
     |none=>
      have H:nmK (s.extract p (jnn s p))=2:=by unfold nmK;rw[hk];rfl
      have I:jqr (s.extract p (jnn s p))[0]=true:=by
       rw[F];simp only[jos,Yl]at A;rcases A with A|A
       .exact absurd A hd
       .exact A
      have e:joS (s.extract p (jnn s p))=idN:=by
       unfold joS;rw[hk,if_neg (by simp),dif_pos B,if_neg (by rw[F];exact hd),if_pos I]
      rw[H,e];refine⟨B,by omega,rfl,?_,by omega⟩;rw[Ye,Ye];rfl
   .split at h
    .rename_i k' hk
     simp at h;obtain⟨rfl,_,rfl,rfl⟩:=h;have C:=jp6 _ _ _ _ hk;have e:=jCk k' C.1 (by omega);have R:=jqd C.2.2;refine⟨by omega,rfl,by rw[e,jy5 (by omega)],?_,by omega⟩;rw[e];have:∀k:Fin 35,18<=k.val->((txt k.val).data.toList == jqT.data.toList)=false:=by decide
     have E:=this ⟨k',by omega⟩ C.1;rw[Ye,Ye];simp only at E;rw[E];simp;omega
    .simp at h
 .simp at h
theorem jAH (B:p<s.size) (A:stB s p opn=false) (C:jos s[p]=true) (hd:jnw s[p]=false) :
 jnA s p= .ok (nmK (s.extract p (jnn s p))) 0 (s.extract p (jnn s p)) (jnn s p):=by
 rw[jnA,dif_pos B,if_neg (by simp[A]),if_pos C,if_neg (by simp[hd])]
theorem jym (B:p<s.size) (h:stB s p opn=true):s[p].toNat=40:=by
 unfold stB at h;simp only[Yc,Yd,Yn]at h;have C:opn.size=2:=rfl;rw[C]at h;have A:=h.2;rw[Lib.extract_toList,jr2 s p B]at A;have E:opn.toList=[40,42]:=by rw[Ye]
 rw[E,show p+2-p=1+1 by omega,List.take_succ_cons]at A;simp at A;rw[A.1];rfl
theorem jCe (C:p<s.size) (B:stB s p opn=false) (A:joL s[p]=false):skp s p=p:=by
 rw[js7 s p C A];rw[jog,if_neg (by simp[B])];omega
theorem jCg (A:p<s.size) (B:stB s p opn=true) (C:rem s (p+2)=none):skp s p=p/\jnA s p= .err 2:=by
 have E:=jym A B;have F:joL s[p]=false:=by simp[joL,E]
 refine⟨?_,by rw[jnA,dif_pos A,if_pos B]⟩;rw[js7 s p A F];rw[jog,if_pos B,C];simp
theorem jCf {j:Nat}(A:p<s.size) (B:stB s p opn=true) (C:rem s (p+2)=some j):skp s p=skp s j:=by
 have E:=jym A B;have F:joL s[p]=false:=by simp[joL,E]
 have e:jog s p=j:=by rw[jog,if_pos B,C]
 have:=jsi C;rw[ju0 s p A F (by omega),e]
end Sl
section
open Go.RowKit
variable {w w1:World}{n:Nat}
theorem own_below {base size:Nat}{e:TypeId}{v:Value}{xs:List Value}(h:w.ownsRow base e size v n xs) (C:Below w.heap.size w w1):w1.ownsRow base e size v n xs:=by
 refine⟨h.1,?_⟩
 rcases h.2 with H|⟨g,cap,E,K,O,A,F⟩
 .exact .inl H
 .refine .inr ⟨g,cap,E,K,O,?_,F⟩
  have I:g<w.heap.size:=by
   rcases Kg g w.heap.size with h|h
   .exact h
   .rw[Array.getElem?_eq_none h]at A;simp at A
  rw[C.block g I];exact A
theorem Ja (w:World) (arr:List Value) (e:TypeId) (b:Nat) (A:b=w.heap.size):∀j u,arr[j]? =some u->(w.alloc (.cells arr.toArray e)).cell? ((⟨b,0,none⟩:Addr).add j)=some u:=by
 intro j u E;subst A;have:=World.cell?_alloc_new (w:=w) arr.toArray e j
 have C:(⟨w.heap.size,0,none⟩:Addr).add j=⟨w.heap.size,j,none⟩:=by
  unfold Addr.add
  split
  .rename_i h;rw[h]
  .simp
 rw[C,this];simpa using E
theorem jh7 {base size:Nat}{e:TypeId}{v:Value}{xs:List Value}(h:w.ownsRow base e size v n xs):∀k,v.ownBlock=some k->base<=k:=
 fun k hk=>(h.lt k hk).1
variable {B:Nat}
theorem jmb {wr w3:World}{row:Option Nat}(h:Below B w wr) (C:B<=wr.heap.size) (o:Obj) (A:(wr.alloc o).grownBy w3 row) (E:∀k,row=some k->B<=k):Below B w w3:=
 (h.alloc C o).grown A (by have:=Ya (w:=wr) o;omega) E
theorem jmV {wr w3:World}{row:Option Nat}(h:Below B w wr) (F:B<=wr.heap.size) (C:Below wr.heap.size wr w1) (o1 A:Obj) (E:((w1.alloc o1).alloc A).grownBy w3 row) (H:∀k,row=some k->B<=k):Below B w w3:=by
 have hs:=C.size;have I:Below B w (w1.alloc o1):=(h.trans (C.mono F)).alloc (by omega) o1;have:=Ya (w:=w1) o1;exact jmb I (by omega) A E H
theorem _root_.Go.RowKit.Hid.o {p : Prop} (h : Hid p) : p := h
theorem jB : Below B w w := Ko _ _
theorem jH {p : Prop} (h : p) : Hid p := h
theorem jN : n <= n := Yy _
theorem jG {α : Type} {l : List α} {i : Nat} {a : α} (h : l[i]? = some a) : ∃ h : i < l.length,l[i] = a := List.getElem?_eq_some_iff.1 h
theorem addr_add (b j:Nat):(⟨b,0,none⟩:Addr).add j=⟨b,j,none⟩:=by
 unfold Addr.add
 split
 .rename_i h;rw[h]
 .simp
theorem jmX (b i j:Nat):(⟨b,i,none⟩:Addr).add j=⟨b,i+j,none⟩:=by
 unfold Addr.add
 split
 .rename_i h;rw[h];simp
 .simp
theorem jmy {x:ByteArray}{b:Nat}(l:List UInt8) (v:UInt8) (E:x.size=n+1) (C:∀j (hj:j<x.size),w1.cell? ⟨b,j,none⟩=some (.int .u8 x[j].toNat))
 (A:l=x.data.toList.take n ++[v]):∀j (hj:j<l.length),(w1.setCell ⟨b,n,none⟩ (.int .u8 v.toNat)).cell? ((⟨b,0,none⟩:Addr).add j)=some (.int .u8 (l[j].toNat:Int)):=by
 intro j hj;rw[addr_add];have H:x.data.toList.length=n+1:=by simpa using E
 have F:l.length=n+1:=by rw[A];simp;omega
 by_cases h:j=n
 .subst h
  have:=C j (by omega);rw[World.cell?_setCell_same _ _ _ this];have:l[j]=v:=by simp[A,E]
  rw[this]
 .rw[World.cell?_setCell_other _ _ _ _ (by intro e;injection e with _ e2;omega),C j (by omega)]
  have:l[j]=x[j]:=by
   subst A;rw[List.getElem_append_left (by simp;omega),List.getElem_take];rfl
  rw[this]
theorem jmE (W:World) (e:TypeId) (b base:Nat) (xs:List ByteArray) (A:b=W.heap.size) (C:base<=W.heap.size) (E:xs.length<=1000) :
 (W.alloc (.cells (xs.map Value.string).toArray e)).ownsRow base e 1 (.slice (some ⟨b,0,none⟩) xs.length xs.length) xs.length (xs.map Value.string):=by
 subst A;have:=World.ownsRow_lit (e:=e) (size:=1) W (xs.map Value.string).toArray xs.length C (by unfold maxLen;omega) (by simp);simpa using this
section
variable {P:Program}(w:World)
theorem jmu {ops:Array Oper}{rest:List Oper}{o:Oper}{a:Act}{Q:Exit->Act->World->Prop}(C:o.guard=none) (s:Operand) (src A e:TypeId)
 (E:o.op= .convert src A s) (x:ByteArray) (F:a.eval s= .string x) (hs:P.underlying src=some .string) (hd:P.underlying A=some (.slice e)) (he:P.underlying e=some (.int .u8))
 (h:∀w1 cap,(∀j (hj:j<x.size),w1.cell? ⟨w.heap.size,j,none⟩=some (.int .u8 x[j].toNat))->(∀j,j<x.size->w1.frozen? ⟨w.heap.size,j,none⟩=false)->Below w.heap.size w w1->w1.heap.size=w.heap.size+1->
  wpList P ops Q rest (a.put o.dst (.slice (some ⟨w.heap.size,0,none⟩) x.size cap)) w1):wpList P ops Q (o ::rest) a w:=by
 refine wpList_plain C fun K hK=>?_;have H:=run_bytes_of_string (P:=P) w src A e x hs hd he;unfold Oper.wp execOp;simp only[E,F,H,Sem.run_bind,Sem.run_pure,Result.andThen_ok];refine hK _ _ (h _ _ ?_ ?_ ?_ ?_)
 .intro j hj
  exact(World.cell?_alloc_mark w.drew _ _ _ j).trans (bytesRow_at x _ j hj)
 .intro j hj
  refine(World.frozen?_alloc_mark w.drew _ _ _ _ j).trans ?_
  have:¬(bytesRow x (grownCap w x.size 0 e)).size<=j:=by
   unfold bytesRow;simp;have:x.data.size=x.size:=rfl;omega
  simp[this]
 .exact(jB.drew).alloc jN _
 .exact Ya (w:=w.drew) _
theorem jmt {ops:Array Oper}{rest:List Oper}{o:Oper}{a:Act}{Q:Exit->Act->World->Prop}(E:o.guard=none) (s:Operand) (src A e:TypeId)
 (F:o.op= .convert src A s) (l:List UInt8) (C:Addr) (n cap:Nat) (H:a.eval s= .slice (some C) n cap) (O:l.length=n) (hs:P.underlying src=some (.slice e)) (he:P.underlying e=some (.int .u8)) (hd:P.underlying A=some .string)
 (I:∀j (hj:j<l.length),w.cell? (C.add j)=some (.int .u8 (l[j].toNat:Int)))
 (h:wpList P ops Q rest (a.put o.dst (.string ⟨l.toArray⟩)) w):wpList P ops Q (o ::rest) a w:=by
 refine wpList_plain E fun K hK=>?_;subst O;have R:=run_convert_bytes_back (P:=P) w src A e C cap l hs he hd I;unfold Oper.wp execOp;simp only[F,H,R,Sem.run_bind,Sem.run_pure,Result.andThen_ok];exact hK _ _ h
end
section
variable {P:Program}(w:World)
theorem jgO (base:Nat) (t O e:TypeId) (i:TypeInfo) (z:Value) (size H:Nat) (ht:P.underlying t=some (.slice e)) (hi:P.info? e=some i) (hz:i.zero=some z)
 (K:i.size=size) (W:i.bytes=H) (h4:z.cells.size=size) (h5:0<size)
 (v:Value) (n:Nat) (xs:List Value) (I:w.ownsRow base e size v n xs)
 (a:Addr) (m c:Nat) (A:List Value) (R:A.length=m*size) (E:∀j u,A[j]? =some u->w.cell? (a.add j)=some u) (h1:∀u ∈ A,u.oneCell'=true)
 (h0:n+m<=maxLen) (F:(n+m)*H<=140737488355328) (U:base<=w.heap.size) :
 ∃v' w',(Builtin.append_ #[t,t] O #[v,.slice (some a) m c]).run P w= .ok v' w'/\w'.ownsRow base e size v' (n+m) (xs ++A)/\w.grownBy w' v.ownBlock/\
  (v'.ownBlock=v.ownBlock\/v'.ownBlock=some w.heap.size):=by
 obtain⟨v',w',Z,h2,h3,_⟩:=run_append_own (P:=P) w base t O e i z size H ht hi hz K W h4 h5 v n xs I a m c A R E h1 h0 F U;refine⟨v',w',Z,h2,h3,?_⟩;subst K;subst W;have h7:n+m<=9223372036854775807:=by simp only[maxLen]at h0;omega
 rcases I.2 with⟨rfl,rfl⟩|⟨g,cap,Y,rfl,h9,hg,k2,k1,h6,h8⟩
 .by_cases hm:m=0
  .subst hm
   rcases h2.2 with⟨rfl,_⟩|⟨g,cap,Y,rfl,_⟩
   .left;rfl
   .have hn:A=[]:=Yh (by simpa using R)
    subst hn
    have C:(Builtin.append_ #[t,t] O #[.slice none 0 0,.slice (some a) 0 c]).run P w= .ok (.slice none 0 0) w:=by
     simp[Builtin.append_,run_underlying ht,sizeOf,typeInfo,hi,Builtin.lenOf,Builtin.firstCells,loadCells,loadCellsFrom]
    rw[Z]at C;injection C with e1 _
    cases e1
  .have C:=run_append_nil (P:=P) w t O e i z ht hi hz a m c A R E (by omega) (by omega) (by have hb:=F;simp only[Kc]at hb;omega)
   rw[Z]at C;injection C with e1 _
   right;rw[e1];rfl
 .by_cases hroom:n+m<=cap
  .have hfit:n*i.size+A.length<=Y.size:=by rw[R,h6,<-Nat.add_mul];exact Nat.mul_le_mul_right _ hroom
   have C:=run_append_room (P:=P) w t O e i ht hi g n cap Y hg a m c A R E h1 hroom hfit;rw[Z]at C;injection C with e1 _
   left;rw[e1];rfl
  .have holds:∀j u,xs[j]? =some u->w.cell? ((⟨g,0,none⟩:Addr).add j)=some u:=I.cells (g:=g) rfl
   have C:=run_append_grow (P:=P) w t O e i z ht hi hz ⟨g,0,none⟩ n cap xs I.1 holds a m c A R E (by omega) (by omega) (growslice_fits (by omega) F);rw[Z]at C;injection C with e1 _
   right;rw[e1];rfl
theorem JO {ops:Array Oper}{rest:List Oper}{o:Oper}{a:Act}{Q:Exit->Act->World->Prop}(Z:o.guard=none) (s x:Operand) (t:TypeId)
 (ho:o.op= .call {callee:=.builtin .append,args:=#[s,x],argTypes:=#[t,t]})
 (base:Nat) (e:TypeId) (i:TypeInfo) (z:Value) (size C:Nat) (ht:P.underlying t=some (.slice e)) (hi:P.info? e=some i) (hz:i.zero=some z)
 (I:i.size=size) (W:i.bytes=C) (U:z.cells.size=size) (Y:0<size)
 (v:Value) (n:Nat) (xs:List Value) (hs:a.eval s=v) (O:w.ownsRow base e size v n xs)
 (R:Addr) (m c:Nat) (A:List Value) (hx:a.eval x= .slice (some R) m c) (hl:A.length=m*size) (F:∀j u,A[j]? =some u->w.cell? (R.add j)=some u) (h1:∀u ∈ A,u.oneCell'=true)
 (h0:n+m<=maxLen) (E:(n+m)*C<=140737488355328) (H:base<=w.heap.size)
 (h:∀v' w',w'.ownsRow base e size v' (n+m) (xs ++A)->w.grownBy w' v.ownBlock->(v'.ownBlock=v.ownBlock\/v'.ownBlock=some w.heap.size)->wpList P ops Q rest (a.put o.dst v') w'):wpList P ops Q (o ::rest) a w:=by
 refine wpList_plain Z fun K hK=>?_;obtain⟨v',w',hr,h2,h3,h4⟩:=jgO (P:=P) w base t o.type e i z size C ht hi hz I W U Y v n xs O R m c A hl F h1 h0 E H;unfold Oper.wp execOp;simp only[ho,resolve,invoke,builtin,Sem.run_bind,Sem.run_pure,Result.andThen_ok,List.map_toArray,Kt,List.map_nil,hs,hx,hr];exact hK _ _ (h v' w' h2 h3 h4)
end
variable {w:World}{b:Nat}{a:Array Value}{t:TypeId}
theorem JY (h:w.heap[b]? =some (.cells a t (0,0))) (i:Nat):w.cell? ⟨b,i,none⟩=a[i]?/\w.frozen? ⟨b,i,none⟩=false:=by
 constructor <;> simp[World.cell?,World.frozen?,h]
theorem jf (h:w.heap[b]? =some (.cells a t (0,0))) (i:Nat) (u:Value):(w.setCell ⟨b,i,none⟩ u).heap[b]? =some (.cells (a.setIfInBounds i u) t (0,0)):=by
 have A:=lt_of_block h;have C:w.heap[b]= .cells a t (0,0):=by simpa[Array.getElem?_eq_getElem A] using h
 show(w.heap.modify b _)[b]? =_;rw[Array.getElem?_eq_getElem (by simpa using A),Array.getElem_modify_self,C];rfl
theorem jc {w':World}{B:Nat}{o:Obj}(h:w.heap[b]? =some o) (A:Below B w w') (C:b<B):w'.heap[b]? =some o:=(A.block b C).trans h
theorem jg (w:World) (o:Obj):(w.alloc o).heap[w.heap.size]? =some o:=by
 show(w.heap.push o)[w.heap.size]? =_;simp
variable {v:Value}
theorem ja (h:w.heap[b]? =some (.cells a t (0,0))) (i:Nat) (A:a[i]? =some v):w.cell? ⟨b,i,none⟩=some v:=(JY h i).1.trans A
theorem je (h:w.heap[b]? =some (.cells a t (0,0))) (i:Nat):w.frozen? ⟨b,i,none⟩=false:=(JY h i).2
theorem jy (w:World) (a:Addr) (u:Value):(w.setCell a u).heap.size=w.heap.size:=by simp[World.setCell]
variable {base size n:Nat}{e:TypeId}{xs:List Value}
theorem j3 {w1:World}(h:w.ownsRow base e size v n xs) (A:∀b,v.ownBlock=some b->w1.heap[b]? =w.heap[b]?):w1.ownsRow base e size v n xs:=by
 refine⟨h.1,?_⟩
 rcases h.2 with I|⟨g,cap,C,E,K,H,F⟩
 .exact .inl I
 .exact .inr ⟨g,cap,C,E,K,(A g (by rw[E];rfl)).trans H,F⟩
theorem j5 (h:w.ownsRow base e size v n xs):∃a c,v= .slice a n c:=by
 rcases h.2 with⟨A,C⟩|⟨g,cap,E,A,C,H,F⟩
 .exact⟨none,0,by rw[A,C]⟩
 .exact⟨_,cap,A⟩
theorem jaf (h:w.ownsRow base e size v n xs) (I:1<=n):∃g cap,v= .slice (some ⟨g,0,none⟩) n cap/\base<=g/\g<w.heap.size/\n<=cap/\cap<=maxLen:=by
 rcases h.2 with⟨_,A⟩|⟨g,cap,K,F,A,E,C,H,_⟩
 .omega
 .exact⟨g,cap,F,A,lt_of_block E,C,H⟩
theorem jev {B:Nat}(A:w.heap[B]? =some (.cells xs.toArray e (0,0))) (C:base<=B) (E:xs.length<=maxLen):w.ownsRow base e 1 (.slice (some ⟨B,0,none⟩) xs.length xs.length) xs.length xs:=
 ⟨by omega,.inr ⟨B,xs.length,xs.toArray,rfl,C,A,jN,E,by simp,by simp⟩⟩
end
namespace Tg
open Go.RowKit
structure jn4 (r:Nat) (w w':World):Prop where
 below:Below r w w'
 size:w.heap.size<=w'.heap.size
 rest:∀b,b<w.heap.size->b≠r->w'.heap[b]? =w.heap[b]?
theorem jn4.refl (r:Nat) (w:World):jn4 r w w:=⟨jB,jN,fun _ _ _=>rfl⟩
variable {w w1:World}
theorem jn4.set {r:Nat}(h:jn4 r w w1) (i:Nat) (u:Value):jn4 r w (w1.setCell ⟨r,i,none⟩ u):=
 ⟨h.below.setCell (p:=⟨r,i,none⟩) jN _,by rw[jy];exact h.size,fun b hb hr=>by rw[Kh _ _ _ _ hr];exact h.rest b hb hr⟩
variable {b:Nat}{o:Obj}
theorem jb (h:w.heap[b]? =some o):b<w.heap.size:=by
 rcases Kg b w.heap.size with A|A
 .exact A
 .rw[Array.getElem?_eq_none A]at h;cases h
abbrev Tag:=Nat × Nat
abbrev Kp:=Nat->Option Tag
structure Fr (S:Tag->Prop) (κ κ':Kp) (w w':World):Prop where
 low:Below 0 w w'
 old:∀b,b<w.heap.size->κ' b=κ b
 rest:∀b,b<w.heap.size->(∀t,κ b=some t->¬S t)->w'.heap[b]? =w.heap[b]?
theorem Fr.refl (S:Tag->Prop) (κ:Kp) (w:World):Fr S κ κ w w:=⟨jB,fun _ _=>rfl,fun _ _ _=>rfl⟩
theorem Fr.trans {S:Tag->Prop}{κ C B:Kp}{w w1 w2:World}(h:Fr S κ C w w1) (A:Fr S C B w1 w2):Fr S κ B w w2:=
 ⟨h.low.trans A.low,fun b hb=>(A.old b (Yj hb h.low.size)).trans (h.old b hb),fun b hb hs=>(A.rest b (Yj hb h.low.size) (fun t ht=>hs t (by rw[<-h.old b hb];exact ht))).trans (h.rest b hb hs)⟩
variable {S:Tag->Prop}{κ:Kp}
theorem Fr.mono {S':Tag->Prop}{A:Kp}(h:Fr S κ A w w1) (hs:∀t,S t->S' t):Fr S' κ A w w1:=
 ⟨h.low,h.old,fun b hb hn=>h.rest b hb (fun t ht hS=>hn t ht (hs t hS))⟩
theorem Fr.of (h:Below w.heap.size w w1):Fr S κ κ w w1:=⟨h.mono (Yi _),fun _ _=>rfl,fun b hb _=>h.block b hb⟩
variable {t:Tag}
theorem Fr.lone {r:Nat}(h:jn4 r w w1) (ht:κ r=some t) (hs:S t):Fr S κ κ w w1:=
 ⟨h.below.mono (Yi _),fun _ _=>rfl,fun b hb hn=>h.rest b hb (fun e=>hn t (by rw[e];exact ht) hs)⟩
theorem Fr.grown {row:Option Nat}(h:w.grownBy w1 row) (A:∀k,row=some k->∃t,κ k=some t/\S t):Fr S κ κ w w1:=
 ⟨⟨h.os,h.tape,h.output,h.size,fun b hb=>absurd hb (Nat.not_lt_zero _)⟩,fun _ _=>rfl,fun b hb hn=>h.block b hb (fun e=>by obtain⟨t,B,C⟩:=A b e.symm;exact hn t B C)⟩
theorem Fr.tags {B A:Kp}(h:Fr S κ B w w1) (hk:∀b,b<w.heap.size->A b=κ b):Fr S κ A w w1:=⟨h.low,hk,h.rest⟩
def jq (κ:Kp) (b:Nat) (t:Tag):Kp:=fun k=>if k=b then some t else κ k
structure TR (w:World) (κ:Kp) (t:Tag) (e:TypeId) (sz:Nat) (v:Value) (n:Nat) (xs:List Value):Prop where
 own:w.ownsRow 0 e sz v n xs
 tag:∀b,v.ownBlock=some b->κ b=some t
variable {w':World}{κ':Kp}{e:TypeId}{sz n:Nat}{v:Value}{xs:List Value}
theorem TR.keep (h:TR w κ t e sz v n xs) (A:Fr S κ κ' w w') (B:¬S t):TR w' κ' t e sz v n xs:=
 ⟨j3 h.own (fun b hb=>A.rest b (h.own.lt b hb).2 (fun t' ht=>by rw[h.tag b hb]at ht;cases ht;exact B)),fun b hb=>by rw[A.old b (h.own.lt b hb).2];exact h.tag b hb⟩
theorem TR.form (h:TR w κ t e sz v n xs):(v= .slice none 0 0/\n=0)\/∃g cap,v= .slice (some ⟨g,0,none⟩) n cap/\n<=cap/\κ g=some t/\g<w.heap.size:=by
 rcases h.own.2 with C|⟨g,cap,E,rfl,F,B,A,_⟩
 .exact .inl C
 .exact .inr ⟨g,cap,rfl,A,h.tag g rfl,jb B⟩
theorem TR.at (h:TR w κ t e sz v n xs) (B:0<n):∃g cap,v= .slice (some ⟨g,0,none⟩) n cap/\n<=cap/\κ g=some t/\g<w.heap.size:=by
 rcases h.form with⟨_,A⟩|A
 .omega
 .exact A
theorem TR.any (h:TR w κ t e sz v n xs):∃a cap,v= .slice a n cap/\n<=cap:=by
 rcases h.form with⟨A,B⟩|⟨g,cap,A,B,_⟩
 .exact⟨none,0,by rw[A,B],by omega⟩
 .exact⟨_,cap,A,B⟩
variable {g cap:Nat}
theorem TR.cell (h:TR w κ t e sz (.slice (some ⟨g,0,none⟩) n cap) n xs) {j:Nat}{u:Value}(A:xs[j]? =some u):w.cell? ⟨g,j,none⟩=some u:=by
 have B:j<xs.length:=(jG A).1;rw[h.own.cellAt j (by rw[<-h.own.1];exact B)];exact A
theorem TR.frz (h:TR w κ t e sz (.slice (some ⟨g,0,none⟩) n cap) n xs) (j:Nat):w.frozen? ⟨g,j,none⟩=false:=h.own.frozenAt j
theorem TR.set (h:TR w κ t e sz (.slice (some ⟨g,0,none⟩) n cap) n xs) (j:Nat) (u:Value) :
 TR (w.setCell ⟨g,j,none⟩ u) κ t e sz (.slice (some ⟨g,0,none⟩) n cap) n (xs.set j u)/\Fr (· =t) κ κ w (w.setCell ⟨g,j,none⟩ u):=by
 obtain⟨A,B⟩:=h.own.stored j u;exact⟨⟨A,h.tag⟩,.grown B (fun k hk=>by cases hk;exact⟨t,h.tag g rfl,rfl⟩)⟩
theorem TR.app {E:Nat}{A:Value}{xs':List Value}(h:TR w κ t e sz v n xs) (B:w'.ownsRow 0 e sz A E xs') (H:w.grownBy w' v.ownBlock) (F:A.ownBlock=v.ownBlock\/A.ownBlock=some w.heap.size) :
 ∃κ',TR w' κ' t e sz A E xs'/\Fr (· =t) κ κ' w w'/\∀b,w'.heap.size<=b->κ' b=κ b:=by
 have I:=Fr.grown (S:=(· =t)) (κ:=κ) H (fun k hk=>⟨t,h.tag k hk,rfl⟩);rcases F with C|C
 .exact⟨κ,⟨B,fun b hb'=>h.tag b (by rw[<-C];exact hb')⟩,I,fun _ _=>rfl⟩
 .have hs:=(B.lt _ C).2
  refine⟨jq κ w.heap.size t,⟨B,fun b hb'=>?_⟩,I.tags (fun b hb'=>by unfold jq;rw[if_neg (by omega)]),fun b hb'=>by unfold jq;rw[if_neg (by omega)]⟩;rw[C]at hb';cases hb';unfold jq;rw[if_pos rfl]
theorem JG (h:b<n):jq κ n t b=κ b:=by unfold jq;rw[if_neg (by omega)]
theorem jmx {m:Nat}(h:∀b,n<=b->κ b=none) (B:n<m) (A:m<=b):jq κ n t b=none:=by unfold jq;rw[if_neg (by omega)];exact h b (by omega)
theorem Fr.blk (A:Fr S κ κ' w w') (h:w.heap[b]? =some o) (hk:κ b=none):w'.heap[b]? =some o:=
 (A.rest b (jb h) (fun t ht=>by rw[hk]at ht;cases ht)).trans h
theorem Fr.none (A:Fr S κ κ' w w') (h:w.heap[b]? =some o) (hk:κ b=none):κ' b=none:=(A.old b (jb h)).trans hk
theorem TR.new (B:w.ownsRow 0 e sz v n xs) (A:v.ownBlock=some b):TR w (jq κ b t) t e sz v n xs:=
 ⟨B,fun k hk=>by rw[A]at hk;cases hk;unfold jq;rw[if_pos rfl]⟩
theorem TR.nil (w:World) (κ:Kp) (t:Tag) (e:TypeId) (sz:Nat):TR w κ t e sz (.slice none 0 0) 0 []:=⟨Uk _ _ _ _,fun b hb=>by cases hb⟩
theorem jbP {α:Type}{f:α->List Value}{c:Nat}(A:∀a,(f a).length=c):∀l:List α,(l.flatMap f).length=l.length*c
 |[]=>by simp
 |a ::l=>by rw[List.flatMap_cons,Yg,A,jbP A l,Yk,Nat.add_mul];omega
theorem JR {α:Type}{f:α->List Value}{c:Nat}(A:∀a,(f a).length=c):∀{l:List α}{i k:Nat}{a:α},l[i]? =some a->k<c->(l.flatMap f)[i*c+k]? =(f a)[k]?
 |[],i,k,a,h,_=>by simp at h
 |b ::l,0,k,a,h,hk=>by
  simp at h;subst h;rw[List.flatMap_cons,Kb (by rw[A];omega),Kv,Kc]
 |b ::l,i+1,k,a,h,hk=>by
  simp only[List.getElem?_cons_succ]at h;rw[List.flatMap_cons,Ud (by rw[A,Nat.add_mul];omega),A,show(i+1)*c+k-c=i*c+k by rw[Nat.add_mul];omega];exact JR A h hk
theorem jaw {α:Type}{f:α->List Value}{c:Nat}(A:∀a,(f a).length=c):∀{l:List α}{i k:Nat}{a a':α}{u:Value},l[i]? =some a->k<c->(f a).set k u=f a'->(l.flatMap f).set (i*c+k) u=(l.set i a').flatMap f
 |[],i,k,a,a',u,h,_,_=>by simp at h
 |b ::l,0,k,a,a',u,h,hk,he=>by
  simp at h;subst h;rw[List.set_cons_zero,List.flatMap_cons,List.flatMap_cons,List.set_append_left _ _ (by rw[A];omega),Kv,Kc,he]
 |b ::l,i+1,k,a,a',u,h,hk,he=>by
  simp only[List.getElem?_cons_succ]at h;rw[List.set_cons_succ,List.flatMap_cons,List.flatMap_cons,List.set_append_right _ _ (by rw[A,Nat.add_mul];omega),A,show(i+1)*c+k-c=i*c+k by rw[Nat.add_mul];omega,jaw A h hk he]
theorem JJ {α:Type}{l:List α}{i j:Nat}{a c:α}(h:(l.set i a)[j]? =some c) (hi:i<l.length):(i=j/\c=a)\/(i≠j/\l[j]? =some c):=by
 by_cases e:i=j
 .subst e
  rw[List.getElem?_set_self hi]at h;cases h;exact .inl ⟨rfl,rfl⟩
 .rw[List.getElem?_set_ne e]at h
  exact .inr ⟨e,h⟩
end Tg
section
open Go Go.RowKit
structure Wd (B:Nat) (w:World) where
 v:World
 h:Below B w v
theorem Wd.ne (B:Nat) (w:World):Nonempty (Wd B w):=⟨⟨w,jB⟩⟩
section
variable {P:Program}{ops:Array Oper}{md:Region.Mode}{w0:World}{ia:Nat}{oa:Oper}{obj:Obj}{mk:Nat->Value}
def qAt (P:Program) (o:Oper) (a:Act) (w0:World) (v:Value):Prop:=∀x:Wd w0.heap.size w0,o.quietAt P a (fun w''=>Below x.v.heap.size x.v w'') x.v v
def qB (P:Program) (o:Oper) (a:Act) (w0:World) (next :Act->Prop):Prop:=∃v,qAt P o a w0 v/\next (a.put o.dst v)
def ya (mk:Nat->Value) (P:Program) (oa:Oper) (obj:Obj) (a:Act):Prop:=∀w,(execOp a.eval oa).run P w= .ok (.value (mk w.heap.size)) (w.alloc obj)
def opB (mk:Nat->Value) (P:Program) (ops:Array Oper) (w0:World) (oa:Oper) (obj:Obj) (ia i:Nat) (K:Act->Prop) (a:Act):Prop:=
 if i=ia then ya mk P oa obj a/\K a else
 match ops[i]? with
 |none=>K a
 |some o=>if Region.wanted o (yielded ops a.tmps) then qB P o a w0 K else K (a.put o.dst undef)
theorem jew {i:Nat}{a:Act}{K B:Act->Prop}(h:∀a,K a->B a) (A:opB mk P ops w0 oa obj ia i K a):opB mk P ops w0 oa obj ia i B a:=by
 unfold opB at *
 by_cases e:i=ia
 .rw[if_pos e]at A ⊢;exact⟨A.1,h _ A.2⟩
 .rw[if_neg e]at A ⊢
  split
  .exact h _ (by simpa[*] using A)
  .rename_i o ho
   simp only[ho]at A
   split
   .rename_i hw;simp only[hw,if_true]at A
    obtain⟨v,C,E⟩:=A;exact⟨v,C,h _ E⟩
   .rename_i hw;simp only[hw]at A;exact h _ A
def YB (P:Program) (ops:Array Oper) (w0:World) (o:Oper) (v:Value) (a:Act):Prop:=
 (Region.wanted o (yielded ops a.tmps)=true/\qAt P o a w0 v)\/(Region.wanted o (yielded ops a.tmps)=false/\v=undef)
theorem YB.op {i:Nat}{o:Oper}{v:Value}{a:Act}(A:i≠ia) (hi:ops[i]? =some o) (C:YB P ops w0 o v a) {K:Act->Prop}(h:K (a.put o.dst v)):opB mk P ops w0 oa obj ia i K a:=by
 unfold opB;rw[if_neg A];simp only[hi]
 rcases C with⟨B,E⟩|⟨B,rfl⟩
 .simp only[B,if_true];exact⟨v,E,h⟩
 .simp only[B,Kr,if_false];exact h
theorem YB.of_same {o:Oper}{v:Value}{a a':Act}(B:YB P ops w0 o v a) (he:execOp a'.eval o=execOp a.eval o)
 (A:Region.wanted o (yielded ops a'.tmps)=Region.wanted o (yielded ops a.tmps)):YB P ops w0 o v a':=by
 unfold YB qAt Oper.quietAt at *;rw[he,A];exact B
theorem jcM {i:Nat}{o:Oper}{a:Act}{K:Act->Prop}(B:i≠ia) (hi:ops[i]? =some o) (h:opB mk P ops w0 oa obj ia i K a):∃v,YB P ops w0 o v a/\K (a.put o.dst v):=by
 unfold opB at h;rw[if_neg B]at h;simp only[hi]at h
 by_cases A:Region.wanted o (yielded ops a.tmps)=true
 .simp only[A,if_true]at h
  obtain⟨v,C,E⟩:=h;exact⟨v,.inl ⟨A,C⟩,E⟩
 .simp only[A]at h
  exact⟨undef,.inr ⟨by simpa using A,rfl⟩,h⟩
theorem jib {j:Nat}{oi A:Oper}{v:Value}(I:∀o',ops[ia]? =some o'->o'=oa) (O:ops[j]? =some A) (F:oi.apart ops A=true)
 (H:∀cs b,oi.op≠.select cs b) (C:∀cs b,A.op≠.select cs b) {K:Act->Prop}{a:Act}
 (B:YB P ops w0 oi v a) (h:opB mk P ops w0 oa obj ia j K (a.put oi.dst v)) :
 opB mk P ops w0 oa obj ia j (fun a'=>YB P ops w0 oi v a'/\K (a'.put oi.dst v)) a:=by
 obtain⟨R,Y,U⟩:=Oper.apart_spec F
 have keep:∀(a:Act),YB P ops w0 oi v a->∀u,YB P ops w0 oi v (a.put A.dst u):=fun a B u=>
  B.of_same (execOp_put oi H a A.dst u U) (wanted_put oi a A.dst u U)
 unfold opB at *
 by_cases e:j=ia
 .rw[if_pos e]at h ⊢
  have W:A=oa:=I A (by rw[<-e];exact O);refine⟨?_,B,h.2⟩;have E:=h.1;unfold ya at E ⊢;rw[<-W]at E ⊢;rw[execOp_put A C a oi.dst v R]at E;exact E
 .rw[if_neg e]at h ⊢
  simp only[O]at *;rw[wanted_put A a oi.dst v R]at h
  split
  .rename_i hw
   simp only[hw,if_true]at h;obtain⟨u,Z,hn⟩:=h;refine⟨u,fun x=>?_,keep a B u,by rw[<-Act.put_comm a v u Y];exact hn⟩;have:=Z x;unfold Oper.quietAt at *
   rwa [execOp_put A C a oi.dst v R]at this
  .rename_i hw
   simp only[hw]at h;exact⟨keep a B _,by rw[<-Act.put_comm a v undef Y];exact h⟩
def jaN (mk:Nat->Value) (P:Program) (md:Region.Mode) (ops:Array Oper) (w0:World) (oa:Oper) (obj:Obj) (ia n:Nat) (L:Array Bool->Act->Prop):Nat->Array Bool->Act->Prop
 |0,listed,a=>L listed a
 |f+1,listed,a=>
  Region.ready md ops listed≠[]/\∀i ∈ Region.ready md ops listed,i<n/\opB mk P ops w0 oa obj ia i (jaN mk P md ops w0 oa obj ia n L f (listed.setIfInBounds i true)) a
structure Iv (md:Region.Mode) (ops:Array Oper) (n:Nat) (I:Array Bool->Prop):Prop where
 size:∀l,I l->l.size=ops.size
 set:∀l i,I l->i ∈ Region.ready md ops l->i<n->I (l.setIfInBounds i true)
 wait:∀l,I l->∀i,i<n->l.getD i true=false->∀t,n<=t->t ∉ Region.ready md ops l
theorem jJC {n:Nat}(hs:Region.sinkB md ops n=true) (A:Region.chainB md ops n=true) (B:n<ops.size):Iv md ops n (HeadInv md ops n):=⟨fun l h=>h.size,fun l i h hr hi=>h.set hr hi,fun l h i hi hu t ht=>tail_waits hs A B h _ i rfl hi hu t ht⟩
theorem jml {n i:Nat}{oi:Oper}{v:Value}{L:Array Bool->Act->Prop}(h4:∀o',ops[ia]? =some o'->o'=oa) (Y:i≠ia) (hi:ops[i]? =some oi) (E:∀(j:Nat) (o:Oper) cs b,ops[j]? =some o->o.op≠.select cs b)
 {I:Array Bool->Prop}(hT:Iv md ops n I) (hn:n<ops.size) (U:i<n)
 (K:∀listed a,L listed a->∀j ∈ Region.ready md ops listed,n<=j) :
 ∀(f:Nat) (listed:Array Bool) (a:Act),I listed->
  (∀j oj,ops[j]? =some oj->j≠i->listed.getD j true=false->(∀e ∈ oj.after,Region.binds md e=true->e.on≠i)->oi.apart ops oj=true)->
  i ∈ Region.ready md ops listed->YB P ops w0 oi v a->
  jaN mk P md ops w0 oa obj ia n L f (listed.setIfInBounds i true) (a.put oi.dst v)->jaN mk P md ops w0 oa obj ia n L (f+1) listed a:=by
 intro f
 induction f with
 |zero=>
  intro listed a O _ C hy H;have B:=(mem_ready.1 C).1;refine⟨fun h=>(by rw[h]at C;cases C),fun j hj=>?_⟩
  have R:j<n:=by
   rcases Kg j n with h|h
   .exact h
   .exact absurd hj (hT.wait _ O i U B j h)
  refine⟨R,?_⟩
  by_cases A:j=i
  .subst A;exact hy.op Y hi H
  .have:=K _ _ H j (ready_mono hj A)
   omega
 |succ f ih=>
  intro listed a O F C hy H;have B:=(mem_ready.1 C).1;refine⟨fun h=>(by rw[h]at C;cases C),fun j hj=>?_⟩
  have R:j<n:=by
   rcases Kg j n with h|h
   .exact h
   .exact absurd hj (hT.wait _ O i U B j h)
  refine⟨R,?_⟩
  by_cases A:j=i
  .subst A;exact hy.op Y hi H
  .have h1:=(H.2 j (ready_mono hj A)).2
   obtain⟨h0,oj,W,h6⟩:=mem_ready.1 hj
   have h7:∀e ∈ oj.after,Region.binds md e=true->e.on≠i:=fun e he hb heq=>by
    have h1:=h6 e he hb;rw[heq,getD_both B]at h1;cases h1
   have h2:=jib h4 W (F j oj W A h0 h7) (fun cs b=>E i oi cs b hi) (fun cs b=>E j oj cs b W) hy h1
   have Z:∀k ok,ops[k]? =some ok->k≠i->(listed.setIfInBounds j true).getD k true=false->
    (∀e ∈ ok.after,Region.binds md e=true->e.on≠i)->oi.apart ops ok=true:=fun k ok hk hki B hno=>by
    refine F k ok hk hki ?_ hno
    by_cases h5:j=k
    .subst h5;exact h0
    .rw[getD_set_ne true h5]at B;exact B
   refine jew (fun a' h3=>ih (listed.setIfInBounds j true) a' (hT.set _ _ O hj R) Z (ready_mono C (Ne.symm A)) h3.1 ?_) h2;rw[Array.setIfInBounds_comm _ _ A];exact h3.2
theorem jia {j:Nat}{A:Oper}(E:j≠ia) (F:ops[j]? =some A) (C:oa.apart ops A=true) (B:∀cs b,oa.op≠.select cs b) {K:Act->Prop}{a:Act}
 (H:ya mk P oa obj a) (h:opB mk P ops w0 oa obj ia j K a):opB mk P ops w0 oa obj ia j (fun a'=>ya mk P oa obj a'/\K a') a:=by
 obtain⟨U,W,I⟩:=Oper.apart_spec C;have keep:∀u,ya mk P oa obj (a.put A.dst u):=fun u w=>by rw[execOp_put oa B a A.dst u I];exact H w
 unfold opB at *;rw[if_neg E]at h ⊢;simp only[F]at *
 split
 .rename_i hw
  simp only[hw,if_true]at h;obtain⟨u,O,R⟩:=h;exact⟨u,O,keep u,R⟩
 .rename_i hw
  simp only[hw]at h;exact⟨keep _,h⟩
theorem jmk {n:Nat}{L:Array Bool->Act->Prop}(h4:ops[ia]? =some oa) (Y:∀(j:Nat) (o:Oper) cs b,ops[j]? =some o->o.op≠.select cs b)
 {I:Array Bool->Prop}(Z:Iv md ops n I) (hn:n<ops.size) (R:ia<n)
 (F:∀listed a,L listed a->∀j ∈ Region.ready md ops listed,n<=j) :
 ∀(f:Nat) (listed:Array Bool) (a:Act),I listed->
  (∀j oj,ops[j]? =some oj->j≠ia->listed.getD j true=false->(∀e ∈ oj.after,Region.binds md e=true->e.on≠ia)->oa.apart ops oj=true)->
  ia ∈ Region.ready md ops listed->ya mk P oa obj a->
  jaN mk P md ops w0 oa obj ia n L f (listed.setIfInBounds ia true) a->jaN mk P md ops w0 oa obj ia n L (f+1) listed a:=by
 intro f
 induction f with
 |zero=>
  intro listed a K _ C hy H;have B:=(mem_ready.1 C).1;refine⟨fun h=>(by rw[h]at C;cases C),fun j hj=>?_⟩
  have O:j<n:=by
   rcases Kg j n with h|h
   .exact h
   .exact absurd hj (Z.wait _ K ia R B j h)
  refine⟨O,?_⟩
  by_cases A:j=ia
  .subst A;unfold opB;rw[if_pos rfl];exact⟨hy,H⟩
  .have:=F _ _ H j (ready_mono hj A)
   omega
 |succ f ih=>
  intro listed a K E C hy H;have B:=(mem_ready.1 C).1;refine⟨fun h=>(by rw[h]at C;cases C),fun j hj=>?_⟩
  have O:j<n:=by
   rcases Kg j n with h|h
   .exact h
   .exact absurd hj (Z.wait _ K ia R B j h)
  refine⟨O,?_⟩
  by_cases A:j=ia
  .subst A;unfold opB;rw[if_pos rfl];exact⟨hy,H⟩
  .have h1:=(H.2 j (ready_mono hj A)).2
   obtain⟨W,oj,h0,h6⟩:=mem_ready.1 hj
   have h7:∀e ∈ oj.after,Region.binds md e=true->e.on≠ia:=fun e he hb heq=>by
    have h1:=h6 e he hb;rw[heq,getD_both B]at h1;cases h1
   have U:∀k ok,ops[k]? =some ok->k≠ia->(listed.setIfInBounds j true).getD k true=false->
    (∀e ∈ ok.after,Region.binds md e=true->e.on≠ia)->oa.apart ops ok=true:=fun k ok hk hki B hno=>by
    refine E k ok hk hki ?_ hno
    by_cases h5:j=k
    .subst h5;exact W
    .rw[getD_set_ne true h5]at B;exact B
   have h2:=jia A h0 (E j oj h0 A W h7) (fun cs b=>Y ia oa cs b h4) hy h1;refine jew (fun a' h3=>ih (listed.setIfInBounds j true) a' (Z.set _ _ K hj O) U (ready_mono C (Ne.symm A)) h3.1 ?_) h2;rw[Array.setIfInBounds_comm _ _ A];exact h3.2
def wpB (mk:Nat->Value) (P:Program) (ops:Array Oper) (w0:World) (oa:Oper) (obj:Obj) (ia:Nat) (Q:Act->Prop):Nat->List Oper->Act->Prop
 |_,[],a=>Q a
 |k,o ::rest,a=>if k=ia then ya mk P oa obj a/\wpB mk P ops w0 oa obj ia Q (k+1) rest a else
  if Region.wanted o (yielded ops a.tmps) then qB P o a w0 (wpB mk P ops w0 oa obj ia Q (k+1) rest) else wpB mk P ops w0 oa obj ia Q (k+1) rest (a.put o.dst undef)
theorem jcH {n g:Nat}{R:Act->Prop}(B:∀o',ops[ia]? =some o'->o'=oa) (A:Region.noSelect ops=true) {I:Array Bool->Prop}(E:Iv md ops n I) (O:n<ops.size) :
 ∀(l:List Oper) (k:Nat) (listed:Array Bool) (a:Act),(∀j,j<l.length->l[j]? =ops[k+j]?)->k+l.length=n->I listed->
 Region.lexHead md ops g l.length k listed=true->wpB mk P ops w0 oa obj ia R k l a->
 jaN mk P md ops w0 oa obj ia n (fun listed' a'=>Region.seqB md ops g n listed'=true/\R a') l.length listed a
 |[],k,listed,a,_,hk,_,hB,h=>by
  have:k=n:=by simpa using hk
  subst this;exact⟨by simpa[Region.lexHead] using hB,h⟩
 |o ::l,k,listed,a,hl,hk,inv,hB,h=>by
  have C:ops[k]? =some o:=by simpa using(hl 0 (by simp)).symm
  simp only[Yk,Region.lexHead,Yc]at hB;obtain⟨⟨hr,Z⟩,Y⟩:=hB;have F:k<n:=by simp only[Yk]at hk;omega
  have K:k ∈ Region.ready md ops listed:=by simpa using hr
  have W:∀j,j<l.length->l[j]? =ops[k+1+j]?:=fun j hj=>by have:=hl (j+1) (by simp;omega);simpa[Ku,Ks 1 j] using this
  have U:k+1+l.length=n:=by simp only[Yk]at hk;omega
  unfold wpB at h
  by_cases e:k=ia
  .rw[if_pos e]at h
   have H:=jcH B A E O l (k+1) _ _ W U (E.set _ _ inv K F) Y h.2;have h1:o=oa:=B o (by rw[<-e];exact C);rw[h1,e]at C;rw[e]at Z;exact jmk C (Region.noSelect_spec A) E O (e ▸ F) (fun listed' a' hL=>seqB_ready hL.1) l.length listed a inv (Region.free_spec C Z) (e ▸ K) h.1 (by rw[e]at H;exact H)
  .rw[if_neg e]at h
   have h2:opB mk P ops w0 oa obj ia k (wpB mk P ops w0 oa obj ia R (k+1) l) a:=by unfold opB;rw[if_neg e];simp only[C];exact h
   obtain⟨v,hy,hK⟩:=jcM e C h2
   exact jml B e C (Region.noSelect_spec A) E O F (fun listed' a' hL=>seqB_ready hL.1) l.length listed a inv (Region.free_spec C Z) K hy
    (jcH B A E O l (k+1) _ _ W U (E.set _ _ inv K F) Y hK)
def ap1 (ops:Array Oper) (x y:Oper):Bool:=
 match x.dst with
 |some d=>!(y.looksAt ops).contains d && y.dst != some d
 |none=>true
theorem jmj {x y:Oper}(h:ap1 ops x y=true):(∀d,x.dst=some d->d ∉ y.looksAt ops)/\(∀d,x.dst=some d->y.dst≠some d):=by
 refine⟨fun d hd=>?_,fun d hd=>?_⟩ <;> simp[ap1,hd]at h
 .exact h.1
 .exact h.2
inductive At (mk:Nat->Value) (w0:World) (d:Tmp) (obj:Obj) (ml:Bool) (a:Act) (ar:Act) (wr:World):Prop where
 |ahead (h:ml=false) (e:ar=a) (b:Below w0.heap.size w0 wr):At mk w0 d obj ml a ar wr
 |made (b:Nat) (h:ml=true) (e:ar=a.put (some d) (mk b)) (b0:w0.heap.size<=b) (hb:wr.heap[b]? =some obj) (bl:Below w0.heap.size w0 wr):At mk w0 d obj ml a ar wr
theorem jcO {n g:Nat}{d:Tmp}{L:Array Bool->Act->Prop}{Q':Exit->Act->World->Prop}(B:∀(j:Nat) (o:Oper) cs b,ops[j]? =some o->o.op≠.select cs b)
 (ha:ops[ia]? =some oa) (hd:oa.dst=some d) (hg:oa.guard=none)
 (O:∀j oj,j<n->j≠ia->ops[j]? =some oj->ap1 ops oa oj=true)
 (hL:∀listed a b w,L listed a->w0.heap.size<=b->w.heap[b]? =some obj->Below w0.heap.size w0 w->wpAny P md ops Q' g listed (a.put (some d) (mk b)) w)
 {I:Array Bool->Prop}(E:Iv md ops n I) (hn:n<ops.size) (F:ia<n)
 (K:∀listed a,L listed a->n ∈ Region.ready md ops listed) :
 ∀(f:Nat) (listed:Array Bool) (a ar:Act) (wr:World),I listed->jaN mk P md ops w0 oa obj ia n L f listed a->At mk w0 d obj (listed.getD ia false) a ar wr->wpAny P md ops Q' (f+g) listed ar wr
 |0,listed,a,ar,wr,inv,h,hat=>by
  rw[Kc]
  have hl:listed.getD ia false=true:=by
   cases hl :listed.getD ia false with
   |true=>rfl
   |false=>exact absurd (K _ _ h) (E.wait _ inv ia F (getD_in (by rw[E.size _ inv];omega) hl) n jN)
  cases hat with
  |ahead h'=>rw[hl]at h';cases h'
  |made b h' e b0 hb bl=>rw[e];exact hL _ _ _ _ h b0 hb bl
 |f+1,listed,a,ar,wr,inv,h,hat=>by
  have h8:=(E.size _ inv)
  rw[show f+1+g=(f+g)+1 by omega];refine⟨fun h0=>absurd h0 h.1,fun i hi=>?_⟩;obtain⟨h5,U⟩:=h.2 i hi;obtain⟨h6,oi,A,_⟩:=mem_ready.1 hi;have h4:i<listed.size:=by rw[h8];exact(Array.getElem?_eq_some_iff.1 A).1
  have C:I (listed.setIfInBounds i true):=E.set _ _ inv hi h5
  by_cases e:i=ia
  .rw[e]at A U h6 h4 C ⊢
   rw[ha]at A;injection A with A
   subst A;unfold opB at U;rw[if_pos rfl]at U;unfold wpOp;simp only[ha];have hw:Region.wanted oa (yielded ops ar.tmps)=true:=by unfold Region.wanted;rw[hg]
   rw[if_pos hw]
   left
   cases hat with
   |made b h'=>rw[getD_both h6]at h';cases h'
   |ahead h' e' bl=>
    unfold Oper.wp;rw[e',U.1];simp only[Oper.upon];rw[hd];refine jcO B ha hd hg O hL E hn F K f _ a _ _ C U.2 (At.made wr.heap.size ?_ rfl bl.size ?_ (bl.alloc bl.size _))
    .simp[h4]
    .show(wr.heap.push obj)[wr.heap.size]? =_
     simp
  .have hapj:=O i oi h5 e A
   obtain⟨h1,h2⟩:=jmj hapj;have h7:(listed.setIfInBounds i true).getD ia false=listed.getD ia false:=getD_set_ne false e;obtain⟨v,hy,hK⟩:=jcM e A U
   have H:execOp ar.eval oi=execOp a.eval oi/\Region.wanted oi (yielded ops ar.tmps)=Region.wanted oi (yielded ops a.tmps):=by
    cases hat with
    |ahead h' e' bl=>rw[e'];exact⟨rfl,rfl⟩
    |made b h' e' b0 hb bl=>
     rw[e',<-hd];exact⟨execOp_put oi (fun cs b=>B i oi cs b A) a oa.dst _ h1,wanted_put oi a oa.dst _ h1⟩
   have Z:Below w0.heap.size w0 wr:=by cases hat <;> assumption
   have next :∀w',Below wr.heap.size wr w'->wpAny P md ops Q' (f+g) (listed.setIfInBounds i true) (ar.put oi.dst v) w':=fun w' hw'=>by
    have Y:Below w0.heap.size w0 w':=Z.trans (hw'.mono Z.size);refine jcO B ha hd hg O hL E hn F K f _ (a.put oi.dst v) _ _ C hK ?_;rw[h7]
    cases hat with
    |ahead h' e' bl=>exact At.ahead h' (by rw[e']) Y
    |made b h' e' b0 hb bl=>
     refine At.made b h' ?_ b0 ?_ Y
     .rw[e',<-hd];exact Act.put_comm a _ v h2
     .have hlt:b<wr.heap.size:=by
       rcases Kg b wr.heap.size with h|h
       .exact h
       .rw[Array.getElem?_eq_none h]at hb;cases hb
      exact(hw'.block b hlt).trans hb
   unfold wpOp;simp only[A];rw[H.2]
   rcases hy with⟨hw,hq⟩|⟨hw,hv⟩
   .rw[if_pos hw]
    left
    have R:=hq ⟨wr,Z⟩;unfold Oper.quietAt at R;unfold Oper.wp;rw[H.1];generalize (execOp a.eval oi).run P wr=r at *
    cases r with
    |ok nx w'=>
     cases nx <;> simp only[Oper.quietUpon]at R <;> simp only[Oper.upon]
     case value u=>
      obtain⟨W,e2⟩:=R;rw[W,e2];exact next _ jB
     case skip=>
      obtain⟨W,e2⟩:=R;rw[W,<-e2];exact next _ jB
     case enter f' args=>
      obtain⟨W,h9⟩:=R;rw[W];exact h9.mono fun e w'' ⟨he,hw''⟩=>by subst he;exact next _ hw''
    |halt x w'=>simp only[Oper.quietUpon]at R
   .rw[if_neg (by rw[hw];exact Bool.false_ne_true),<-hv]
    exact next _ jB
def apB (ops:Array Oper) (ia n:Nat):Bool:=(List.range n).all fun j=>j == ia || (match ops[ia]?,ops[j]? with
 |some x,some y=>ap1 ops x y
 |_,_=>false)
theorem JE {Z:Nat}{Q:Exit->Act->World->Prop}{a:Act}{w:World}{l:List Oper}(n ia:Nat) (d:Tmp) (mk:Nat->Value) (obj:Obj) (oa:Oper) (Y:P.follows .mixedOrders=true) (W:Region.lexTailB .any l.toArray n=true) (K:apB l.toArray ia n=true) (O:ia<n)
 (I:l[ia]? =some oa) (hd:oa.dst=some d) (hg:oa.guard=none)
 (h:wpB mk P l.toArray w oa obj ia (fun a'=>∀(b:Nat) (x:Wd w.heap.size w),w.heap.size<=b->x.v.heap[b]? =some obj->wpList P l.toArray Q (l.drop n) (a'.put (some d) (mk b)) x.v) 0 (l.take n) a):(Code.region Z l.toArray true).wp P Q a w:=by
 simp only[Region.lexTailB,Yc,Yd]at W;obtain⟨⟨⟨⟨C,F⟩,hs⟩,hc⟩,U⟩:=W;have h5:n<l.length:=by simpa using F
 have A:(l.take n).length=n:=by simp;omega
 have R:(l.drop n).length=l.toArray.size-n:=by simp
 have B:HeadInv .any l.toArray n (Array.replicate l.toArray.size false):=
  ⟨by simp,fun j oj _ hl=>(by rw[getD_replicate_false]at hl;cases hl),fun t _ ht=>getD_in (by simpa using ht) (getD_replicate_false _ _)⟩
 have H:=jcH (ia:=ia) (oa:=oa) (obj:=obj) (md:=.any) (g:=l.toArray.size-n) (fun o' ho'=>by rw[show l.toArray[ia]? =some oa by simpa using I]at ho';exact(Uf ho').symm) C (jJC hs hc F) F (l.take n) 0 _ a (fun j hj=>by
  have h4:j<n:=by rw[A]at hj;exact hj
  simp[h4]) (by simpa using A) B (by rw[A];exact U) h
 refine wp_region_any Y ?_
 have:=jcO (Q':=Q) (g:=l.toArray.size-n) (d:=d) (obj:=obj) (oa:=oa) (Region.noSelect_spec C) (by simpa using I) hd hg (fun j oj hj hne hoj=>by
  have:=List.all_eq_true.1 K j (Ub.2 hj);rw[show l.toArray[ia]? =some oa by simpa using I,hoj]at this
  simpa[hne] using this)
  (fun listed a' b w' hL E h2 h3=>by
   have:=wpAny_of_seq (md:=.any) (Q':=Q) (l.drop n) n listed (a'.put (some d) (mk b)) w' (fun j=>by simp[List.getElem?_drop]) (by rw[R];exact hL.1) (hL.2 b ⟨w',h3⟩ E h2)
   rwa [R]at this) (jJC hs hc F) F O
  (fun listed a' hL=>by
   have E:=hL.1
   obtain⟨g,h0⟩:∃g,l.toArray.size-n=g+1:=⟨l.toArray.size-n-1,by omega⟩
   rw[h0]at E;simp only[Region.seqB,Yc,Yd]at E
   rw[E.1];simp)
  _ _ a a {w with drawn:=w.drawn+1} B H (At.ahead (getD_replicate_false _ _) rfl jB.drew)
 rw[A,show n+(l.toArray.size-n)=l.toArray.size by omega]at this;exact this
theorem jbo {H:Nat}{Q:Exit->Act->World->Prop}{a:Act}{w:World}{l:List Oper}(n ia:Nat) (d:Tmp) (obj:Obj) (oa:Oper) (E:P.follows .mixedOrders=true) (I:Region.lexTailB .any l.toArray n=true) (A:apB l.toArray ia n=true) (B:ia<n)
 (F:l[ia]? =some oa) (hd:oa.dst=some d) (C:oa.guard=none)
 (h:wpB (fun b=>.pointer (some ⟨b,0,none⟩)) P l.toArray w oa obj ia (fun a'=>∀(b:Nat) (x:Wd w.heap.size w),w.heap.size<=b->x.v.heap[b]? =some obj->wpList P l.toArray Q (l.drop n) (a'.put (some d) (.pointer (some ⟨b,0,none⟩))) x.v) 0 (l.take n) a):(Code.region H l.toArray true).wp P Q a w:=JE n ia d _ obj oa E I A B F hd C h
theorem jdM {n g:Nat}{L:Array Bool->Act->Prop}{Q':Exit->Act->World->Prop}
 (F:∀listed a w,L listed a->Below w0.heap.size w0 w->wpAny P md ops Q' g listed a w) (E:ops.size<=ia) :
 ∀(f:Nat) (listed:Array Bool) (a:Act) (wr:World),jaN mk P md ops w0 oa obj ia n L f listed a->Below w0.heap.size w0 wr->wpAny P md ops Q' (f+g) listed a wr
 |0,listed,a,wr,h,hb=>by rw[Kc];exact F _ _ _ h hb
 |f+1,listed,a,wr,h,hb=>by
  rw[show f+1+g=(f+g)+1 by omega];refine⟨fun h0=>absurd h0 h.1,fun i hi=>?_⟩;obtain⟨h1,R⟩:=h.2 i hi;obtain⟨h2,oi,C,_⟩:=mem_ready.1 hi;have W:i<ops.size:=(Array.getElem?_eq_some_iff.1 C).1;obtain⟨v,Z,O⟩:=jcM (show i≠ia by omega) C R
  have next :∀w',Below wr.heap.size wr w'->wpAny P md ops Q' (f+g) (listed.setIfInBounds i true) (a.put oi.dst v) w':=fun w' hw'=>
   jdM F E f _ _ _ O (hb.trans (hw'.mono hb.size))
  unfold wpOp;simp only[C]
  rcases Z with⟨H,U⟩|⟨H,Y⟩
  .rw[if_pos H]
   left
   have A:=U ⟨wr,hb⟩;unfold Oper.quietAt at A;unfold Oper.wp;generalize (execOp a.eval oi).run P wr=r at *
   cases r with
   |ok nx w'=>
    cases nx <;> simp only[Oper.quietUpon]at A <;> simp only[Oper.upon]
    case value u=>
     obtain⟨B,I⟩:=A;rw[B,I];exact next _ jB
    case skip=>
     obtain⟨B,I⟩:=A;rw[B,<-I];exact next _ jB
    case enter f' args=>
     obtain⟨B,K⟩:=A;rw[B];exact K.mono fun e w'' ⟨he,hw''⟩=>by subst he;exact next _ hw''
   |halt x w'=>simp only[Oper.quietUpon]at A
  .rw[if_neg (by rw[H];exact Bool.false_ne_true),<-Y]
   exact next _ jB
theorem jfO {U:Nat}{Q:Exit->Act->World->Prop}{a:Act}{w:World}{l:List Oper}(n ia:Nat) (R:P.follows .mixedOrders=true) (K:Region.lexTailB .any l.toArray n=true) (B:l.length<=ia)
 (h:wpB mk P l.toArray w oa obj ia (fun a'=>∀x:Wd w.heap.size w,wpList P l.toArray Q (l.drop n) a' x.v) 0 (l.take n) a):(Code.region U l.toArray true).wp P Q a w:=by
 simp only[Region.lexTailB,Yc,Yd]at K;obtain⟨⟨⟨⟨I,O⟩,hs⟩,Y⟩,F⟩:=K;have Z:n<l.length:=by simpa using O
 have A:(l.take n).length=n:=by simp;omega
 have C:(l.drop n).length=l.toArray.size-n:=by simp
 have E:HeadInv .any l.toArray n (Array.replicate l.toArray.size false):=
  ⟨by simp,fun j oj _ hl=>(by rw[getD_replicate_false]at hl;cases hl),fun t _ ht=>getD_in (by simpa using ht) (getD_replicate_false _ _)⟩
 have H:=jcH (ia:=ia) (oa:=oa) (obj:=obj) (md:=.any) (g:=l.toArray.size-n) (fun o' ho'=>by rw[Array.getElem?_eq_none (by simpa using B)]at ho';cases ho') I (jJC hs Y O) O (l.take n) 0 _ a (fun j hj=>by
  have W:j<n:=by rw[A]at hj;exact hj
  simp[W]) (by simpa using A) E (by rw[A];exact F) h
 refine wp_region_any R ?_
 have:=jdM (Q':=Q) (g:=l.toArray.size-n) (w0:=w)
  (fun listed a' w' hL h3=>by
   have:=wpAny_of_seq (md:=.any) (Q':=Q) (l.drop n) n listed a' w' (fun j=>by simp[List.getElem?_drop]) (by rw[C];exact hL.1) (hL.2 ⟨w',h3⟩)
   rwa [C]at this) (by simpa using B)
  _ _ a {w with drawn:=w.drawn+1} H jB.drew
 rw[A,show n+(l.toArray.size-n)=l.toArray.size by omega]at this;exact this
def jvA:Oper:={dst:=none,op:=.move (.tmp 0),type:=0,pos:= "",after:=#[],guard:=none}
def jig:Obj:=.cells #[] 0 (0,0)
theorem jP {C:Nat}{Q:Exit->Act->World->Prop}{a:Act}{w:World}{l:List Oper}(n ia:Nat) (B:P.follows .mixedOrders=true) (E:Region.lexTailB .any l.toArray n=true) (A:l.length<=ia)
 (h:wpB (fun _=>undef) P l.toArray w jvA jig ia (fun a'=>∀x:Wd w.heap.size w,wpList P l.toArray Q (l.drop n) a' x.v) 0 (l.take n) a):(Code.region C l.toArray true).wp P Q a w:=
 jfO n ia B E A h
theorem js {Q:Act->Prop}{k:Nat}{a:Act}(h:Q a):wpB mk P ops w0 oa obj ia Q k [] a:=h
theorem Jh {Q:Act->Prop}{k:Nat}{o:Oper}{rest:List Oper}{a:Act}(hk:k=ia) (A:ya mk P oa obj a) (h:wpB mk P ops w0 oa obj ia Q (k+1) rest a):wpB mk P ops w0 oa obj ia Q k (o ::rest) a:=by
 unfold wpB;rw[if_pos hk];exact⟨A,h⟩
theorem jd {Q:Act->Prop}{k:Nat}{o:Oper}{rest:List Oper}{a:Act}(hk:k≠ia) (B:Region.wanted o (yielded ops a.tmps)=true) {v:Value}(A:qAt P o a w0 v) (h:wpB mk P ops w0 oa obj ia Q (k+1) rest (a.put o.dst v)):wpB mk P ops w0 oa obj ia Q k (o ::rest) a:=by
 unfold wpB;rw[if_neg hk,if_pos B];exact⟨v,A,h⟩
end
theorem SsT {α:Type}:(∀(l:List α) (i:Nat) (a:α),l.toArray.setIfInBounds i a=(l.set i a).toArray)/\(∀(x a:α) (l:List α),(x ::l).set 0 a=a ::l)/\(∀(x a:α) (l:List α) (i:Nat),(x ::l).set (i+1) a=x ::l.set i a):=⟨fun _ _ _=>List.setIfInBounds_toArray ..,fun _ _ _=>rfl,fun _ _ _ _=>rfl⟩
theorem TkD {α:Type}:(∀(i:Nat) (a:α) (l:List α),(a ::l).take (i+1)=a ::l.take i)/\(∀(l:List α),l.take 0=[])/\(∀(a:α) (l:List α) (i:Nat),(a ::l).drop (i+1)=l.drop i)/\(∀(l:List α),l.drop 0=l):=⟨fun _ _ _=>rfl,fun _=>rfl,fun _ _ _=>rfl,fun _=>rfl⟩
end
end Go.Proofs.YtlpmpelnhdoboaaGreatDoor
