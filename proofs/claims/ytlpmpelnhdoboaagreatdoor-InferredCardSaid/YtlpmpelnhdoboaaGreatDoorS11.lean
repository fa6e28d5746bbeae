import Derived.Test.YtlpmpelnhdoboaaGreatDoorS01
set_option linter.unusedVariables false
set_option linter.unusedSimpArgs false
set_option maxHeartbeats 20000000
namespace Go.Proofs.YtlpmpelnhdoboaaGreatDoor
namespace Sl
structure Tk where
 k:Nat
 n:Nat
 x:ByteArray
deriving DecidableEq
def Tk.of (k:Nat):Tk:=⟨k,0,⟨#[]⟩⟩
abbrev oB:Tk:=Tk.of 23
abbrev cB:Tk:=Tk.of 24
def jnb (x:ByteArray):Tk:=⟨2,0,x⟩
def jp2 (n:Nat):Tk:=⟨1,n,⟨#[]⟩⟩
inductive T where
 |nd (br k s n:Nat) (xs:List ByteArray) (kids:List T)
def T.k:T->Nat
 | .nd _ k _ _ _ _=>k
def T.br:T->Nat
 | .nd b _ _ _ _ _=>b
def jnt:List ByteArray->List Tk
 |[]=>[]
 |[x]=>[jnb x]
 |x ::y ::r=>jnb x ::Tk.of 25 ::jnt (y ::r)
def pre (k s n:Nat) (xs:List ByteArray):List Tk:=
 match k with
 |1=>[jp2 n]
 |2=>[Tk.of 11]
 |3=>[Tk.of 12]
 |4=>[Tk.of 13]
 |5=>xs.map jnb
 |6=>[oB,cB]
 |8=>Tk.of 3 ::(xs.map jnb ++[Tk.of 27])
 |9=>Tk.of 3 ::Tk.of 4 ::(xs.map jnb ++[Tk.of 27])
 |10=>[Tk.of 3]
 |11=>[Tk.of 6]
 |12=>Tk.of 9 ::(xs.map jnb ++[Tk.of 22])
 |13=>[Tk.of 31]
 |14=>[Tk.of 10]
 |21=>[Tk.of 14]
 |22=>[Tk.of 15]
 |23=>[Tk.of 16]
 |24=>[Tk.of 17]
 |25=>jnt xs
 |_=>[]
def sep (k s i:Nat):List Tk:=
 match i with
 |0=>[]
 |i+1=>match k with
  |7=>[Tk.of 25]
  |8|9=>[Tk.of 5]
  |10=>if i=0 then[Tk.of 27] else[Tk.of 5]
  |11=>if i=0 then[Tk.of 7] else[Tk.of 8]
  |15|16|17=>[Tk.of s]
  |18=>[Tk.of 26]
  |20=>[Tk.of 18]
  |_=>[]
def post (k:Nat):List Tk:=if k=20 then[cB] else[]
mutual
def fl:T->List Tk
 | .nd b k s n xs kids=>List.replicate b oB ++(pre k s n xs ++(flk k s 0 kids ++(post k ++List.replicate b cB)))
def flk (k s:Nat):Nat->List T->List Tk
 |_,[]=>[]
 |i,c ::r=>sep k s i ++(fl c ++flk k s (i+1) r)
end
def arB (k s:Nat) (xs:List ByteArray) (m:Nat):Bool:=
 match k with
 |1|2|3|4|6=>m == 0 && xs.isEmpty
 |5=>m == 0 && xs.length == 1
 |7=>decide (2<=m) && decide (m<=6) && xs.isEmpty
 |8=>m == 2 && xs.length == 1
 |9=>m == 2 && decide (2<=xs.length) && decide (xs.length<=5)
 |10=>m == 3 && xs.isEmpty
 |11=>m == 3 && xs.isEmpty
 |12=>m == 1 && decide (1<=xs.length) && decide (xs.length<=4)
 |13|14|21|22=>m == 1 && xs.isEmpty
 |15=>m == 2 && xs.isEmpty && (s == 32 || s == 33 || s == 34)
 |16=>m == 2 && xs.isEmpty && (s == 30 || s == 31)
 |17=>m == 2 && xs.isEmpty && (s == 27 || s == 19 || s == 20 || s == 21 || s == 28 || s == 29)
 |18|20|23=>m == 2 && xs.isEmpty
 |19=>decide (2<=m) && decide (m<=5) && xs.isEmpty
 |24=>m == 3 && xs.isEmpty
 |25=>m == 0 && decide (2<=xs.length) && decide (xs.length<=6)
 |_=>false
mutual
def fine:T->Prop
 | .nd _ k s _ xs kids=>arB k s xs kids.length=true/\jok kids
def jok:List T->Prop
 |[]=>True
 |c ::r=>fine c/\jok r
end
def isO (t:Tk):Bool:=t.k == 23
def isC (t:Tk):Bool:=t.k == 24
def isX (t:Tk):Bool:=t.k == 18
def lo:Bool->List Tk->Bool
 |p,[]=>p
 |_,t ::r=>lo (isO t) r
def dep:Nat->List Tk->Option Nat
 |d,[]=>some d
 |d,t ::r=>if isO t || isX t then dep (d+1) r else if isC t then(match d with|0=>none|d+1=>dep d r) else dep d r
theorem jss (x y:List Tk):∀p,lo p (x ++y)=lo (lo p x) y:=by
 induction x with
 |nil=>intro p;rfl
 |cons t r ih=>intro p;simp[lo,ih]
theorem jru (x y:List Tk):∀d,dep d (x ++y)=(dep d x).bind fun e=>dep e y:=by
 induction x with
 |nil=>intro d;rfl
 |cons t r ih=>
  intro d;simp only[Ka,dep]
  split
  .exact ih _
  .split
   .cases d with
    |zero=>rfl
    |succ d=>exact ih _
   .exact ih _
theorem jvW {t:Tk}(h:isX t=true):isO t=false/\isC t=false:=by
 simp[isX,isO,isC]at *;omega
theorem jqn {t:Tk}(A:t.k≠23) (E:t.k≠24) (B:t.k≠18) (d:Nat) (r:List Tk):dep d (t ::r)=dep d r:=by
 simp[dep,isO,isC,isX,A,E,B]
theorem jwv (xs:List ByteArray) (d:Nat) (r:List Tk):dep d (xs.map jnb ++r)=dep d r:=by
 induction xs with
 |nil=>rfl
 |cons x q ih=>rw[Kt,Ka,jqn (by simp[jnb]) (by simp[jnb]) (by simp[jnb])];exact ih
theorem jHH (xs:List ByteArray) (d:Nat):dep d (jnt xs)=some d:=by
 induction xs with
 |nil=>rfl
 |cons x q ih=>
  cases q with
  |nil=>simp[jnt,jnb,dep,isO,isC,isX]
  |cons y q=>rw[jnt,jqn (by simp[jnb]) (by simp[jnb]) (by simp[jnb]),jqn (by simp[Tk.of]) (by simp[Tk.of]) (by simp[Tk.of])];exact ih
theorem jwu (k s n:Nat) (xs:List ByteArray) (d:Nat):dep d (pre k s n xs)=some d:=by
 unfold pre
 split <;> first
  |rfl
  |(have:=jwv xs d [];simp only[Kd]at this;rw[this];rfl)
  |(rw[jqn (by simp[Tk.of]) (by simp[Tk.of]) (by simp[Tk.of]),jqn (by simp[Tk.of]) (by simp[Tk.of]) (by simp[Tk.of]),jwv];rfl)
  |(rw[jqn (by simp[Tk.of]) (by simp[Tk.of]) (by simp[Tk.of]),jwv];rfl)
  |exact jHH xs d
variable {s:Nat}{xs:List ByteArray}
theorem jzY {k m:Nat}(h:arB k s xs m=true) (hk:k≠20) (i d:Nat):dep d (sep k s i)=some d:=by
 cases i with
 |zero=>rfl
 |succ i=>
  unfold arB at h;unfold sep
  split at h <;> first
   |rfl
   |(exfalso;exact hk rfl)
   |(simp at h;rcases h with⟨_,h⟩;simp only;rw[jqn (by simp[Tk.of];omega) (by simp[Tk.of];omega) (by simp[Tk.of];omega)];rfl)
   |(simp only;split <;> rfl)
   |(simp at h;done)
theorem jE1 (xs:List ByteArray) (h:xs≠[]) (p:Bool):lo p (jnt xs)=false:=by
 induction xs generalizing p with
 |nil=>exact absurd rfl h
 |cons x q ih=>
  cases q with
  |nil=>rfl
  |cons y q=>rw[jnt,lo,lo];exact ih (by simp) _
theorem jE0 (xs:List ByteArray) (p:Bool) (h:xs≠[]):lo p (xs.map jnb)=false:=by
 induction xs generalizing p with
 |nil=>exact absurd rfl h
 |cons x q ih=>
  cases q with
  |nil=>rfl
  |cons y q=>rw[Kt,lo];exact ih _ (by simp)
structure Bal (x:List Tk):Prop where
 dep:∀d,dep d x=some d
 lo:∀p,lo p x=false
 ne:x≠[]
variable {x y:List Tk}
theorem Bal.app (A:Bal x) (B:Bal y):Bal (x ++y):=
 ⟨fun d=>by rw[jru,A.dep];exact B.dep d,fun p=>by rw[jss];exact B.lo _,by intro h;exact A.ne (List.append_eq_nil_iff.1 h).1⟩
theorem Bal.app_nil (B:Bal x) (A:y=[]\/Bal y):Bal (x ++y):=by
 rcases A with rfl|A
 .simpa using B
 .exact B.app A
theorem Bal.nil_app (B:∀d,Sl.dep d x=some d) (A:Bal y):Bal (x ++y):=
 ⟨fun d=>by rw[jru,B];exact A.dep d,fun p=>by rw[jss];exact A.lo _,by intro h;exact A.ne (List.append_eq_nil_iff.1 h).2⟩
theorem Bal.wrap (A:Bal x) (b:Nat):Bal (List.replicate b oB ++(x ++List.replicate b cB)):=by
 induction b with
 |zero=>simpa using A
 |succ b ih=>
  have e:List.replicate (b+1) oB ++(x ++List.replicate (b+1) cB)=oB ::(List.replicate b oB ++(x ++List.replicate b cB)) ++[cB]:=by
   rw[List.replicate_succ,List.replicate_succ' (n:=b) (a:=cB)];simp
  rw[e];refine⟨fun d=>?_,fun p=>?_,by simp⟩
  .rw[jru]
   have:Sl.dep d (oB ::(List.replicate b oB ++(x ++List.replicate b cB)))=some (d+1):=by
    show Sl.dep (d+1) _=_;exact ih.dep _
   rw[this];rfl
  .rw[jss];rfl
mutual
theorem jnN:∀c:T,fine c->Bal (fl c)
 | .nd b k s n xs kids,h=>by
   rw[fl]
   have E:Bal (pre k s n xs ++(flk k s 0 kids ++post k)):=by
    obtain⟨A,hk⟩:=h
    by_cases B:k=20
    .subst B
     have F:kids.length=2:=by simp[arB]at A;exact A.1
     match kids,F,hk with
     |[c,d],_,hk=>
      have I:=jnN c hk.1;have hd:=jnN d hk.2.1;simp only[flk,sep,pre,post,if_pos,Yx,Kd];refine⟨fun e=>?_,fun p=>?_,?_⟩
      .rw[Yu,jru,I.dep]
       show dep e (Tk.of 18 ::(fl d ++[cB]))=some e;show dep (e+1) (fl d ++[cB])=some e;rw[jru,hd.dep];rfl
      .rw[jss];rfl
      .simp
    .have hs:=jv7 kids hk k s xs kids.length A B
     have H:post k=[]:=by unfold post;rw[if_neg B]
     rw[H,Kd]
     cases kids with
     |nil=>
      simp only[flk,Kd];refine⟨jwu k s n xs,fun p=>?_,?_⟩
      .unfold arB at A
       unfold pre
       split at A <;> first
        |rfl
        |(simp at A;done)
        |(simp only;refine jE0 xs p (fun e=>?_);subst e;simp at A)
        |(simp only;refine jE1 xs (fun e=>?_) p;subst e;simp at A)
      .intro hn
       unfold arB at A;unfold pre at hn
       split at A <;> first
        |(simp at hn;done)
        |(simp at A;done)
        |(simp at hn;subst hn;simp at A;done)
        |(simp only at hn;cases xs with|nil=>simp at A|cons x q=>cases q <;> simp[jnt]at hn)
     |cons c r=>exact Bal.nil_app (jwu k s n xs) (hs 0 (by simp))
   have:=E.wrap b;simpa using this
theorem jv7:∀(kids:List T),jok kids->∀(k s:Nat) (xs:List ByteArray) (m:Nat),arB k s xs m=true->k≠20->∀i,kids≠[]->Bal (flk k s i kids)
 |[],_=>by intro k s xs m _ _ i h;exact absurd rfl h
 |c ::r,h=>by
  intro k s xs m A hk i _;rw[flk];refine Bal.nil_app (jzY A hk i) ?_;have B:=jnN c h.1;refine B.app_nil ?_
  cases r with
  |nil=>exact .inl rfl
  |cons d q=>exact .inr (jv7 (d ::q) h.2 k s xs m A hk (i+1) (by simp))
end
def bod (k s n:Nat) (xs:List ByteArray) (kids:List T):List Tk:=pre k s n xs ++(flk k s 0 kids ++post k)
theorem jnf (b k s n:Nat) (xs:List ByteArray) (kids:List T):fl (.nd b k s n xs kids)=List.replicate b oB ++(bod k s n xs kids ++List.replicate b cB):=by
 rw[fl,bod];simp
variable {n:Nat}{kids:List T}
theorem jqG {k:Nat}(h:arB k s xs kids.length=true) (hk:jok kids):Bal (bod k s n xs kids):=by
 have:=jnN (.nd 0 k s n xs kids) ⟨h,hk⟩;rw[jnf]at this;simpa using this
theorem jrD {k m:Nat}(h:arB k s xs m=true) (A:pre k s n xs=[]):2<=m:=by
 unfold arB at h;unfold pre at A
 split at h <;> first
  |(simp at A;done)
  |(simp at h;done)
  |(simp at h;omega)
  |(simp at A;subst A;simp at h;done)
  |(simp only at A;cases xs with|nil=>simp at h|cons x q=>cases q <;> simp[jnt]at A)
def rk (k:Nat):Nat:=
 match k with
 |8|9|10|11|12|18=>0
 |17=>1
 |16=>2
 |15=>3
 |13|14=>4
 |19|21|22|23|24=>5
 |20=>6
 |_=>7
def wanted (k i:Nat):Nat:=
 match k with
 |17=>2
 |16=>if i=0 then 2 else 3
 |15=>if i=0 then 3 else 4
 |13|14=>4
 |19|21|22|23|24=>6
 |18=>if i=0 then 1 else 0
 |20=>if i=0 then 6 else 0
 |_=>0
theorem rk_le (k:Nat):rk k<=7:=by unfold rk;split <;> omega
def rkT:T->Nat
 | .nd b k _ _ _ _=>if 1<=b then 7 else rk k
mutual
def wf:T->Prop
 | .nd b k s n xs kids=>arB k s xs kids.length=true/\(k=7->1<=b)/\(k=25->b=1)/\wfs k 0 kids
def wfs (k:Nat):Nat->List T->Prop
 |_,[]=>True
 |i,c ::r=>wf c/\wanted k i<=rkT c/\(c.k=25↔(k=10/\i=0))/\wfs k (i+1) r
end
mutual
theorem jnD:∀c:T,wf c->fine c
 | .nd _ _ _ _ _ kids,h=>⟨h.1,jp9 kids _ _ h.2.2.2⟩
theorem jp9:∀(l:List T) (k i:Nat),wfs k i l->jok l
 |[],_,_,_=>trivial
 |c ::r,k,i,h=>⟨jnD c h.1,jp9 r k (i+1) h.2.2.2⟩
end
theorem jw6 (k:Nat):∀(a b:List T) (i:Nat),wfs k i (a ++b)↔wfs k i a/\wfs k (i+a.length) b
 |[],b,i=>by simp[wfs]
 |c ::r,b,i=>by
  rw[Ka,wfs,wfs,jw6 k r b (i+1),Yk,show i+1+r.length=i+(r.length+1) by omega]
  constructor
  .rintro ⟨h1,h2,h3,h4,h5⟩;exact⟨⟨h1,h2,h3,h4⟩,h5⟩
  .rintro ⟨⟨h1,h2,h3,h4⟩,h5⟩;exact⟨h1,h2,h3,h4,h5⟩
theorem jtL (k s:Nat):∀(a b:List T) (i:Nat),flk k s i (a ++b)=flk k s i a ++flk k s (i+a.length) b
 |[],b,i=>by simp[flk]
 |c ::r,b,i=>by rw[Ka,flk,flk,jtL k s r b (i+1),Yk,show i+1+r.length=i+(r.length+1) by omega];simp
def Tok.tk (t:Tok):Tk:=⟨t.k,if t.k=1 then t.n else 0,if t.k=2 then t.t else⟨#[]⟩⟩
inductive V where
 |tk (t:Tok)
 |tr (c:T)
 |nm (xs:List ByteArray)
inductive J where
 |expr|lett|cmp|sum|prod|sign|call|operand|atom|bracket
 |rest (a:T)|cmpd (a:T)|terms (a:T)|facs (a:T)|index (a:T)
 |args (m:Nat) (az:List T)|items (m:Nat) (az:List T)
 |params (m:Nat) (xs:List ByteArray)|names (m:Nat) (xs:List ByteArray)
inductive St where
 |tm (k:Nat)
 |op (k:Nat)
 |cl
 |jb (j:J)
inductive joM where
 |out (v:V)
 |go (j:J)
def jnJ (k:Nat):Bool:=k == 27 || k == 19 || k == 20 || k == 21 || k == 28 || k == 29
def jm6 (k:Nat):Bool:=k == 30 || k == 31
def jm5 (k:Nat):Bool:=k == 32 || k == 33 || k == 34
def jot (k:Nat):Bool:=k == 1 || k == 2 || k == 11 || k == 12 || k == 13
def jnc (k:Nat):Bool:=jot k || k == 23
def nop:joM:=.out (.nm [])
def leaf (t:Tok):T:=
 if t.k=1 then .nd 0 1 0 t.n [] [] else if t.k=2 then .nd 0 5 0 0 [t.t] [] else if t.k=11 then .nd 0 2 0 0 [] [] else if t.k=12 then .nd 0 3 0 0 [] [] else .nd 0 4 0 0 [] []
def brk:T->T
 | .nd b k s n xs kids=>.nd (b+1) k s n xs kids
def jrx:List T->T
 |[a]=>a
 |az=>.nd 0 19 0 0 [] az
def jrY:List T->T
 |[a]=>brk a
 |az=>.nd 1 7 0 0 [] az
def jm0 (j:J) (h:Nat):Option (List St × (List V->joM)):=
 match j with
 | .expr=>
   if h=3 then some ([.tm 3,.jb .lett],fun|[_,v]=>.out v|_=>nop)
   else if h=6 then some ([.tm 6,.jb .expr,.tm 7,.jb .expr,.tm 8,.jb .expr],fun|[_,.tr a,_,.tr b,_,.tr c]=>.out (.tr (.nd 0 11 0 0 [] [a,b,c]))|_=>nop)
   else if h=9 then some ([.tm 9,.tm 2,.jb (.params 3 []),.tm 22,.jb .expr],fun|[_,.tk x,.nm xs,_,.tr b]=>.out (.tr (.nd 0 12 0 0 (x.t ::xs) [b]))|_=>nop)
   else some ([.jb .cmp],fun|[.tr a]=>.go (.rest a)|_=>nop)
 | .lett=>
   if h=4 then some ([.tm 4,.tm 2,.tm 2,.jb (.params 3 []),.tm 27,.jb .expr,.tm 5,.jb .expr],fun|[_,.tk f,.tk x,.nm xs,_,.tr a,_,.tr b]=>.out (.tr (.nd 0 9 0 0 (f.t ::x.t ::xs) [a,b]))|_=>nop)
   else if h=23 then some ([.op 23,.tm 2,.tm 25,.tm 2,.jb (.names 4 []),.cl,.tm 27,.jb .expr,.tm 5,.jb .expr],fun|[_,.tk x,_,.tk y,.nm xs,_,_,.tr a,_,.tr b]=>.out (.tr (.nd 0 10 0 0 [] [.nd 1 25 0 0 (x.t ::y.t ::xs) [],a,b]))|_=>nop)
   else some ([.tm 2,.tm 27,.jb .expr,.tm 5,.jb .expr],fun|[.tk x,_,.tr a,_,.tr b]=>.out (.tr (.nd 0 8 0 0 [x.t] [a,b]))|_=>nop)
 | .rest a=>if h=26 then some ([.tm 26,.jb .expr],fun|[_,.tr b]=>.out (.tr (.nd 0 18 0 0 [] [a,b]))|_=>nop) else some ([],fun _=>.out (.tr a))
 | .cmp=>some ([.jb .sum],fun|[.tr a]=>.go (.cmpd a)|_=>nop)
 | .cmpd a=>if jnJ h then some ([.tm h,.jb .sum],fun|[_,.tr b]=>.out (.tr (.nd 0 17 h 0 [] [a,b]))|_=>nop) else some ([],fun _=>.out (.tr a))
 | .sum=>some ([.jb .prod],fun|[.tr a]=>.go (.terms a)|_=>nop)
 | .terms a=>if jm6 h then some ([.tm h,.jb .prod],fun|[_,.tr b]=>.go (.terms (.nd 0 16 h 0 [] [a,b]))|_=>nop) else some ([],fun _=>.out (.tr a))
 | .prod=>some ([.jb .sign],fun|[.tr a]=>.go (.facs a)|_=>nop)
 | .facs a=>if jm5 h then some ([.tm h,.jb .sign],fun|[_,.tr b]=>.go (.facs (.nd 0 15 h 0 [] [a,b]))|_=>nop) else some ([],fun _=>.out (.tr a))
 | .sign=>
   if h=31 then some ([.tm 31,.jb .sign],fun|[_,.tr a]=>.out (.tr (.nd 0 13 0 0 [] [a]))|_=>nop)
   else if h=10 then some ([.tm 10,.jb .sign],fun|[_,.tr a]=>.out (.tr (.nd 0 14 0 0 [] [a]))|_=>nop)
   else some ([.jb .call],fun|[v]=>.out v|_=>nop)
 | .call=>
   if h=14 then some ([.tm 14,.jb .operand],fun|[_,.tr a]=>.out (.tr (.nd 0 21 0 0 [] [a]))|_=>nop)
   else if h=15 then some ([.tm 15,.jb .operand],fun|[_,.tr a]=>.out (.tr (.nd 0 22 0 0 [] [a]))|_=>nop)
   else if h=16 then some ([.tm 16,.jb .operand,.jb .operand],fun|[_,.tr a,.tr b]=>.out (.tr (.nd 0 23 0 0 [] [a,b]))|_=>nop)
   else if h=17 then some ([.tm 17,.jb .operand,.jb .operand,.jb .operand],fun|[_,.tr a,.tr b,.tr c]=>.out (.tr (.nd 0 24 0 0 [] [a,b,c]))|_=>nop)
   else some ([.jb .operand],fun|[.tr a]=>.go (.args 4 [a])|_=>nop)
 | .args m az=>if jnc h && decide (0<m) then some ([.jb .operand],fun|[.tr b]=>.go (.args (m-1) (az ++[b]))|_=>nop) else some ([],fun _=>.out (.tr (jrx az)))
 | .operand=>some ([.jb .atom],fun|[.tr a]=>.go (.index a)|_=>nop)
 | .index a=>if h=18 then some ([.op 18,.jb .expr,.cl],fun|[_,.tr b,_]=>.go (.index (.nd 0 20 0 0 [] [a,b]))|_=>nop) else some ([],fun _=>.out (.tr a))
 | .atom=>
   if h=23 then some ([.op 23,.jb .bracket],fun|[_,v]=>.out v|_=>nop)
   else if jot h then some ([.tm h],fun|[.tk t]=>.out (.tr (leaf t))|_=>nop)
   else none
 | .bracket=>if h=24 then some ([.cl],fun _=>.out (.tr (.nd 0 6 0 0 [] []))) else some ([.jb .expr],fun|[.tr a]=>.go (.items 5 [a])|_=>nop)
 | .items m az=>if h=25/\0<m then some ([.tm 25,.jb .expr],fun|[_,.tr b]=>.go (.items (m-1) (az ++[b]))|_=>nop) else some ([.cl],fun _=>.out (.tr (jrY az)))
 | .params m xs=>if h=2/\0<m then some ([.tm 2],fun|[.tk x]=>.go (.params (m-1) (xs ++[x.t]))|_=>nop) else some ([],fun _=>.out (.nm xs))
 | .names m xs=>if h=25/\0<m then some ([.tm 25,.tm 2],fun|[_,.tk x]=>.go (.names (m-1) (xs ++[x.t]))|_=>nop) else some ([],fun _=>.out (.nm xs))
inductive Res (α:Type) where
 |bad (e p:Nat)
 |ok (v:α) (l:List Tok) (o:Nat)
def Res.cons (v:V):Res (List V)->Res (List V)
 | .bad e p=>.bad e p
 | .ok vs l o=>.ok (v ::vs) l o
mutual
inductive Sq (N:Nat):List St->List Tok->Nat->Res (List V)->Prop
 |nil (l:List Tok) (o:Nat):Sq N [] l o (.ok [] l o)
 |tm {k:Nat}{ss:List St}{t:Tok}{l:List Tok}{o:Nat}{r:Res (List V)}:t.k=k->Sq N ss l o r->Sq N (.tm k ::ss) (t ::l) o (r.cons (.tk t))
 |tmBad {k:Nat}{ss:List St}{t:Tok}{l:List Tok}{o:Nat}:t.k≠k->Sq N (.tm k ::ss) (t ::l) o (.bad 4 t.p)
 |op {k:Nat}{ss:List St}{t:Tok}{l:List Tok}{o:Nat}{r:Res (List V)}:t.k=k->o<N->Sq N ss l (o+1) r->Sq N (.op k ::ss) (t ::l) o (r.cons (.tk t))
 |opBad {k:Nat}{ss:List St}{t:Tok}{l:List Tok}{o:Nat}:t.k≠k->Sq N (.op k ::ss) (t ::l) o (.bad 4 t.p)
 |opNest {k:Nat}{ss:List St}{t:Tok}{l:List Tok}{o:Nat}:t.k=k->N<=o->Sq N (.op k ::ss) (t ::l) o (.bad 5 t.p)
 |cl {ss:List St}{t:Tok}{l:List Tok}{o:Nat}{r:Res (List V)}:t.k=24->Sq N ss l (o-1) r->Sq N (.cl ::ss) (t ::l) o (r.cons (.tk t))
 |clBad {ss:List St}{t:Tok}{l:List Tok}{o:Nat}:t.k≠24->Sq N (.cl ::ss) (t ::l) o (.bad 4 t.p)
 |jb {j:J}{ss:List St}{l l':List Tok}{o o':Nat}{v:V}{r:Res (List V)}:Jb N j l o (.ok v l' o')->Sq N ss l' o' r->Sq N (.jb j ::ss) l o (r.cons v)
 |jbBad {j:J}{ss:List St}{l:List Tok}{o e p:Nat}:Jb N j l o (.bad e p)->Sq N (.jb j ::ss) l o (.bad e p)
inductive Jb (N:Nat):J->List Tok->Nat->Res V->Prop
 |none {j:J}{t:Tok}{l:List Tok}{o:Nat}:jm0 j t.k=none->Jb N j (t ::l) o (.bad 4 t.p)
 |bad {j:J}{t:Tok}{l:List Tok}{o e p:Nat}{ss:List St}{fin:List V->joM}:jm0 j t.k=some (ss,fin)->Sq N ss (t ::l) o (.bad e p)->Jb N j (t ::l) o (.bad e p)
 |out {j:J}{t:Tok}{l l':List Tok}{o o':Nat}{ss:List St}{fin:List V->joM}{vs:List V}{v:V}:jm0 j t.k=some (ss,fin)->Sq N ss (t ::l) o (.ok vs l' o')->fin vs= .out v->Jb N j (t ::l) o (.ok v l' o')
 |go {j j':J}{t:Tok}{l l':List Tok}{o o':Nat}{ss:List St}{fin:List V->joM}{vs:List V}{r:Res V}:jm0 j t.k=some (ss,fin)->Sq N ss (t ::l) o (.ok vs l' o')->fin vs= .go j'->Jb N j' l' o' r->Jb N j (t ::l) o r
end
variable {t:Tok}
theorem jnM {k:Nat}(h:t.k=k) (A:k≠1) (B:k≠2):t.tk=Tk.of k:=by
 unfold Tok.tk Tk.of;rw[h,if_neg A,if_neg B]
theorem jpZ (h:t.k=2):t.tk=jnb t.t:=by
 unfold Tok.tk jnb;rw[h];rfl
theorem juM (h:t.k=1):t.tk=jp2 t.n:=by
 unfold Tok.tk jp2;rw[h];rfl
def Tr (q:Nat) (u:List Tk) (v:V):Prop:=∃c,v= .tr c/\wf c/\q<=rkT c/\c.k≠25/\fl c=u
def okA (q:Nat) (a:T):Prop:=wf a/\q<=rkT a/\a.k≠25
def jp1 (q:Nat):List T->Prop
 |[]=>True
 |a ::r=>okA q a/\jp1 q r
def SpJ:J->List Tk->V->Prop
 | .expr,u,v=>Tr 0 u v
 | .lett,u,v=>Tr 0 (Tk.of 3 ::u) v
 | .cmp,u,v=>Tr 1 u v
 | .sum,u,v=>Tr 2 u v
 | .prod,u,v=>Tr 3 u v
 | .sign,u,v=>Tr 4 u v
 | .call,u,v=>Tr 5 u v
 | .operand,u,v=>Tr 6 u v
 | .atom,u,v=>Tr 7 u v
 | .bracket,u,v=>Tr 7 (oB ::u) v
 | .rest a,u,v=>Tr 0 (fl a ++u) v
 | .cmpd a,u,v=>Tr 1 (fl a ++u) v
 | .terms a,u,v=>Tr 2 (fl a ++u) v
 | .facs a,u,v=>Tr 3 (fl a ++u) v
 | .index a,u,v=>Tr 6 (fl a ++u) v
 | .args _ az,u,v=>Tr 5 (flk 19 0 0 az ++u) v
 | .items _ az,u,v=>Tr 7 (oB ::(flk 7 0 0 az ++u)) v
 | .params m xs,u,v=>∃zs,v= .nm (xs ++zs)/\zs.length<=m/\u=zs.map jnb
 | .names m xs,u,v=>∃zs,v= .nm (xs ++zs)/\zs.length<=m/\u=zs.flatMap fun z=>[Tk.of 25,jnb z]
def jry:J->Prop
 | .rest a=>okA 1 a
 | .cmpd a=>okA 2 a
 | .terms a=>okA 2 a
 | .facs a=>okA 3 a
 | .index a=>okA 6 a
 | .args m az=>az≠[]/\az.length+m=5/\jp1 6 az
 | .items m az=>az≠[]/\az.length+m=6/\jp1 0 az
 |_=>True
def SpS:List St->List Tk->List V->Prop
 |[],u,vs=>u=[]/\vs=[]
 | .tm k ::ss,u,vs=>∃t vs' u',t.k=k/\vs= .tk t ::vs'/\u=t.tk ::u'/\SpS ss u' vs'
 | .op k ::ss,u,vs=>∃t vs' u',t.k=k/\vs= .tk t ::vs'/\u=t.tk ::u'/\SpS ss u' vs'
 | .cl ::ss,u,vs=>∃t vs' u',t.k=24/\vs= .tk t ::vs'/\u=t.tk ::u'/\SpS ss u' vs'
 | .jb j ::ss,u,vs=>∃v vs' u1 u2,vs=v ::vs'/\u=u1 ++u2/\SpJ j u1 v/\SpS ss u2 vs'
def jr7:List St->Prop
 |[]=>True
 | .jb j ::ss=>jry j/\jr7 ss
 |_ ::ss=>jr7 ss
variable {j:J}{h:Nat}{ss:List St}{fin:List V->joM}
theorem jrd (he:jm0 j h=some (ss,fin)):jr7 ss:=by
 unfold jm0 at he
 split at he <;> (try split at he) <;> (try split at he) <;> (try split at he) <;> (try split at he) <;> first
  |(simp at he;done)
  |(injection he with he;injection he with h1 _;rw[<-h1];simp[jr7,jry])
theorem jtk (q:Nat):∀a b:List T,jp1 q (a ++b)↔jp1 q a/\jp1 q b
 |[],b=>by simp[jp1]
 |c ::r,b=>by
  rw[Ka,jp1,jp1,jtk q r b];exact⟨fun h=>⟨⟨h.1,h.2.1⟩,h.2.2⟩,fun h=>⟨h.1.1,h.1.2,h.2⟩⟩
theorem jrB (k q:Nat) (hk:k≠10) (A:∀i,wanted k i<=q):∀(l:List T) (i:Nat),jp1 q l->wfs k i l
 |[],_,_=>trivial
 |c ::r,i,h=>⟨h.1.1,Ym (A i) h.1.2.1,⟨fun e=>absurd e h.1.2.2,fun e=>absurd e.1 hk⟩,jrB k q hk A r (i+1) h.2⟩
variable {c:T}
theorem jnv {k i:Nat}(h:c.k≠25) (hk:k≠10\/i≠0):c.k=25↔(k=10/\i=0):=
 ⟨fun e=>absurd e h,fun e=>by rcases hk with hk|hk;exact absurd e.1 hk;exact absurd e.2 hk⟩
variable {q:Nat}{u:List Tk}
theorem jo5 {b k:Nat}(E:arB k s xs kids.length=true) (H:k=7->1<=b) (A:k≠25) (hk:wfs k 0 kids) (B:q<=rkT (.nd b k s n xs kids))
 (F:fl (.nd b k s n xs kids)=u):Tr q u (.tr (.nd b k s n xs kids)):=
 ⟨_,rfl,⟨E,H,fun e=>absurd e A,hk⟩,B,A,F⟩
theorem ju9 (c:T):rkT (brk c)=7:=by cases c;simp[brk,rkT]
theorem jut (h:wf c) (A:c.k≠25):wf (brk c):=by
 cases c with
 |nd b k s n xs kids=>
  rw[brk,wf];rw[wf]at h;exact⟨h.1,fun _=>by omega,fun e=>absurd e A,h.2.2.2⟩
theorem jtN (c:T):fl (brk c)=oB ::(fl c ++[cB]):=by
 cases c with
 |nd b k s n xs kids=>
  rw[brk,jnf,jnf,List.replicate_succ,List.replicate_succ' (n:=b) (a:=cB)];simp
theorem rk0 {b k:Nat}(h:q<=rk k):q<=rkT (.nd b k s n xs kids):=by
 rw[rkT]
 split
 .exact Ym h (rk_le k)
 .exact h
variable {v:V}
theorem Tr.mono {q':Nat}(h:Tr q u v) (A:q'<=q):Tr q' u v:=by
 obtain⟨c,F,I,E,B,H⟩:=h;exact⟨c,F,I,Ym A E,B,H⟩
variable {vs:List V}
theorem jqS {k:Nat}(h:SpS [.tm k] u vs):∃t,t.k=k/\vs=[.tk t]/\u=[t.tk]:=by
 obtain⟨t,B,E,A,rfl,rfl,rfl,rfl⟩:=h;exact⟨t,A,rfl,rfl⟩
theorem jnP (h:SpS [.jb j] u vs):∃v,vs=[v]/\SpJ j u v:=by
 obtain⟨v,B,u1,u2,rfl,rfl,A,rfl,rfl⟩:=h;exact⟨v,rfl,by simpa using A⟩
theorem joD {k:Nat}(h:SpS [.tm k,.jb j] u vs):∃t v u',t.k=k/\vs=[.tk t,v]/\u=t.tk ::u'/\SpJ j u' v:=by
 obtain⟨t,F,u',B,rfl,rfl,E⟩:=h;obtain⟨v,rfl,A⟩:=jnP E;exact⟨t,v,u',B,rfl,rfl,A⟩
theorem jD9 (he:jm0 .expr h=some (ss,fin)) (hs:SpS ss u vs) (E:fin vs= .out v):SpJ .expr u v:=by
 simp only[jm0]at he
 split at he
 .injection he with he;injection he with A B;subst A B
  obtain⟨t,v',R,A,rfl,rfl,H⟩:=joD hs;injection E with E;subst E
  rw[jnM A (by decide) (by decide)];exact H
 .split at he
  .injection he with he;injection he with A B;subst A B
   obtain⟨t,U,R,A,rfl,rfl,v1,O,u1,u2,rfl,rfl,⟨a,rfl,K⟩,Z,W,u3,B,rfl,rfl,v2,Y,u4,u5,rfl,rfl,⟨b,rfl,I⟩,t3,h0,u6,H,rfl,rfl,hs⟩:=hs;obtain⟨v3,rfl,⟨c,rfl,F⟩⟩:=jnP hs;injection E with E;subst E
   rw[jnM A (by decide) (by decide),jnM B (by decide) (by decide),jnM H (by decide) (by decide)];refine jo5 rfl (by decide) (by decide) ⟨K.1,Yi _,jnv K.2.2.1 (.inl (by decide)),I.1,Yi _,jnv I.2.2.1 (.inl (by decide)),F.1,Yi _,jnv F.2.2.1 (.inl (by decide)),trivial⟩ (Yi _) ?_;rw[jnf];simp[bod,pre,flk,sep,post,K.2.2.2,I.2.2.2,F.2.2.2]
  .split at he
   .injection he with he;injection he with A B;subst A B
    obtain⟨t,U,R,A,rfl,rfl,x,O,u1,hx,rfl,rfl,v1,W,u2,u3,rfl,rfl,⟨zs,rfl,hz,rfl⟩,Z,Y,u4,B,rfl,rfl,hs⟩:=hs;obtain⟨v3,rfl,⟨c,rfl,F⟩⟩:=jnP hs;injection E with E;subst E
    rw[jnM A (by decide) (by decide),jnM B (by decide) (by decide),jpZ hx];refine jo5 ?_ (by decide) (by decide) ⟨F.1,Yi _,jnv F.2.2.1 (.inl (by decide)),trivial⟩ (Yi _) ?_
    .simp[arB];omega
    .rw[jnf]
     simp[bod,pre,flk,sep,post,F.2.2.2]
   .injection he with he;injection he with A B;subst A B
    obtain⟨v',rfl,c,rfl,H⟩:=jnP hs;simp at E
theorem jD8 (he:jm0 .lett h=some (ss,fin)) (hs:SpS ss u vs) (F:fin vs= .out v):SpJ .lett u v:=by
 simp only[jm0]at he
 split at he
 .injection he with he;injection he with H E;subst H E
  obtain⟨t,O,u',H,rfl,rfl,f,Y,u1,h0,rfl,rfl,x,R,u2,K,rfl,rfl,v1,h6,u3,u4,rfl,rfl,⟨I,rfl,hz,rfl⟩,t2,h9,u5,E,rfl,rfl,v2,h7,u6,u7,rfl,rfl,⟨a,rfl,B⟩,t3,k1,u8,U,rfl,rfl,hs⟩:=hs;obtain⟨v3,rfl,⟨b,rfl,A⟩⟩:=jnP hs;injection F with F;subst F
  rw[jnM H (by decide) (by decide),jnM E (by decide) (by decide),jnM U (by decide) (by decide),jpZ h0,jpZ K];refine jo5 ?_ (by decide) (by decide) ⟨B.1,Yi _,jnv B.2.2.1 (.inl (by decide)),A.1,Yi _,jnv A.2.2.1 (.inl (by decide)),trivial⟩ (Yi _) ?_
  .simp[arB];omega
  .rw[jnf]
   simp[bod,pre,flk,sep,post,B.2.2.2,A.2.2.2]
 .split at he
  .injection he with he;injection he with H E;subst H E
   obtain⟨t,O,u',H,rfl,rfl,x,Y,u1,K,rfl,rfl,t1,R,u2,E,rfl,rfl,y,h6,u3,hy,rfl,rfl,v1,h9,u4,u5,rfl,rfl,⟨I,rfl,hz,rfl⟩,t2,h7,u6,U,rfl,rfl,t3,k1,u7,h4,rfl,rfl,v2,h8,u8,u9,rfl,rfl,⟨a,rfl,B⟩,t4,Z,u10,W,rfl,rfl,hs⟩:=hs;obtain⟨v3,rfl,⟨b,rfl,A⟩⟩:=jnP hs;injection F with F;subst F
   rw[jnM H (by decide) (by decide),jnM E (by decide) (by decide),jnM U (by decide) (by decide),jnM h4 (by decide) (by decide),jnM W (by decide) (by decide),jpZ K,jpZ hy];refine jo5 rfl (by decide) (by decide) ⟨⟨?_,by decide,by decide,trivial⟩,Yi _,⟨fun _=>⟨rfl,rfl⟩,fun _=>rfl⟩,B.1,Yi _,jnv B.2.2.1 (.inr (by decide)),A.1,Yi _,jnv A.2.2.1 (.inr (by decide)),trivial⟩ (Yi _) ?_
   .simp[arB];omega
   .have hc:∀(I:List ByteArray) (x:ByteArray),jnt (x ::I)=jnb x ::I.flatMap (fun z=>[Tk.of 25,jnb z]):=by
     intro I
     induction I with
     |nil=>intro x;rfl
     |cons z r ih=>intro x;rw[jnt,ih z];rfl
    rw[jnf];simp[bod,pre,flk,sep,post,B.2.2.2,A.2.2.2,jnf,hc]
  .injection he with he;injection he with H E;subst H E
   obtain⟨x,O,u',K,rfl,rfl,t1,R,u2,E,rfl,rfl,v2,h8,u8,u9,rfl,rfl,⟨a,rfl,B⟩,t4,Z,u10,W,rfl,rfl,hs⟩:=hs;obtain⟨v3,rfl,⟨b,rfl,A⟩⟩:=jnP hs;injection F with F;subst F
   rw[jnM E (by decide) (by decide),jnM W (by decide) (by decide),jpZ K];refine jo5 rfl (by decide) (by decide) ⟨B.1,Yi _,jnv B.2.2.1 (.inl (by decide)),A.1,Yi _,jnv A.2.2.1 (.inl (by decide)),trivial⟩ (Yi _) ?_;rw[jnf];simp[bod,pre,flk,sep,post,B.2.2.2,A.2.2.2]
theorem jGq (l:List T) (c:T) (i:Nat):flk 19 0 i (l ++[c])=flk 19 0 i l ++fl c:=by
 rw[jtL,flk,flk];have:sep 19 0 (i+l.length)=[]:=by unfold sep;split <;> rfl
 rw[this];simp
theorem flk7 (l:List T) (c:T) (h:l≠[]):flk 7 0 0 (l ++[c])=flk 7 0 0 l ++(Tk.of 25 ::fl c):=by
 rw[jtL,flk,flk]
 have:sep 7 0 (0+l.length)=[Tk.of 25]:=by
  cases l with
  |nil=>exact absurd rfl h
  |cons x r=>simp[sep]
 rw[this];simp
theorem jGB (H:jry j) (he:jm0 j h=some (ss,fin)) (hs:SpS ss u vs) (B:fin vs= .out v):SpJ j u v:=by
 cases j with
 |expr=>exact jD9 he hs B
 |lett=>exact jD8 he hs B
 |cmp=>
  simp only[jm0]at he;injection he with he;injection he with A E;subst A E
  obtain⟨O,rfl,c,rfl,Y⟩:=jnP hs;simp at B
 |sum=>
  simp only[jm0]at he;injection he with he;injection he with A E;subst A E
  obtain⟨O,rfl,c,rfl,Y⟩:=jnP hs;simp at B
 |prod=>
  simp only[jm0]at he;injection he with he;injection he with A E;subst A E
  obtain⟨O,rfl,c,rfl,Y⟩:=jnP hs;simp at B
 |sign=>
  simp only[jm0]at he
  split at he
  .injection he with he;injection he with A E;subst A E
   obtain⟨t,O,U,A,rfl,rfl,a,rfl,F⟩:=joD hs;injection B with B;subst B
   rw[jnM A (by decide) (by decide)];refine jo5 rfl (by decide) (by decide) ⟨F.1,F.2.1,jnv F.2.2.1 (.inl (by decide)),trivial⟩ (rk0 (by decide)) ?_;rw[jnf];simp[bod,pre,flk,sep,post,F.2.2.2]
  .split at he
   .injection he with he;injection he with A E;subst A E
    obtain⟨t,O,U,A,rfl,rfl,a,rfl,F⟩:=joD hs;injection B with B;subst B
    rw[jnM A (by decide) (by decide)];refine jo5 rfl (by decide) (by decide) ⟨F.1,F.2.1,jnv F.2.2.1 (.inl (by decide)),trivial⟩ (rk0 (by decide)) ?_;rw[jnf];simp[bod,pre,flk,sep,post,F.2.2.2]
   .injection he with he;injection he with A E;subst A E
    obtain⟨O,rfl,Y⟩:=jnP hs;injection B with B;subst B
    exact Tr.mono Y (by decide)
 |call=>
  simp only[jm0]at he
  split at he
  .injection he with he;injection he with A E;subst A E
   obtain⟨t,O,U,A,rfl,rfl,a,rfl,F⟩:=joD hs;injection B with B;subst B
   rw[jnM A (by decide) (by decide)];refine jo5 rfl (by decide) (by decide) ⟨F.1,F.2.1,jnv F.2.2.1 (.inl (by decide)),trivial⟩ (rk0 (by decide)) ?_;rw[jnf];simp[bod,pre,flk,sep,post,F.2.2.2]
  .split at he
   .injection he with he;injection he with A E;subst A E
    obtain⟨t,O,U,A,rfl,rfl,a,rfl,F⟩:=joD hs;injection B with B;subst B
    rw[jnM A (by decide) (by decide)];refine jo5 rfl (by decide) (by decide) ⟨F.1,F.2.1,jnv F.2.2.1 (.inl (by decide)),trivial⟩ (rk0 (by decide)) ?_;rw[jnf];simp[bod,pre,flk,sep,post,F.2.2.2]
   .split at he
    .injection he with he;injection he with A E;subst A E
     obtain⟨t,Z,U,A,rfl,rfl,v1,h5,u1,u2,rfl,rfl,⟨a,rfl,F⟩,hs⟩:=hs;obtain⟨v2,rfl,⟨b,rfl,K⟩⟩:=jnP hs;injection B with B;subst B
     rw[jnM A (by decide) (by decide)];refine jo5 rfl (by decide) (by decide) ⟨F.1,F.2.1,jnv F.2.2.1 (.inl (by decide)),K.1,K.2.1,jnv K.2.2.1 (.inl (by decide)),trivial⟩ (rk0 (by decide)) ?_;rw[jnf];simp[bod,pre,flk,sep,post,F.2.2.2,K.2.2.2]
    .split at he
     .injection he with he;injection he with A E;subst A E
      obtain⟨t,Z,U,A,rfl,rfl,v1,h5,u1,u2,rfl,rfl,⟨a,rfl,F⟩,v2,h6,u3,u4,rfl,rfl,⟨b,rfl,K⟩,hs⟩:=hs;obtain⟨v3,rfl,⟨c,rfl,hc⟩⟩:=jnP hs;injection B with B;subst B
      rw[jnM A (by decide) (by decide)];refine jo5 rfl (by decide) (by decide) ⟨F.1,F.2.1,jnv F.2.2.1 (.inl (by decide)),K.1,K.2.1,jnv K.2.2.1 (.inl (by decide)),hc.1,hc.2.1,jnv hc.2.2.1 (.inl (by decide)),trivial⟩ (rk0 (by decide)) ?_;rw[jnf];simp[bod,pre,flk,sep,post,F.2.2.2,K.2.2.2,hc.2.2.2]
     .injection he with he;injection he with A E;subst A E
      obtain⟨O,rfl,c,rfl,Y⟩:=jnP hs;simp at B
 |operand=>
  simp only[jm0]at he;injection he with he;injection he with A E;subst A E
  obtain⟨O,rfl,c,rfl,Y⟩:=jnP hs;simp at B
 |atom=>
  simp only[jm0]at he
  split at he
  .injection he with he;injection he with A E;subst A E
   obtain⟨t,Z,U,A,rfl,rfl,hs⟩:=hs;obtain⟨O,rfl,Y⟩:=jnP hs;injection B with B;subst B
   rw[jnM A (by decide) (by decide)];exact Y
  .split at he
   .rename_i R
    injection he with he;injection he with A E;subst A E
    obtain⟨t,A,rfl,rfl⟩:=jqS hs;injection B with B;subst B
    rw[<-A]at R;simp only[jot,Yl,Yn]at R
    have h0:∀k n xs u,arB k 0 xs 0=true->k≠7->k≠25->rk k=7->pre k 0 n xs=u->post k=[]->Tr 7 u (.tr (.nd 0 k 0 n xs [])):=by
     intro k n xs u F h7 h9 hr hu h8;refine jo5 F (fun e=>absurd e h7) h9 trivial (rk0 (by omega)) ?_;rw[jnf];simp[bod,flk,hu,h8]
    show Tr 7 _ _;unfold leaf;rcases R with(((R|R)|R)|R)|R
    .rw[if_pos R,juM R];exact h0 1 _ _ _ rfl (by decide) (by decide) rfl rfl rfl
    .rw[if_neg (by omega),if_pos R,jpZ R];exact h0 5 _ _ _ rfl (by decide) (by decide) rfl rfl rfl
    .rw[if_neg (by omega),if_neg (by omega),if_pos R,jnM R (by decide) (by decide)];exact h0 2 _ _ _ rfl (by decide) (by decide) rfl rfl rfl
    .rw[if_neg (by omega),if_neg (by omega),if_neg (by omega),if_pos R,jnM R (by decide) (by decide)];exact h0 3 _ _ _ rfl (by decide) (by decide) rfl rfl rfl
    .rw[if_neg (by omega),if_neg (by omega),if_neg (by omega),if_neg (by omega),jnM R (by decide) (by decide)];exact h0 4 _ _ _ rfl (by decide) (by decide) rfl rfl rfl
   .cases he
 |bracket=>
  simp only[jm0]at he
  split at he
  .injection he with he;injection he with A E;subst A E
   obtain⟨t,Z,U,A,rfl,rfl,rfl,rfl⟩:=hs;injection B with B;subst B
   rw[jnM A (by decide) (by decide)];exact jo5 rfl (by decide) (by decide) trivial (rk0 (by decide)) rfl
  .injection he with he;injection he with A E;subst A E
   obtain⟨O,rfl,c,rfl,Y⟩:=jnP hs;simp at B
 |rest a=>
  simp only[jm0]at he
  split at he
  .injection he with he;injection he with A E;subst A E
   obtain⟨t,O,U,A,rfl,rfl,b,rfl,K⟩:=joD hs;injection B with B;subst B
   rw[jnM A (by decide) (by decide)];refine jo5 rfl (by decide) (by decide) ⟨H.1,H.2.1,jnv H.2.2 (.inl (by decide)),K.1,Yi _,jnv K.2.2.1 (.inl (by decide)),trivial⟩ (Yi _) ?_;rw[jnf];simp[bod,pre,flk,sep,post,K.2.2.2]
  .injection he with he;injection he with A E;subst A E
   obtain⟨rfl,rfl⟩:=hs;injection B with B;subst B
   exact⟨a,rfl,H.1,Yi _,H.2.2,by simp⟩
 |cmpd a=>
  simp only[jm0]at he
  split at he
  .rename_i hc
   injection he with he;injection he with A E;subst A E
   obtain⟨t,O,U,A,rfl,rfl,b,rfl,K⟩:=joD hs;injection B with B;subst B
   simp only[jnJ,Yl,Yn]at hc;rw[jnM A (by omega) (by omega)];refine jo5 ?_ (by decide) (by decide) ⟨H.1,H.2.1,jnv H.2.2 (.inl (by decide)),K.1,K.2.1,jnv K.2.2.1 (.inl (by decide)),trivial⟩ (rk0 (by decide)) ?_
   .simp[arB];omega
   .rw[jnf];simp[bod,pre,flk,sep,post,K.2.2.2]
  .injection he with he;injection he with A E;subst A E
   obtain⟨rfl,rfl⟩:=hs;injection B with B;subst B
   exact⟨a,rfl,H.1,Ym (by decide) H.2.1,H.2.2,by simp⟩
 |terms a=>
  simp only[jm0]at he
  split at he
  .injection he with he;injection he with A E;subst A E
   obtain⟨t,O,U,A,rfl,rfl,b,rfl,K⟩:=joD hs;simp at B
  .injection he with he;injection he with A E;subst A E
   obtain⟨rfl,rfl⟩:=hs;injection B with B;subst B
   exact⟨a,rfl,H.1,H.2.1,H.2.2,by simp⟩
 |facs a=>
  simp only[jm0]at he
  split at he
  .injection he with he;injection he with A E;subst A E
   obtain⟨t,O,U,A,rfl,rfl,b,rfl,K⟩:=joD hs;simp at B
  .injection he with he;injection he with A E;subst A E
   obtain⟨rfl,rfl⟩:=hs;injection B with B;subst B
   exact⟨a,rfl,H.1,H.2.1,H.2.2,by simp⟩
 |index a=>
  simp only[jm0]at he
  split at he
  .injection he with he;injection he with A E;subst A E
   obtain⟨t,Z,U,A,rfl,rfl,v1,h5,u1,u2,rfl,rfl,⟨b,rfl,K⟩,t2,h6,u3,E,rfl,rfl,rfl,rfl⟩:=hs;simp at B
  .injection he with he;injection he with A E;subst A E
   obtain⟨rfl,rfl⟩:=hs;injection B with B;subst B
   exact⟨a,rfl,H.1,H.2.1,H.2.2,by simp⟩
 |args m az=>
  simp only[jm0]at he
  split at he
  .injection he with he;injection he with A E;subst A E
   obtain⟨O,rfl,c,rfl,Y⟩:=jnP hs;simp at B
  .injection he with he;injection he with A E;subst A E
   obtain⟨rfl,rfl⟩:=hs;injection B with B;subst B
   obtain⟨h4,W,I⟩:=H
   match az,h4,W,I with
   |[a],_,_,I=>
    exact⟨a,rfl,I.1.1,Ym (by decide) I.1.2.1,I.1.2.2,by simp[flk,sep]⟩
   |a ::b ::r,_,W,I=>
    refine jo5 ?_ (by decide) (by decide) (jrB 19 6 (by decide) (fun _=>Yy _) _ 0 I) (rk0 (by decide)) ?_
    .simp[arB]at W ⊢;omega
    .rw[jnf];simp[bod,pre,post]
 |items m az=>
  simp only[jm0]at he
  split at he
  .injection he with he;injection he with A E;subst A E
   obtain⟨t,O,U,A,rfl,rfl,b,rfl,K⟩:=joD hs;simp at B
  .injection he with he;injection he with A E;subst A E
   obtain⟨t,Z,U,A,rfl,rfl,rfl,rfl⟩:=hs;injection B with B;subst B
   rw[jnM A (by decide) (by decide)];obtain⟨h4,W,I⟩:=H
   match az,h4,W,I with
   |[a],_,_,I=>
    refine⟨brk a,rfl,jut I.1.1 I.1.2.2,by rw[ju9];exact Yy _,?_,by rw[jtN];simp[flk,sep]⟩;have:=I.1.2.2;cases a;exact this
   |a ::b ::r,_,W,I=>
    refine jo5 ?_ (fun _=>Yy _) (by decide) (jrB 7 0 (by decide) (fun _=>Yy _) _ 0 I) (by rw[rkT,if_pos (by omega)];exact Yy _) ?_
    .simp[arB]at W ⊢;omega
    .rw[jnf];simp[bod,pre,post]
 |params m xs=>
  simp only[jm0]at he
  split at he
  .injection he with he;injection he with A E;subst A E
   obtain⟨t,A,rfl,rfl⟩:=jqS hs;simp at B
  .injection he with he;injection he with A E;subst A E
   obtain⟨rfl,rfl⟩:=hs;injection B with B;subst B
   exact⟨[],by simp,Yi _,rfl⟩
 |names m xs=>
  simp only[jm0]at he
  split at he
  .injection he with he;injection he with A E;subst A E
   obtain⟨t,Z,U,A,rfl,rfl,hs⟩:=hs;obtain⟨t2,E,rfl,rfl⟩:=jqS hs;simp at B
  .injection he with he;injection he with A E;subst A E
   obtain⟨rfl,rfl⟩:=hs;injection B with B;subst B
   exact⟨[],by simp,Yi _,rfl⟩
theorem Tr.okA (h:wf c/\q<=rkT c/\c.k≠25/\fl c=u):okA q c:=⟨h.1,h.2.1,h.2.2.1⟩
theorem jzL {j':J}(O:jry j) (he:jm0 j h=some (ss,fin)) (hs:SpS ss u vs) (E:fin vs= .go j'):jry j'/\∀u2 v,SpJ j' u2 v->SpJ j (u ++u2) v:=by
 cases j with
 |expr=>
  simp only[jm0]at he
  split at he
  .injection he with he;injection he with A B;subst A B
   obtain⟨t,I,K,A,rfl,rfl,F⟩:=joD hs;simp at E
  .split at he
   .injection he with he;injection he with A B;subst A B
    obtain⟨t,R,K,A,rfl,rfl,v1,W,u1,u2,rfl,rfl,⟨a,rfl,Z⟩,t2,Y,u3,B,rfl,rfl,v2,h0,u4,u5,rfl,rfl,⟨b,rfl,H⟩,t3,h6,u6,F,rfl,rfl,hs⟩:=hs;obtain⟨v3,rfl,⟨c,rfl,U⟩⟩:=jnP hs;simp at E
   .split at he
    .injection he with he;injection he with A B;subst A B
     obtain⟨t,R,K,A,rfl,rfl,x,W,u1,hx,rfl,rfl,v1,Y,u2,u3,rfl,rfl,⟨zs,rfl,hz,rfl⟩,t2,h0,u4,B,rfl,rfl,hs⟩:=hs;obtain⟨v3,rfl,⟨c,rfl,U⟩⟩:=jnP hs;simp at E
    .injection he with he;injection he with A B;subst A B
     obtain⟨I,rfl,c,rfl,F⟩:=jnP hs;simp only at E;injection E with E;subst E
     exact⟨Tr.okA F,fun u2 v hv=>by rw[SpJ,F.2.2.2]at hv;exact hv⟩
 |lett=>
  simp only[jm0]at he
  split at he
  .injection he with he;injection he with A B;subst A B
   obtain⟨t,R,K,A,rfl,rfl,f,W,u1,k2,rfl,rfl,x,Y,u2,hx,rfl,rfl,v1,h0,u3,u4,rfl,rfl,⟨zs,rfl,hz,rfl⟩,t2,h6,u5,B,rfl,rfl,v2,h8,u6,u7,rfl,rfl,⟨a,rfl,Z⟩,t3,k1,u8,F,rfl,rfl,hs⟩:=hs;obtain⟨v3,rfl,⟨b,rfl,H⟩⟩:=jnP hs;simp at E
  .split at he
   .injection he with he;injection he with A B;subst A B
    obtain⟨t,R,K,A,rfl,rfl,x,W,u1,hx,rfl,rfl,t1,Y,u2,B,rfl,rfl,y,h0,u3,hy,rfl,rfl,v1,h6,u4,u5,rfl,rfl,⟨zs,rfl,hz,rfl⟩,t2,h8,u6,F,rfl,rfl,t3,k1,u7,h4,rfl,rfl,v2,h9,u8,u9,rfl,rfl,⟨a,rfl,Z⟩,t4,h7,u10,h5,rfl,rfl,hs⟩:=hs;obtain⟨v3,rfl,⟨b,rfl,H⟩⟩:=jnP hs;simp at E
   .injection he with he;injection he with A B;subst A B
    obtain⟨x,R,K,hx,rfl,rfl,t1,Y,u2,B,rfl,rfl,v2,h9,u8,u9,rfl,rfl,⟨a,rfl,Z⟩,t4,h7,u10,h5,rfl,rfl,hs⟩:=hs;obtain⟨v3,rfl,⟨b,rfl,H⟩⟩:=jnP hs;simp at E
 |cmp=>
  simp only[jm0]at he;injection he with he;injection he with A B;subst A B
  obtain⟨I,rfl,c,rfl,F⟩:=jnP hs;simp only at E;injection E with E;subst E
  exact⟨Tr.okA F,fun u2 v hv=>by rw[SpJ,F.2.2.2]at hv;exact hv⟩
 |sum=>
  simp only[jm0]at he;injection he with he;injection he with A B;subst A B
  obtain⟨I,rfl,c,rfl,F⟩:=jnP hs;simp only at E;injection E with E;subst E
  exact⟨⟨F.1,Ym (by decide) F.2.1,F.2.2.1⟩,fun u2 v hv=>by rw[SpJ,F.2.2.2]at hv;exact hv⟩
 |prod=>
  simp only[jm0]at he;injection he with he;injection he with A B;subst A B
  obtain⟨I,rfl,c,rfl,F⟩:=jnP hs;simp only at E;injection E with E;subst E
  exact⟨⟨F.1,Ym (by decide) F.2.1,F.2.2.1⟩,fun u2 v hv=>by rw[SpJ,F.2.2.2]at hv;exact hv⟩
 |sign=>
  simp only[jm0]at he
  split at he
  .injection he with he;injection he with A B;subst A B
   obtain⟨t,I,K,A,rfl,rfl,a,rfl,Z⟩:=joD hs;simp at E
  .split at he
   .injection he with he;injection he with A B;subst A B
    obtain⟨t,I,K,A,rfl,rfl,a,rfl,Z⟩:=joD hs;simp at E
   .injection he with he;injection he with A B;subst A B
    obtain⟨I,rfl,F⟩:=jnP hs;simp at E
 |call=>
  simp only[jm0]at he
  split at he
  .injection he with he;injection he with A B;subst A B
   obtain⟨t,I,K,A,rfl,rfl,a,rfl,Z⟩:=joD hs;simp at E
  .split at he
   .injection he with he;injection he with A B;subst A B
    obtain⟨t,I,K,A,rfl,rfl,a,rfl,Z⟩:=joD hs;simp at E
   .split at he
    .injection he with he;injection he with A B;subst A B
     obtain⟨t,R,K,A,rfl,rfl,v1,W,u1,u2,rfl,rfl,⟨a,rfl,Z⟩,hs⟩:=hs;obtain⟨v2,rfl,⟨b,rfl,H⟩⟩:=jnP hs;simp at E
    .split at he
     .injection he with he;injection he with A B;subst A B
      obtain⟨t,R,K,A,rfl,rfl,v1,W,u1,u2,rfl,rfl,⟨a,rfl,Z⟩,v2,Y,u3,u4,rfl,rfl,⟨b,rfl,H⟩,hs⟩:=hs;obtain⟨v3,rfl,⟨c,rfl,U⟩⟩:=jnP hs;simp at E
     .injection he with he;injection he with A B;subst A B
      obtain⟨I,rfl,c,rfl,F⟩:=jnP hs;simp only at E;injection E with E;subst E
      refine⟨⟨by simp,rfl,⟨F.1,F.2.1,F.2.2.1⟩,trivial⟩,fun u2 v hv=>?_⟩;have:flk 19 0 0 [c]=u:=by simp[flk,sep,F.2.2.2]
      rw[SpJ,this]at hv;exact hv
 |operand=>
  simp only[jm0]at he;injection he with he;injection he with A B;subst A B
  obtain⟨I,rfl,c,rfl,F⟩:=jnP hs;simp only at E;injection E with E;subst E
  exact⟨⟨F.1,Ym (by decide) F.2.1,F.2.2.1⟩,fun u2 v hv=>by rw[SpJ,F.2.2.2]at hv;exact hv⟩
 |atom=>
  simp only[jm0]at he
  split at he
  .injection he with he;injection he with A B;subst A B
   obtain⟨t,R,K,A,rfl,rfl,hs⟩:=hs;obtain⟨I,rfl,F⟩:=jnP hs;simp at E
  .split at he
   .injection he with he;injection he with A B;subst A B
    obtain⟨t,A,rfl,rfl⟩:=jqS hs;simp at E
   .cases he
 |bracket=>
  simp only[jm0]at he
  split at he
  .injection he with he;injection he with A B;subst A B
   simp at E
  .injection he with he;injection he with A B;subst A B
   obtain⟨I,rfl,c,rfl,F⟩:=jnP hs;simp only at E;injection E with E;subst E
   refine⟨⟨by simp,rfl,⟨F.1,F.2.1,F.2.2.1⟩,trivial⟩,fun u2 v hv=>?_⟩;have:flk 7 0 0 [c]=u:=by simp[flk,sep,F.2.2.2]
   rw[SpJ,this]at hv;exact hv
 |rest a=>
  simp only[jm0]at he
  split at he
  .injection he with he;injection he with A B;subst A B
   obtain⟨t,I,K,A,rfl,rfl,b,rfl,H⟩:=joD hs;simp at E
  .injection he with he;injection he with A B;subst A B
   simp at E
 |cmpd a=>
  simp only[jm0]at he
  split at he
  .injection he with he;injection he with A B;subst A B
   obtain⟨t,I,K,A,rfl,rfl,b,rfl,H⟩:=joD hs;simp at E
  .injection he with he;injection he with A B;subst A B
   simp at E
 |terms a=>
  simp only[jm0]at he
  split at he
  .rename_i U
   injection he with he;injection he with A B;subst A B
   obtain⟨t,I,K,A,rfl,rfl,b,rfl,H⟩:=joD hs;simp only at E;injection E with E;subst E
   simp only[jm6,Yl,Yn]at U;rw[jnM A (by omega) (by omega)];refine⟨⟨⟨?_,by decide,by decide,O.1,O.2.1,jnv O.2.2 (.inl (by decide)),H.1,H.2.1,jnv H.2.2.1 (.inl (by decide)),trivial⟩,rk0 (by decide),by simp[T.k]⟩,fun u2 v hv=>?_⟩
   .simp[arB];omega
   .rw[SpJ,jnf]at hv
    rw[SpJ];simpa[bod,pre,flk,sep,post,H.2.2.2] using hv
  .injection he with he;injection he with A B;subst A B
   simp at E
 |facs a=>
  simp only[jm0]at he
  split at he
  .rename_i U
   injection he with he;injection he with A B;subst A B
   obtain⟨t,I,K,A,rfl,rfl,b,rfl,H⟩:=joD hs;simp only at E;injection E with E;subst E
   simp only[jm5,Yl,Yn]at U;rw[jnM A (by omega) (by omega)];refine⟨⟨⟨?_,by decide,by decide,O.1,O.2.1,jnv O.2.2 (.inl (by decide)),H.1,H.2.1,jnv H.2.2.1 (.inl (by decide)),trivial⟩,rk0 (by decide),by simp[T.k]⟩,fun u2 v hv=>?_⟩
   .simp[arB];omega
   .rw[SpJ,jnf]at hv
    rw[SpJ];simpa[bod,pre,flk,sep,post,H.2.2.2] using hv
  .injection he with he;injection he with A B;subst A B
   simp at E
 |index a=>
  simp only[jm0]at he
  split at he
  .injection he with he;injection he with A B;subst A B
   obtain⟨t,R,K,A,rfl,rfl,v1,W,u1,u2,rfl,rfl,⟨b,rfl,H⟩,t2,Y,u3,B,rfl,rfl,rfl,rfl⟩:=hs;simp only at E;injection E with E;subst E
   rw[jnM A (by decide) (by decide),jnM B (by decide) (by decide)];refine⟨⟨⟨rfl,by decide,by decide,O.1,O.2.1,jnv O.2.2 (.inl (by decide)),H.1,H.2.1,jnv H.2.2.1 (.inl (by decide)),trivial⟩,rk0 (by decide),by simp[T.k]⟩,fun u2 v hv=>?_⟩;rw[SpJ,jnf]at hv;rw[SpJ];simpa[bod,pre,flk,sep,post,H.2.2.2] using hv
  .injection he with he;injection he with A B;subst A B
   simp at E
 |args m az=>
  simp only[jm0]at he
  split at he
  .rename_i U
   simp only[Yc,Yd]at U;injection he with he;injection he with A B;subst A B
   obtain⟨I,rfl,c,rfl,F⟩:=jnP hs;simp only at E;injection E with E;subst E
   refine⟨⟨by simp,by have:=O.2.1;simp;omega,(jtk 6 az [c]).2 ⟨O.2.2,⟨F.1,F.2.1,F.2.2.1⟩,trivial⟩⟩,fun u2 v hv=>?_⟩;rw[SpJ,jGq,F.2.2.2]at hv;rw[SpJ];simpa using hv
  .injection he with he;injection he with A B;subst A B
   simp at E
 |items m az=>
  simp only[jm0]at he
  split at he
  .rename_i U
   injection he with he;injection he with A B;subst A B
   obtain⟨t,I,K,A,rfl,rfl,b,rfl,H⟩:=joD hs;simp only at E;injection E with E;subst E
   rw[jnM A (by decide) (by decide)];refine⟨⟨by simp,by have:=O.2.1;simp;omega,(jtk 0 az [b]).2 ⟨O.2.2,⟨H.1,H.2.1,H.2.2.1⟩,trivial⟩⟩,fun u2 v hv=>?_⟩;rw[SpJ,flk7 az b O.1,H.2.2.2]at hv;rw[SpJ];simpa using hv
  .injection he with he;injection he with A B;subst A B
   simp at E
 |params m xs=>
  simp only[jm0]at he
  split at he
  .rename_i U
   injection he with he;injection he with A B;subst A B
   obtain⟨t,A,rfl,rfl⟩:=jqS hs;simp only at E;injection E with E;subst E
   rw[jpZ A];refine⟨trivial,fun u2 v hv=>?_⟩;obtain⟨zs,rfl,hz,rfl⟩:=hv;exact⟨t.t ::zs,by simp,by simp;omega,by simp⟩
  .injection he with he;injection he with A B;subst A B
   simp at E
 |names m xs=>
  simp only[jm0]at he
  split at he
  .rename_i U
   injection he with he;injection he with A B;subst A B
   obtain⟨t,R,K,A,rfl,rfl,hs⟩:=hs;obtain⟨t2,B,rfl,rfl⟩:=jqS hs;simp only at E;injection E with E;subst E
   rw[jnM A (by decide) (by decide),jpZ B];refine⟨trivial,fun u2 v hv=>?_⟩;obtain⟨zs,rfl,hz,rfl⟩:=hv;exact⟨t2.t ::zs,by simp,by simp;omega,by simp⟩
  .injection he with he;injection he with A B;subst A B
   simp at E
variable {l:List Tok}{o:Nat}
theorem Res.cons_ok {r:Res (List V)}(h:r.cons v= .ok vs l o):∃vs1,vs=v ::vs1/\r= .ok vs1 l o:=by
 cases r with
 |bad e p=>cases h
 |ok vs1 l1 o1=>
  simp only[Res.cons]at h;injection h with h1 h2 h3
  subst h1 h2 h3;exact⟨vs1,rfl,rfl⟩
mutual
theorem jqL {N:Nat}{ss:List St}{l:List Tok}{o:Nat}{r:Res (List V)}(H:Sq N ss l o r) (I:jr7 ss) (vs:List V) (l':List Tok) (o':Nat) (h:r= .ok vs l' o'):∃u,l=u ++l'/\SpS ss (u.map Tok.tk) vs:=by
 match H with
 | .nil l o=>
   injection h with h1 h2 h3;subst h1 h2
   exact⟨[],rfl,rfl,rfl⟩
 | .tm (t:=t) hk hs=>
   obtain⟨A,rfl,F⟩:=Res.cons_ok h;obtain⟨u,E,B⟩:=jqL hs I A l' o' F;exact⟨t ::u,by rw[E];rfl,t,A,u.map Tok.tk,hk,rfl,rfl,B⟩
 | .tmBad _=>cases h
 | .op (t:=t) hk _ hs=>
   obtain⟨A,rfl,F⟩:=Res.cons_ok h;obtain⟨u,E,B⟩:=jqL hs I A l' o' F;exact⟨t ::u,by rw[E];rfl,t,A,u.map Tok.tk,hk,rfl,rfl,B⟩
 | .opBad _=>cases h
 | .opNest _ _=>cases h
 | .cl (t:=t) hk hs=>
   obtain⟨A,rfl,F⟩:=Res.cons_ok h;obtain⟨u,E,B⟩:=jqL hs I A l' o' F;exact⟨t ::u,by rw[E];rfl,t,A,u.map Tok.tk,hk,rfl,rfl,B⟩
 | .clBad _=>cases h
 | .jb (v:=v) hj hs=>
   obtain⟨A,rfl,F⟩:=Res.cons_ok h;obtain⟨u,E,B⟩:=jqL hs I.2 A l' o' F;obtain⟨u0,O,K⟩:=jtB hj I.1 v _ _ rfl;exact⟨u0 ++u,by rw[O,E,Yu],v,A,u0.map Tok.tk,u.map Tok.tk,rfl,by simp,K,B⟩
 | .jbBad _=>cases h
theorem jtB {N:Nat}{j:J}{l:List Tok}{o:Nat}{r:Res V}(H:Jb N j l o r) (F:jry j) (v:V) (l':List Tok) (o':Nat) (h:r= .ok v l' o'):∃u,l=u ++l'/\SpJ j (u.map Tok.tk) v:=by
 match H with
 | .none _=>cases h
 | .bad _ _=>cases h
 | .out (vs:=vs) he hs hf=>
   injection h with h1 h2 h3
   obtain⟨u,E,A⟩:=jqL hs (jrd he) vs _ _ rfl;exact⟨u,by rw[E,h2],by rw[<-h1];exact jGB F he A hf⟩
 | .go (vs:=vs) he hs hf hj=>
   obtain⟨u,E,A⟩:=jqL hs (jrd he) vs _ _ rfl;obtain⟨I,K⟩:=jzL F he A hf;obtain⟨u2,O,B⟩:=jtB hj I v l' o' h;exact⟨u ++u2,by rw[E,O,Yu],by rw[Km];exact K _ _ B⟩
end
inductive X where
 |Expr|Let|Rest|Comparison|Compared|Sum|Terms|Product|Factors|Sign|Call|Operand|Index|Atom|Bracket
 |Param (m:Nat)|Name (m:Nat)|Argument (m:Nat)|Item (m:Nat)
inductive Sy where
 |tm (k:Nat)
 |nt (x:X)
def jm3 (x:X) (h:Nat):Option (List Sy):=
 match x with
 | .Expr=>if h=3 then some [.tm 3,.nt .Let] else if h=6 then some [.tm 6,.nt .Expr,.tm 7,.nt .Expr,.tm 8,.nt .Expr] else if h=9 then some [.tm 9,.tm 2,.nt (.Param 3),.tm 22,.nt .Expr] else some [.nt .Comparison,.nt .Rest]
 | .Let=>if h=4 then some [.tm 4,.tm 2,.tm 2,.nt (.Param 3),.tm 27,.nt .Expr,.tm 5,.nt .Expr] else if h=23 then some [.tm 23,.tm 2,.tm 25,.tm 2,.nt (.Name 4),.tm 24,.tm 27,.nt .Expr,.tm 5,.nt .Expr] else some [.tm 2,.tm 27,.nt .Expr,.tm 5,.nt .Expr]
 | .Rest=>if h=26 then some [.tm 26,.nt .Expr] else some []
 | .Comparison=>some [.nt .Sum,.nt .Compared]
 | .Compared=>if jnJ h then some [.tm h,.nt .Sum] else some []
 | .Sum=>some [.nt .Product,.nt .Terms]
 | .Terms=>if jm6 h then some [.tm h,.nt .Product,.nt .Terms] else some []
 | .Product=>some [.nt .Sign,.nt .Factors]
 | .Factors=>if jm5 h then some [.tm h,.nt .Sign,.nt .Factors] else some []
 | .Sign=>if h=31 then some [.tm 31,.nt .Sign] else if h=10 then some [.tm 10,.nt .Sign] else some [.nt .Call]
 | .Call=>if h=14 then some [.tm 14,.nt .Operand] else if h=15 then some [.tm 15,.nt .Operand] else if h=16 then some [.tm 16,.nt .Operand,.nt .Operand] else if h=17 then some [.tm 17,.nt .Operand,.nt .Operand,.nt .Operand] else some [.nt .Operand,.nt (.Argument 4)]
 | .Operand=>some [.nt .Atom,.nt .Index]
 | .Index=>if h=18 then some [.tm 18,.nt .Expr,.tm 24,.nt .Index] else some []
 | .Atom=>if h=23 then some [.tm 23,.nt .Bracket] else if jot h then some [.tm h] else none
 | .Bracket=>if h=24 then some [.tm 24] else some [.nt .Expr,.nt (.Item 5),.tm 24]
 | .Param m=>if h=2/\0<m then some [.tm 2,.nt (.Param (m-1))] else some []
 | .Name m=>if h=25/\0<m then some [.tm 25,.tm 2,.nt (.Name (m-1))] else some []
 | .Argument m=>if jnc h && decide (0<m) then some [.nt .Operand,.nt (.Argument (m-1))] else some []
 | .Item m=>if h=25/\0<m then some [.tm 25,.nt .Expr,.nt (.Item (m-1))] else some []
inductive MR (N:Nat):Nat->List Sy->List Tok->Nat->Option (Nat × Nat)->Prop
 |nil (l:List Tok) (o:Nat):MR N 0 [] l o none
 |nt {n:Nat}{x:X}{xs S:List Sy}{t:Tok}{l:List Tok}{o:Nat}{r:Option (Nat × Nat)}:jm3 x t.k=some xs->MR N n (xs ++S) (t ::l) o r->MR N (n+1) (.nt x ::S) (t ::l) o r
 |ntBad {x:X}{S:List Sy}{t:Tok}{l:List Tok}{o:Nat}:jm3 x t.k=none->MR N 1 (.nt x ::S) (t ::l) o (some (4,t.p))
 |tm {n k:Nat}{S:List Sy}{t:Tok}{l:List Tok}{o:Nat}{r:Option (Nat × Nat)}:t.k=k->k≠23->k≠18->k≠24->MR N n S l o r->MR N (n+1) (.tm k ::S) (t ::l) o r
 |tmBad {k:Nat}{S:List Sy}{t:Tok}{l:List Tok}{o:Nat}:t.k≠k->MR N 1 (.tm k ::S) (t ::l) o (some (4,t.p))
 |op {n k:Nat}{S:List Sy}{t:Tok}{l:List Tok}{o:Nat}{r:Option (Nat × Nat)}:t.k=k->k=23\/k=18->o<N->MR N n S l (o+1) r->MR N (n+1) (.tm k ::S) (t ::l) o r
 |opNest {k:Nat}{S:List Sy}{t:Tok}{l:List Tok}{o:Nat}:t.k=k->k=23\/k=18->N<=o->MR N 1 (.tm k ::S) (t ::l) o (some (5,t.p))
 |cl {n:Nat}{S:List Sy}{t:Tok}{l:List Tok}{o:Nat}{r:Option (Nat × Nat)}:t.k=24->MR N n S l (o-1) r->MR N (n+1) (.tm 24 ::S) (t ::l) o r
def jqK:J->List Sy
 | .expr=>[.nt .Expr]| .lett=>[.nt .Let]| .cmp=>[.nt .Comparison]| .sum=>[.nt .Sum]| .prod=>[.nt .Product]| .sign=>[.nt .Sign]| .call=>[.nt .Call]| .operand=>[.nt .Operand]| .atom=>[.nt .Atom]| .bracket=>[.nt .Bracket]
 | .rest _=>[.nt .Rest]| .cmpd _=>[.nt .Compared]| .terms _=>[.nt .Terms]| .facs _=>[.nt .Factors]| .index _=>[.nt .Index]
 | .args m _=>[.nt (.Argument m)]| .items m _=>[.nt (.Item m),.tm 24]
 | .params m _=>[.nt (.Param m)]| .names m _=>[.nt (.Name m)]
def jqA:J->X
 | .expr=>.Expr| .lett=>.Let| .cmp=>.Comparison| .sum=>.Sum| .prod=>.Product| .sign=>.Sign| .call=>.Call| .operand=>.Operand| .atom=>.Atom| .bracket=>.Bracket
 | .rest _=>.Rest| .cmpd _=>.Compared| .terms _=>.Terms| .facs _=>.Factors| .index _=>.Index
 | .args m _=>.Argument m| .items m _=>.Item m
 | .params m _=>.Param m| .names m _=>.Name m
def jq8:J->List Sy
 | .items _ _=>[.tm 24]
 |_=>[]
theorem jsf (j:J):jqK j= .nt (jqA j) ::jq8 j:=by cases j <;> rfl
def jpb:List St->List Sy
 |[]=>[]
 | .tm k ::ss=>.tm k ::jpb ss
 | .op k ::ss=>.tm k ::jpb ss
 | .cl ::ss=>.tm 24 ::jpb ss
 | .jb j ::ss=>jqK j ++jpb ss
def jrm:List St->Prop
 |[]=>True
 | .tm k ::ss=>k≠23/\k≠18/\k≠24/\jrm ss
 | .op k ::ss=>(k=23\/k=18)/\jrm ss
 |_ ::ss=>jrm ss
theorem jwo (he:jm0 j h=some (ss,fin)):jrm ss:=by
 unfold jm0 at he
 split at he <;> (try split at he) <;> (try split at he) <;> (try split at he) <;> (try split at he) <;> first
  |(simp at he;done)
  |(injection he with he;injection he with h1 _;subst h1;simp[jrm];done)
  |(rename_i A;injection he with he;injection he with h1 _;subst h1;simp only[jnJ,jm6,jm5,jot,Yl,Yn]at A;simp[jrm];omega)
theorem jGL (he:jm0 j h=none):jm3 (jqA j) h=none:=by
 unfold jm0 at he
 split at he <;> (try split at he) <;> (try split at he) <;> (try split at he) <;> (try split at he) <;> first
  |(simp at he;done)
  |(simp only[jqA,jm3];rw[if_neg (by assumption),if_neg (by assumption)])
theorem jCD {B:J}(he:jm0 j h=some (ss,fin)) (A:fin vs= .go B):∃xs,jm3 (jqA j) h=some xs/\xs ++jq8 j=jpb ss ++jqK B:=by
 unfold jm0 at he
 split at he <;> (try split at he) <;> (try split at he) <;> (try split at he) <;> (try split at he) <;> first
  |(simp at he;done)
  |(injection he with he;injection he with h1 h2;subst h1 h2;simp only at A;split at A <;> first
   |(simp[nop]at A;done)
   |(injection A with A;subst A;simp only[jqA,jm3,jq8,jpb,jqK];first
    |exact⟨_,rfl,by simp⟩
    |(rw[if_pos (by assumption)];exact⟨_,rfl,by simp⟩)
    |(rw[if_neg (by assumption)];exact⟨_,rfl,by simp⟩)
    |(rw[if_neg (by assumption),if_neg (by assumption),if_neg (by assumption)];exact⟨_,rfl,by simp⟩)
    |(rw[if_neg (by assumption),if_neg (by assumption),if_neg (by assumption),if_neg (by assumption)];exact⟨_,rfl,by simp⟩))
   |(simp at A;done))
  |(injection he with he;injection he with h1 h2;subst h1 h2;simp at A;done)
theorem jCA (he:jm0 j h=some (ss,fin)) (hs:SpS ss u vs) (E:fin vs= .out v):∃xs,jm3 (jqA j) h=some xs/\xs ++jq8 j=jpb ss:=by
 unfold jm0 at he
 split at he <;> (try split at he) <;> (try split at he) <;> (try split at he) <;> (try split at he) <;> first
  |(simp at he;done)
  |(injection he with he;injection he with A B;subst A B;obtain⟨O,rfl,c,rfl,K⟩:=jnP hs;simp at E;done)
  |(injection he with he;injection he with A B;subst A B;obtain⟨t,O,H,A,rfl,rfl,c,rfl,K⟩:=joD hs;simp at E;done)
  |(injection he with he;injection he with A B;subst A B;obtain⟨t,A,rfl,rfl⟩:=jqS hs;simp at E;done)
  |(injection he with he;injection he with A B;subst A B;obtain⟨t,F,H,A,rfl,rfl,hs⟩:=hs;obtain⟨I,B,rfl,rfl⟩:=jqS hs;simp at E;done)
  |(injection he with he;injection he with A B;subst A B;obtain⟨t,F,H,A,rfl,rfl,Y,U,u1,u2,rfl,rfl,⟨b,rfl,W⟩,I,R,u3,B,rfl,rfl,rfl,rfl⟩:=hs;simp at E;done)
  |(injection he with he;injection he with A B;subst A B;simp only[jqA,jm3,jq8,jpb,jqK];first
   |exact⟨_,rfl,by simp⟩
   |(rw[if_pos (by assumption)];exact⟨_,rfl,by simp⟩)
   |(rw[if_neg (by assumption)];exact⟨_,rfl,by simp⟩)
   |(rw[if_neg (by assumption),if_pos (by assumption)];exact⟨_,rfl,by simp⟩)
   |(rw[if_neg (by assumption),if_neg (by assumption)];exact⟨_,rfl,by simp⟩)
   |(rw[if_neg (by assumption),if_neg (by assumption),if_pos (by assumption)];exact⟨_,rfl,by simp⟩)
   |(rw[if_neg (by assumption),if_neg (by assumption),if_neg (by assumption),if_pos (by assumption)];exact⟨_,rfl,by simp⟩))
theorem jCE (he:jm0 j h=some (ss,fin)):∃xs q,jm3 (jqA j) h=some xs/\xs ++jq8 j=jpb ss ++q:=by
 unfold jm0 at he
 split at he <;> (try split at he) <;> (try split at he) <;> (try split at he) <;> (try split at he) <;> first
  |(simp at he;done)
  |(injection he with he;injection he with h1 h2;subst h1 h2;simp only[jqA,jm3,jq8,jpb,jqK];first
   |exact⟨_,_,rfl,by simp;rfl⟩
   |(rw[if_pos (by assumption)];exact⟨_,_,rfl,by simp;rfl⟩)
   |(rw[if_neg (by assumption)];exact⟨_,_,rfl,by simp;rfl⟩)
   |(rw[if_neg (by assumption),if_pos (by assumption)];exact⟨_,_,rfl,by simp;rfl⟩)
   |(rw[if_neg (by assumption),if_neg (by assumption)];exact⟨_,_,rfl,by simp;rfl⟩)
   |(rw[if_neg (by assumption),if_neg (by assumption),if_pos (by assumption)];exact⟨_,_,rfl,by simp;rfl⟩)
   |(rw[if_neg (by assumption),if_neg (by assumption),if_neg (by assumption)];exact⟨_,_,rfl,by simp;rfl⟩)
   |(rw[if_neg (by assumption),if_neg (by assumption),if_neg (by assumption),if_pos (by assumption)];exact⟨_,_,rfl,by simp;rfl⟩)
   |(rw[if_neg (by assumption),if_neg (by assumption),if_neg (by assumption),if_neg (by assumption)];exact⟨_,_,rfl,by simp;rfl⟩))
def wtX:X->Nat
 | .Expr=>15| .Let=>33| .Comparison=>14| .Sum=>13| .Product=>12| .Sign=>11| .Call=>11| .Operand=>2| .Bracket=>17
 | .Argument m=>2*m+1
 |_=>1
def wtS:List Sy->Nat
 |[]=>0
 | .tm _ ::S=>1+wtS S
 | .nt x ::S=>wtX x+wtS S
theorem jwU (a b:List Sy):wtS (a ++b)=wtS a+wtS b:=by
 induction a with
 |nil=>simp[wtS]
 |cons s a ih=>cases s <;> simp[wtS,ih] <;> omega
theorem jwT (S:List Sy):S.length<=wtS S:=by
 induction S with
 |nil=>simp[wtS]
 |cons s S ih=>
  cases s with
  |tm k=>simp[wtS];omega
  |nt x=>
   have:1<=wtX x:=by cases x <;> simp[wtX]
   simp[wtS];omega
def Bd (C:Nat) (S:List Sy) (l:List Tok):Prop:=
 wtS S+100*l.length<=C\/∃k S' t l',S= .tm k ::S'/\l=t ::l'/\t.k=k/\wtS S'+100*l'.length<=C
variable {C:Nat}{S:List Sy}
theorem Bd.len (h:Bd C S l):S.length<=C+1:=by
 rcases h with h|⟨k,S',t,l',rfl,rfl,_,h⟩
 .have:=jwT S;omega
 .have:=jwT S';simp;omega
theorem Bd.tm {k:Nat}(h:Bd C (.tm k ::S) (t ::l)):Bd C S l:=by
 rcases h with h|⟨F,S',E,l',A,B,_,h⟩
 .left;simp[wtS]at h;omega
 .injection A with _ A;injection B with _ B;subst A B;left;exact h
theorem Bd.nt {x:X}{xs:List Sy}(h:Bd C (.nt x ::S) (t ::l)) (A:jm3 x t.k=some xs):Bd C (xs ++S) (t ::l):=by
 rcases h with h|⟨I,S',H,l',F,_⟩
 .simp only[wtS,Yk]at h
  have B:wtS xs<=wtX x\/∃k ys,xs= .tm k ::ys/\t.k=k/\wtS ys<=wtX x+100:=by
   unfold jm3 at A
   split at A <;> (try split at A) <;> (try split at A) <;> (try split at A) <;> (try split at A) <;> first
    |(simp at A;done)
    |(injection A with A;subst A;left;simp[wtS,wtX];done)
    |(injection A with A;subst A;right;exact⟨_,_,rfl,by assumption,by simp[wtS,wtX]⟩)
    |(rename_i E;injection A with A;subst A;right;exact⟨_,_,rfl,E.1,by simp[wtS,wtX]⟩)
    |(injection A with A;subst A;right;exact⟨_,_,rfl,rfl,by simp[wtS,wtX]⟩)
    |(rename_i E;simp only[Yc,Yd]at E;injection A with A;subst A;left;simp[wtS,wtX];omega)
  rcases B with B|⟨k,ys,rfl,hk,K⟩
  .left;rw[jwU,Yk];omega
  .right
   refine⟨k,ys ++S,t,l,rfl,rfl,hk,?_⟩;rw[jwU];omega
 .cases F
variable {N:Nat}{r:Option (Nat × Nat)}
theorem jEI {k:Nat}(A:MR N n (.tm k ::S) (t ::l) o r) (hk:t.k=k) (h:k=23\/k=18) (B:o<N):∃n',n=n'+1/\MR N n' S l (o+1) r:=by
 cases A with
 |tm _ h1 h2 _ _=>omega
 |tmBad h=>exact absurd hk h
 |op _ _ _ h=>exact⟨_,rfl,h⟩
 |opNest _ _ h=>omega
 |cl h _=>omega
theorem jEJ {k:Nat}(A:MR N n (.tm k ::S) (t ::l) o r) (hk:t.k=k) (h:k=23\/k=18) (B:¬o<N):r=some (5,t.p):=by
 cases A with
 |tm _ h1 h2 _ _=>omega
 |tmBad h=>exact absurd hk h
 |op _ _ h _=>omega
 |opNest _ _ _=>rfl
 |cl h _=>omega
theorem jEK {k:Nat}(A:MR N n (.tm k ::S) (t ::l) o r) (hk:t.k=k) (h:k=24):∃n',n=n'+1/\MR N n' S l (o-1) r:=by
 cases A with
 |tm _ h1 h2 h3 _=>omega
 |tmBad h=>exact absurd hk h
 |op _ h _ _=>omega
 |opNest _ h _=>omega
 |cl _ h=>exact⟨_,rfl,h⟩
theorem jEH {k:Nat}(A:MR N n (.tm k ::S) (t ::l) o r) (hk:t.k=k) (h:¬(k=23\/k=18)) (B:k≠24):∃n',n=n'+1/\MR N n' S l o r:=by
 cases A with
 |tm _ h1 h2 h3 h=>exact⟨_,rfl,h⟩
 |tmBad h=>exact absurd hk h
 |op _ h' _ _=>exact absurd h' h
 |opNest _ h' _=>exact absurd h' h
 |cl h _=>exact absurd rfl B
def ndS:List Sy->Nat
 |[]=>0
 | .tm k ::S=>if k=24 then 1+ndS S else if k=23\/k=18 then ndS S-1 else ndS S
 | .nt .Bracket ::S=>1+ndS S
 | .nt _ ::S=>ndS S
theorem jyD {x:X}{k:Nat}{xs:List Sy}(A:jm3 x k=some xs):ndS (xs ++S)<=ndS (.nt x ::S):=by
 unfold jm3 at A
 split at A <;> (try split at A) <;> (try split at A) <;> (try split at A) <;> (try split at A) <;> first
  |(simp at A;done)
  |(injection A with A;subst A;simp[ndS];done)
  |(rename_i B;injection A with A;subst A;simp only[jnJ,jm6,jm5,jot,Yl,Yn]at B;simp only[Ka,Yx,ndS];rw[if_neg (by omega),if_neg (by omega)];exact Yy _)
section
variable {N:Nat}{c:T}{t t0:Tok}{l r0:List Tok}{o:Nat}
end
def pos (P:Nat->Nat->Bool):Nat->Nat->Nat->List Tk->List Nat
 |_,_,_,[]=>[]
 |d,p,i,t ::r=>
  let d1:=if isC t then d-1 else d
  (if d1=0/\P p t.k=true then[i] else[]) ++pos P (if isO t || isX t then d1+1 else d1) t.k (i+1) r
def joI:Nat->List Tk->Nat
 |p,[]=>p
 |_,t ::r=>joI t.k r
theorem jqw (x y:List Tk):∀p,joI p (x ++y)=joI (joI p x) y:=by
 induction x with
 |nil=>intro p;rfl
 |cons t r ih=>intro p;simp[joI,ih]
theorem jpG (P:Nat->Nat->Bool) (x y:List Tk):∀d e p i,dep d x=some e->pos P d p i (x ++y)=pos P d p i x ++pos P e (joI p x) (i+x.length) y:=by
 induction x with
 |nil=>intro d e p i h;simp[dep]at h;subst h;simp[pos,joI]
 |cons t r ih=>
  intro d e p i h;simp only[Ka,pos,joI,Yk,dep]at *
  by_cases B:(isO t || isX t)=true
  .have A:isC t=false:=by
    rw[Yl]at B;rcases B with h|h
    .simp[isO]at h;simp[isC,h]
    .exact(jvW h).2
   rw[if_pos B]at h;rw[B,A];simp only[if_true,Kr,if_false];rw[ih (d+1) e t.k (i+1) h,show i+1+r.length=i+(r.length+1) by omega];simp
  .have ho':(isO t || isX t)=false:=by simpa using B
   rw[if_neg B]at h;rw[ho'];simp only[Kr,if_false]
   by_cases A:isC t=true
   .rw[if_pos A]at h
    cases d with
    |zero=>simp at h
    |succ d=>
     simp only at h;rw[A];simp only[if_true,Nat.add_sub_cancel];rw[ih d e t.k (i+1) h,show i+1+r.length=i+(r.length+1) by omega];simp
   .rw[if_neg A]at h
    rw[show isC t=false by simpa using A];simp only[Kr,if_false];rw[ih d e t.k (i+1) h,show i+1+r.length=i+(r.length+1) by omega];simp
theorem jrL (P:Nat->Nat->Bool) (x:List Tk):∀d e p i,dep d x=some e->pos P (d+1) p i x=[]:=by
 induction x with
 |nil=>intro d e p i h;rfl
 |cons t r ih=>
  intro d e p i h;simp only[pos,dep]at *
  by_cases B:(isO t || isX t)=true
  .have A:isC t=false:=by
    rw[Yl]at B;rcases B with h|h
    .simp[isO]at h;simp[isC,h]
    .exact(jvW h).2
   rw[if_pos B]at h;rw[B,A];simp only[if_true,Kr,if_false];rw[ih (d+1) e t.k (i+1) h];simp
  .have ho':(isO t || isX t)=false:=by simpa using B
   rw[if_neg B]at h;rw[ho'];simp only[Kr,if_false]
   by_cases A:isC t=true
   .rw[if_pos A]at h
    cases d with
    |zero=>simp at h
    |succ d=>
     simp only at h;rw[A];simp only[if_true,Nat.add_sub_cancel];rw[ih d e t.k (i+1) h];simp
   .rw[if_neg A]at h
    rw[show isC t=false by simpa using A];simp only[Kr,if_false];rw[ih d e t.k (i+1) h];simp
variable {x:List Tk}
theorem Bal.pos (h:Bal x) (P:Nat->Nat->Bool) (p i:Nat) (y:List Tk):pos P 0 p i (x ++y)=pos P 0 p i x ++pos P 0 (joI p x) (i+x.length) y:=jpG P x y 0 0 p i (h.dep 0)
theorem jyb {P:Nat->Nat->Bool}(x:List Tk) (h:∀t ∈ x,∀p,P p t.k=false):∀d p i,pos P d p i x=[]:=by
 induction x with
 |nil=>intro d p i;rfl
 |cons t r ih=>
  intro d p i;simp only[pos];rw[ih (fun u hu=>h u (by simp[hu])),h t (by simp) p];simp
theorem jvg {P:Nat->Nat->Bool}(h:Bal x) (b p i:Nat) (E:∀p,P p 23=false) (A:∀p,P p 24=false):pos P 0 p i (List.replicate (b+1) oB ++(x ++List.replicate (b+1) cB))=[]:=by
 have B:=h.wrap b
 have e:List.replicate (b+1) oB ++(x ++List.replicate (b+1) cB)=oB ::((List.replicate b oB ++(x ++List.replicate b cB)) ++[cB]):=by
  rw[List.replicate_succ,List.replicate_succ' (n:=b) (a:=cB)];simp
 rw[e]
 have F:pos P 1 23 (i+1) ((List.replicate b oB ++(x ++List.replicate b cB)) ++[cB])=[]:=by
  rw[jpG P _ _ 1 1 23 (i+1) (B.dep 1),jrL P _ 0 0 23 (i+1) (B.dep 0)];simp only[Yx,pos];rw[show cB.k=24 from rfl,A];simp
 simp only[pos];rw[show oB.k=23 from rfl,E];simp only[Kr,and_false,if_false,Yx];exact F
def Quiet (f:Nat->Bool) (x:List Tk):Prop:=∀p i,pos (fun _ k=>f k) 0 p i x=[]
variable {f:Nat->Bool}
theorem jvc (h:∀t ∈ x,f t.k=false):Quiet f x:=fun p i=>jyb x (fun t ht _=>h t ht) 0 p i
variable {y:List Tk}
theorem jvd (hd:∀d,dep d x=some d) (B:Quiet f x) (A:Quiet f y):Quiet f (x ++y):=fun p i=>by
 rw[jpG _ _ _ 0 0 p i (hd 0),B p i,A];rfl
theorem jte (P:Nat->Nat->Bool) (p i:Nat) (z:List Tk):pos P 0 p i (Tk.of 18 ::z)=(if P p 18=true then[i] else[]) ++pos P 1 18 (i+1) z:=by
 simp[pos,isO,isC,isX,Tk.of]
theorem jsk (P:Nat->Nat->Bool) (p i:Nat):pos P 1 p i [cB]=if P p 24=true then[i] else[]:=by
 simp[pos,isC,isO,isX,Tk.of]
theorem jDG (B:f 18=false) (E:f 24=false) (F:Bal x) (A:Bal y) (H:Quiet f x):Quiet f (x ++(Tk.of 18 ::(y ++[cB]))):=fun p i=>by
 rw[jpG _ _ _ 0 0 p i (F.dep 0),H p i,Yx,jte,jpG _ _ _ 1 1 _ _ (A.dep 1),jrL _ _ 0 0 _ _ (A.dep 0),jsk];simp[B,E]
theorem jx6 {f:Nat->Bool}{k s m:Nat}{xs:List ByteArray}(B:arB k s xs m=true) (hk:k≠20) (A:∀i,∀t ∈ sep k s i,f t.k=false):∀(l:List T) (i:Nat),jok l->(∀c ∈ l,Quiet f (fl c))->Quiet f (flk k s i l)
 |[],_,_,_=>jvc (by simp[flk])
 |c ::r,i,hf,hq=>by
  rw[flk];refine jvd (jzY B hk i) (jvc (A i)) ?_;exact jvd (jnN c hf.1).dep (hq c (by simp)) (jx6 B hk A r (i+1) hf.2 (fun d hd=>hq d (by simp[hd])))
theorem jsQ {k:Nat}:∀(l:List T) (i:Nat),wfs k i l->∀c ∈ l,∃j,i<=j/\j<i+l.length/\wf c/\wanted k j<=rkT c/\(c.k=25↔(k=10/\j=0))
 |[],_,_,c,A=>by simp at A
 |d ::r,i,h,c,A=>by
  rcases Kk.1 A with rfl|A
  .exact⟨i,Yy _,by simp,h.1,h.2.1,h.2.2.1⟩
  .obtain⟨j,h1,h2,h3⟩:=jsQ r (i+1) h.2.2.2 c A
   exact⟨j,by omega,by simp;omega,h3⟩
theorem jx5 (f:Nat->Bool) (A:Nat->Bool) (Z:f 23=false) (W:f 24=false) (h4:f 18=false)
 (U:∀k s n xs m,A k=true->arB k s xs m=true->∀t ∈ pre k s n xs,f t.k=false)
 (R:∀k s xs m i,A k=true->arB k s xs m=true->∀t ∈ sep k s i,f t.k=false)
 (K:∀k s xs m i c,A k=true->arB k s xs m=true->i<m->wf c->wanted k i<=rkT c->(c.k=25↔(k=10/\i=0))->¬(k=20/\i=1)->1<=c.br\/A c.k=true) :
 ∀(m:Nat) (c:T),SizeOf.sizeOf c<=m->wf c->(1<=c.br\/A c.k=true)->Quiet f (fl c):=by
 intro m
 induction m with
 |zero=>intro c h;cases c;simp at h
 |succ m ih=>
  intro c hs B hA
  cases c with
  |nd b k s n xs kids=>
   have h6:=B;rw[wf]at B;have h5:Bal (bod k s n xs kids):=jqG B.1 (jp9 _ _ _ B.2.2.2);rw[jnf]
   cases b with
   |succ b=>exact fun p i=>jvg h5 b p i (fun _=>Z) (fun _=>W)
   |zero=>
    have O:A k=true:=by
     rcases hA with h|h
     .simp[T.br]at h
     .exact h
    simp only[List.replicate_zero,Yx,Kd];unfold bod
    have I:∀c ∈ kids,(∃j,j<kids.length/\wanted k j<=rkT c/\(c.k=25↔(k=10/\j=0))/\¬(k=20/\j=1))->wf c->Quiet f (fl c):=by
     intro c Y ⟨j,h0,h1,h2,h3⟩ H;have h7:=List.sizeOf_lt_of_mem Y;exact ih c (by simp at hs;omega) H (K k s xs _ j c O B.1 h0 H h1 h2 h3)
    refine jvd (jwu k s n xs) (jvc (U k s n xs _ O B.1)) ?_
    by_cases F:k=20
    .subst F
     have hm:kids.length=2:=by have:=B.1;simp[arB]at this;exact this.1
     match kids,hm,B,I with
     |[a,b],_,B,I=>
      have E:=B.2.2.2;have:=jDG h4 W (jnN a (jnD a E.1)) (jnN b (jnD b E.2.2.2.1)) (I a (by simp) ⟨0,by simp,E.2.1,E.2.2.1,by omega⟩ E.1);simpa[flk,sep,post] using this
    .have hp:post k=[]:=by unfold post;rw[if_neg F]
     rw[hp,Kd];refine jx6 B.1 F (fun i=>R k s xs _ i O B.1) kids 0 (jp9 _ _ _ B.2.2.2) ?_;intro c Y;obtain⟨j,_,hj,H,h1,h2⟩:=jsQ kids 0 B.2.2.2 c Y;exact I c Y ⟨j,by omega,h1,h2,fun e=>F e.1⟩ H
variable {c:T}
theorem jy2 {k i:Nat}{q:Nat}(B:wf c) (A:q<=rkT c):1<=c.br\/(q<=rk c.k/\c.k≠7):=by
 cases c with
 |nd b k s n xs kids=>
  rw[wf]at B
  cases b with
  |succ b=>left;simp[T.br]
  |zero=>
   right
   rw[rkT,if_neg (by omega)]at A;refine⟨A,fun e=>?_⟩;have:=B.2.1 e;omega
variable {s m:Nat}{xs:List ByteArray}
theorem jx9 {k n:Nat}(B:arB k s xs m=true) (F:1<=rk k):∀t ∈ pre k s n xs,t.k=1\/t.k=2\/(10<=t.k/\t.k<=17)\/t.k=23\/t.k=24\/t.k=25\/(t.k=31/\k=13):=by
 have E:∀ys:List ByteArray,∀x ∈ jnt ys,x.k=2\/x.k=25:=by
  intro ys
  induction ys with
  |nil=>intro x A;simp[jnt]at A
  |cons y q ih=>
   cases q with
   |nil=>intro x A;simp[jnt]at A;subst A;simp[jnb]
   |cons y2 q=>
    intro x A;simp only[jnt,Kk]at A;rcases A with rfl|rfl|A
    .simp[jnb]
    .simp[Tk.of]
    .exact ih x A
 intro t ht;unfold arB at B;unfold pre at ht
 split at B <;> first
  |(simp[rk]at F;done)
  |(simp at ht;done)
  |(simp at B;done)
  |(simp at ht;subst ht;simp[Tk.of,jp2];done)
  |(simp at ht;rcases ht with rfl|rfl <;> simp[Tk.of];done)
  |(simp only[Uh]at ht;obtain⟨y,_,rfl⟩:=ht;simp[jnb];done)
  |(rcases E xs t ht with h|h <;> simp[h];done)
variable {i:Nat}
theorem jCu {k:Nat}(A:arB k s xs m=true) (B:1<=rk k) (E:k≠7):∀t ∈ sep k s i,(t.k=18/\k=20)\/(t.k=s/\jm5 s=true/\k=15)\/(t.k=s/\jm6 s=true/\k=16)\/(t.k=s/\jnJ s=true/\k=17):=by
 intro t ht
 cases i with
 |zero=>simp[sep]at ht
 |succ i=>
  unfold arB at A;unfold sep at ht
  split at A <;> first
   |(simp[rk]at B;done)
   |(simp at ht;done)
   |(exact absurd rfl E)
   |(simp at A;done)
   |(simp only[Yc,Yn,Yf]at A;simp at ht;subst ht;simp[Tk.of,jm5,jm6,jnJ,A.2];done)
   |(simp at ht;subst ht;simp[Tk.of])
theorem juv {k:Nat}(A:arB k s xs m=true) (hi:i<m) (H:1<=rk k) (F:k≠7) (B:¬(k=20/\i=1)):1<=wanted k i/\True/\(4<=rk k->4<=wanted k i)/\(5<=rk k->6<=wanted k i)/\2<=wanted k i:=by
 unfold arB at A
 split at A <;> first
  |(simp[rk]at H;done)
  |exact absurd rfl F
  |(simp at A;omega)
  |(simp at A;done)
  |(simp[rk,wanted];done)
  |(have I:m=2:=by simp at A;exact A.1
    have E:i=0:=by simp at B;omega
    subst E;simp[rk,wanted];done)
  |(simp[rk,wanted];split <;> omega)
theorem jvx (f:Nat->Bool) (q:Nat) (F:q=1\/q=2\/q=4) (H:∀k,f k=true->(q=1/\k=26)\/(q=2/\jnJ k=true)\/(q=4/\jm5 k=true)) (E:wf c) (I:q<=rkT c):Quiet f (fl c):=by
 have A:∀k,¬((q=1/\k=26)\/(q=2/\jnJ k=true)\/(q=4/\jm5 k=true))->f k=false:=by
  intro k h
  cases hk :f k with
  |false=>rfl
  |true=>exact absurd (H k hk) h
 refine jx5 f (fun k=>decide (q<=rk k) && k != 7) (A 23 (by simp[jnJ,jm5])) (A 24 (by simp[jnJ,jm5])) (A 18 (by simp[jnJ,jm5])) ?_ ?_ ?_ _ c (Yy _) E ?_
 .intro k s n xs m hA ha t ht
  simp only[Yc,Yd]at hA;have:=jx9 ha (by omega) t ht;refine A _ ?_;simp[jnJ,jm5];omega
 .intro k s xs m i hA ha t ht
  simp only[Yc,Yd,bne_iff_ne]at hA;have:=jCu ha (by omega) hA.2 t ht;refine A _ ?_;have hk:=hA.1
  rcases this with⟨h,_⟩|⟨h,B,rfl⟩|⟨h,B,rfl⟩|⟨h,B,rfl⟩
  .simp[jnJ,jm5,h]
  .rw[h];simp[jnJ,jm5]at B ⊢;simp[rk]at hk;omega
  .rw[h];simp[jnJ,jm5,jm6]at B ⊢;simp[rk]at hk;omega
  .rw[h];simp[jnJ,jm5]at B ⊢;simp[rk]at hk;omega
 .intro k s xs m i c hA ha hi hcw hqc h25 h20
  simp only[Yc,Yd,bne_iff_ne]at hA ⊢;have:=juv ha hi (by omega) hA.2 h20;refine jy2 (k:=k) (i:=i) hcw (Ym ?_ hqc);rcases F with rfl|rfl|rfl
  .exact this.1
  .exact this.2.2.2.2
  .exact this.2.2.1 hA.1
 .have:=jy2 (k:=0) (i:=0) E I
  simpa using this
theorem jyy (A:wf c) (B:1<=rkT c):Quiet (fun k=>k == 26) (fl c):=jvx _ 1 (.inl rfl) (fun k h=>by simp at h;exact .inl ⟨rfl,h⟩) A B
theorem jvz (A:wf c) (B:2<=rkT c):Quiet jnJ (fl c):=jvx _ 2 (.inr (.inl rfl)) (fun k h=>.inr (.inl ⟨rfl,h⟩)) A B
theorem jyz (A:wf c) (B:4<=rkT c):Quiet jm5 (fl c):=jvx _ 4 (.inr (.inr rfl)) (fun k h=>.inr (.inr ⟨rfl,h⟩)) A B
theorem jvy (A:wf c) (B:c.k=25->1<=c.br):Quiet (fun k=>k == 25) (fl c):=by
 have F:∀c:T,wf c->1<=c.br\/(c.k != 7 && c.k != 25)=true:=by
  intro c A
  cases c with
  |nd b k s n xs kids=>
   rw[wf]at A
   by_cases I:k=7
   .left;exact A.2.1 I
   .by_cases B:k=25
    .left;have:=A.2.2.1 B;simp[T.br];omega
    .right;simp[T.k,I,B]
 refine jx5 (fun k=>k == 25) (fun k=>k != 7 && k != 25) rfl rfl rfl ?_ ?_ ?_ _ c (Yy _) A (F c A)
 .intro k s n xs m hA ha t ht
  simp only[Yc,bne_iff_ne]at hA
  have E:∀x ∈ xs.map jnb,x.k≠25:=by
   intro x H;rw[Uh]at H;obtain⟨y,_,rfl⟩:=H;simp[jnb]
  have:t.k≠25:=by
   unfold pre at ht
   split at ht <;> first
    |(simp at ht;subst ht;simp[jp2,Tk.of];done)
    |(simp at ht;rcases ht with rfl|rfl <;> simp[Tk.of];done)
    |exact E t ht
    |exact absurd rfl hA.2
    |(simp only[Kk,Yq,List.not_mem_nil,or_false]at ht
      rcases ht with rfl|rfl|ht|rfl <;> first|exact E t ht|simp[Tk.of])
    |(simp only[Kk,Yq,List.not_mem_nil,or_false]at ht
      rcases ht with rfl|ht|rfl <;> first|exact E t ht|simp[Tk.of])
    |(simp at ht;done)
  simpa using this
 .intro k s xs m i hA ha t ht
  simp only[Yc,bne_iff_ne]at hA
  have:t.k≠25:=by
   cases i with
   |zero=>simp[sep]at ht
   |succ i=>
    unfold arB at ha;unfold sep at ht
    split at ha <;> first
     |(simp at ht;done)
     |exact absurd rfl hA.1
     |(simp at ht;subst ht;simp[Tk.of];done)
     |(simp at ht;subst ht;simp at ha;simp[Tk.of];omega)
     |(simp only at ht;split at ht <;> (simp at ht;subst ht;simp[Tk.of]))
     |(simp at ha;done)
  simpa using this
 .intro k s xs m i c hA ha hi hcw _ _ _
  exact F c hcw
def ended (k:Nat):Bool:=jot k || k == 24
def jpm (p k:Nat):Bool:=jm6 k && ended p
theorem jqf (P:Nat->Nat->Bool) {t:Tk}(B:t.k≠23) (E:t.k≠24) (A:t.k≠18) (p i:Nat) (r:List Tk):pos P 0 p i (t ::r)=(if P p t.k=true then[i] else[]) ++pos P 0 t.k (i+1) r:=by
 simp[pos,isO,isC,isX,B,E,A]
theorem jwH {k:Nat}(h:arB k s xs m=true) (hk:k<=6):m=0/\rk k=7:=by
 unfold arB at h
 split at h <;> first
  |omega
  |(simp at h;exact⟨h.1,rfl⟩)
  |(simp at h;done)
theorem jyx:∀(m:Nat) (c:T),SizeOf.sizeOf c<=m->wf c->c.k≠25->3<=rkT c->∀p i,(5<=rkT c\/ended p=false)->pos jpm 0 p i (fl c)=[]:=by
 intro m
 induction m with
 |zero=>intro c h;cases c;simp at h
 |succ m ih=>
  intro c hs A k7 hr p i hp
  cases c with
  |nd b k s n xs kids=>
   have k8:=A;rw[wf]at A;have h0:Bal (bod k s n xs kids):=jqG A.1 (jp9 _ _ _ A.2.2.2);rw[jnf]
   cases b with
   |succ b=>exact jvg h0 b p i (fun _=>rfl) (fun _=>rfl)
   |zero=>
    rw[rkT,if_neg (by omega)]at hr hp;simp only[List.replicate_zero,Yx,Kd];unfold bod;have E:=A.1
    have h7:∀(l:List T) (j:Nat),wfs k j l->(∀d ∈ l,SizeOf.sizeOf d<=m)->(∀q,wanted k q=6)->(∀q,sep k s q=[])->k≠10->∀p i,pos jpm 0 p i (flk k s j l)=[]:=by
     intro l
     induction l with
     |nil=>intro j _ _ _ _ _ p i;rfl
     |cons d r ihl=>
      intro j R h2 h3 h4 h5 p i;have k9:6<=rkT d:=by have:=R.2.1;rw[h3]at this;exact this
      have h6:d.k≠25:=fun e=>h5 (R.2.2.1.1 e).1;have Y:=jnN d (jnD d R.1);rw[flk,h4,Yx,jpG _ _ _ 0 0 p i (Y.dep 0),ih d (h2 d (by simp)) R.1 h6 (by omega) p i (.inl (by omega)),ihl (j+1) R.2.2.2 (fun x hx=>h2 x (by simp[hx])) h3 h4 h5];rfl
    have B:∀d ∈ kids,SizeOf.sizeOf d<=m:=by
     intro d hd;have:=List.sizeOf_lt_of_mem hd;simp at hs;omega
    have H:∀q,(Tk.of q).k=q:=fun _=>rfl
    by_cases k5:k=15
    .subst k5
     simp only[arB,Yc,Yn,Yf]at E;obtain⟨⟨e1,_⟩,e3⟩:=E
     match kids,e1,A,B with
     |[a,b],_,A,B=>
      have I:=A.2.2.2.1;have wb:=A.2.2.2.2.2.2.1;have ra:3<=rkT a:=A.2.2.2.2.1;have rb:4<=rkT b:=A.2.2.2.2.2.2.2.1;have F:a.k≠25:=fun e=>by have:=(A.2.2.2.2.2.1.1 e).1;omega
      have k2:b.k≠25:=fun e=>by have:=(A.2.2.2.2.2.2.2.2.1.1 e).1;omega
      have O:ended p=false:=by rcases hp with h|h;simp[rk]at h;exact h
      have Y:=jnN a (jnD a I);simp only[pre,flk,sep,post,Yx,Kd,Ka];rw[if_neg (by decide),Kd,jpG _ _ _ 0 0 p i (Y.dep 0),ih a (B a (by simp)) I F ra p i (.inr O)];have U:(s=32\/s=33)\/s=34:=by simpa[or_assoc] using e3
      have h8:ended s=false:=by rcases U with(rfl|rfl)|rfl <;> rfl
      have k4:jpm (joI p (fl a)) s=false:=by rcases U with(rfl|rfl)|rfl <;> rfl
      rw[jqf _ (by rw[H];omega) (by rw[H];omega) (by rw[H];omega),H,ih b (B b (by simp)) wb k2 (by omega) _ _ (.inr h8)];simp[k4]
    .by_cases h20:k=20
     .subst h20
      have Z:kids.length=2:=by simp[arB]at E;exact E.1
      match kids,Z,A,B with
      |[a,b],_,A,B=>
       have I:=A.2.2.2.1;have wb:=A.2.2.2.2.2.2.1;have ra:6<=rkT a:=A.2.2.2.2.1;have F:a.k≠25:=fun e=>by have:=(A.2.2.2.2.2.1.1 e).1;omega
       have h9:=jnN a (jnD a I);have W:=jnN b (jnD b wb);simp only[pre,flk,sep,post,Yx,Kd,Ka];rw[if_pos trivial,Yu,jpG _ _ _ 0 0 p i (h9.dep 0),ih a (B a (by simp)) I F (by omega) p i (.inl (by omega)),Yx,Ka,jte,jpG _ _ _ 1 1 _ _ (W.dep 1),jrL _ _ 0 0 _ _ (W.dep 0),jsk];simp[jpm,jm6]
     .have hpo:post k=[]:=by unfold post;rw[if_neg h20]
      rw[hpo,Kd]
      by_cases K:k=13\/k=14
      .have O:ended p=false:=by
        rcases hp with h|h
        .rcases K with rfl|rfl <;> simp[rk]at h
        .exact h
       have Z:kids.length=1:=by rcases K with rfl|rfl <;> (simp[arB]at E;exact E.1)
       match kids,Z,A,B with
       |[a],_,A,B=>
        have I:=A.2.2.2.1;have ra:4<=rkT a:=by have:=A.2.2.2.2.1;rcases K with rfl|rfl <;> exact this
        have F:a.k≠25:=fun e=>by have:=(A.2.2.2.2.2.1.1 e).1;omega
        rcases K with rfl|rfl
        .simp only[pre,flk,sep,Yx,Kd,Ka]
         rw[jqf _ (by decide) (by decide) (by decide),H,ih a (B a (by simp)) I F (by omega) _ _ (.inr rfl)];simp[jpm,O]
        .simp only[pre,flk,sep,Yx,Kd,Ka]
         rw[jqf _ (by decide) (by decide) (by decide),H,ih a (B a (by simp)) I F (by omega) _ _ (.inr rfl)];simp[jpm,jm6]
      .by_cases hca:k=19\/k=21\/k=22\/k=23\/k=24
       .have hkq:=h7 kids 0 A.2.2.2 B (by intro q;rcases hca with rfl|rfl|rfl|rfl|rfl <;> rfl) (by intro q;cases q <;> (rcases hca with rfl|rfl|rfl|rfl|rfl <;> rfl)) (by omega)
        rcases hca with rfl|rfl|rfl|rfl|rfl
        .simpa[pre] using hkq p i
        all_goals
         simp only[pre,Ka,Yx];rw[jqf _ (by decide) (by decide) (by decide),hkq];simp[jpm,jm6,Tk.of]
       .have hk6:k<=6:=by
         have q4:k≠7:=fun e=>by have:=A.2.1 e;omega
         unfold arB at E
         split at E <;> first
          |omega
          |(simp[rk]at hr;done)
          |exact absurd rfl k7
          |(simp at E;done)
        obtain⟨k1,q5⟩:=jwH E hk6;have:kids=[]:=Yh k1;subst this;simp only[flk,Kd];refine jyb _ (fun t ht q=>?_) 0 p i;have:=jx9 E (by omega) t ht;simp[jpm,jm6];omega
theorem jFi (x:List Tk) (b p:Nat):joI p (List.replicate (b+1) oB ++(x ++List.replicate (b+1) cB))=24:=by
 rw[jqw,jqw,List.replicate_succ' (n:=b) (a:=cB),jqw];rfl
theorem jzH (k s:Nat):∀(l:List T) (i:Nat),jok l->l≠[]->∃c,c ∈ l/\∀p,∃q,joI p (flk k s i l)=joI q (fl c)
 |[],_,_,h=>absurd rfl h
 |c ::r,i,hf,_=>by
  cases r with
  |nil=>exact⟨c,by simp,fun p=>⟨joI p (sep k s i),by rw[flk,flk,Kd,jqw]⟩⟩
  |cons d q=>
   obtain⟨e,he,h⟩:=jzH k s (d ::q) (i+1) hf.2 (by simp);refine⟨e,by simp at he ⊢;exact .inr he,fun p=>?_⟩;rw[flk,jqw,jqw];exact h _
theorem jFh:∀(m:Nat) (c:T),SizeOf.sizeOf c<=m->wf c->c.k≠25->1<=rkT c->∀p,ended (joI p (fl c))=true:=by
 intro m
 induction m with
 |zero=>intro c h;cases c;simp at h
 |succ m ih=>
  intro c hs B W H p
  cases c with
  |nd b k s n xs kids=>
   rw[wf]at B;rw[jnf]
   cases b with
   |succ b=>rw[jFi];rfl
   |zero=>
    rw[rkT,if_neg (by omega)]at H;simp only[List.replicate_zero,Yx,Kd];unfold bod;have Y:=jp9 _ _ _ B.2.2.2;have O:k≠7:=fun e=>by have:=B.2.1 e;omega
    by_cases E:k=20
    .subst E
     rw[jqw,jqw];rfl
    .have hpo:post k=[]:=by unfold post;rw[if_neg E]
     rw[hpo,Kd,jqw]
     by_cases I:kids=[]
     .subst I
      simp only[flk,joI]
      have h0:k<=6:=by
       have A:=B.1;unfold arB at A
       split at A <;> first
        |omega
        |(simp[rk]at H;done)
        |(simp at A;done)
        |exact absurd rfl W
      have A:=B.1;unfold arB at A;unfold pre
      split at A <;> first
       |rfl
       |omega
       |(simp at A;match xs,A with|[x],_=>rfl)
       |(simp at A;done)
     .obtain⟨c,hc,h⟩:=jzH k s kids 0 Y I
      obtain⟨q,Z⟩:=h (joI p (pre k s n xs));rw[Z];obtain⟨j,_,hj,U,R,K⟩:=jsQ kids 0 B.2.2.2 c hc;have h1:=List.sizeOf_lt_of_mem hc
      have F:c.k≠25:=fun e=>by
       have:=(K.1 e).1;subst this;simp[rk]at H
      have:=juv B.1 (show j<kids.length by omega) H O (fun e=>E e.1);exact ih c (by simp at hs;omega) U F (Ym this.1 R) q
def jpe (_ k:Nat):Bool:=k != 24 && k != 18
theorem jDO (h:Bal x) (b p i:Nat):pos jpe 0 p i (List.replicate (b+1) oB ++(x ++List.replicate (b+1) cB))=[i]:=by
 have A:=h.wrap b
 have e:List.replicate (b+1) oB ++(x ++List.replicate (b+1) cB)=oB ::((List.replicate b oB ++(x ++List.replicate b cB)) ++[cB]):=by
  rw[List.replicate_succ,List.replicate_succ' (n:=b) (a:=cB)];simp
 rw[e]
 have B:pos jpe 1 23 (i+1) ((List.replicate b oB ++(x ++List.replicate b cB)) ++[cB])=[]:=by
  rw[jpG _ _ _ 1 1 23 (i+1) (A.dep 1),jrL _ _ 0 0 23 (i+1) (A.dep 0),jsk];rfl
 have E:pos jpe 0 p i (oB ::((List.replicate b oB ++(x ++List.replicate b cB)) ++[cB]))=[i] ++pos jpe 1 23 (i+1) ((List.replicate b oB ++(x ++List.replicate b cB)) ++[cB]):=by
  simp[pos,isO,isC,isX,Tk.of,jpe]
 rw[E,B];rfl
theorem jti:∀(m:Nat) (c:T),SizeOf.sizeOf c<=m->wf c->c.k≠25->6<=rkT c->∀p i,pos jpe 0 p i (fl c)=[i]:=by
 intro m
 induction m with
 |zero=>intro c h;cases c;simp at h
 |succ m ih=>
  intro c hs A O W p i
  cases c with
  |nd b k s n xs kids=>
   rw[wf]at A;have F:Bal (bod k s n xs kids):=jqG A.1 (jp9 _ _ _ A.2.2.2);rw[jnf]
   cases b with
   |succ b=>exact jDO F b p i
   |zero=>
    rw[rkT,if_neg (by omega)]at W;simp only[List.replicate_zero,Yx,Kd];have Z:k≠7:=fun e=>by have:=A.2.1 e;omega
    by_cases H:k=20
    .subst H
     have Y:kids.length=2:=by have:=A.1;simp[arB]at this;exact this.1
     match kids,Y,A with
     |[a,b],_,A=>
      have U:=A.2.2.2.1;have wb:=A.2.2.2.2.2.2.1;have ra:6<=rkT a:=A.2.2.2.2.1;have K:a.k≠25:=fun e=>by have:=(A.2.2.2.2.2.1.1 e).1;omega
      have I:=jnN a (jnD a U);have E:=jnN b (jnD b wb);have e:bod 20 s n xs [a,b]=fl a ++(Tk.of 18 ::(fl b ++[cB])):=by simp[bod,pre,flk,sep,post]
      rw[e,jpG _ _ _ 0 0 p i (I.dep 0),ih a (by simp at hs;omega) U K ra p i,jte,jpG _ _ _ 1 1 _ _ (E.dep 1),jrL _ _ 0 0 _ _ (E.dep 0),jsk];rfl
    .have hk6:k<=6:=by
      have B:=A.1;unfold arB at B
      split at B <;> first
       |omega
       |(simp[rk]at W;done)
       |exact absurd rfl O
       |(simp at B;done)
     obtain⟨R,_⟩:=jwH A.1 hk6;have:kids=[]:=Yh R;subst this;have B:=A.1;unfold arB at B
     split at B <;> first
      |rfl
      |omega
      |(simp at B;match xs,B with|[x],_=>rfl)
      |(simp at B;done)
def mt (op cl:Nat):Nat->List Tk->Nat
 |_,[]=>0
 |n,t ::r=>if t.k=cl then(if n=0 then 0 else 1+mt op cl (n-1) r) else if t.k=op then 1+mt op cl (n+1) r else 1+mt op cl n r
def joc (op cl:Nat) (x:List Tk):Prop:=∀n r,mt op cl n (x ++r)=x.length+mt op cl n r
variable {op cl:Nat}
theorem jo8 (h:∀t ∈ x,t.k≠op/\t.k≠cl):joc op cl x:=by
 induction x with
 |nil=>intro n r;simp
 |cons t q ih=>
  intro n r;have A:=h t (by simp);rw[Ka,mt,if_neg A.2,if_neg A.1,ih (fun u hu=>h u (by simp[hu]))];simp;omega
theorem jn9 (A:joc op cl x) (B:joc op cl y):joc op cl (x ++y):=by
 intro n r;rw[Yu,A,B];simp;omega
theorem jsB {a b:Tk}(B:op≠cl) (E:a.k=op) (A:b.k=cl) (H:joc op cl x) (F:joc op cl y):joc op cl (a ::(x ++(b ::y))):=by
 intro n r;rw[Ka,mt,if_neg (by omega),if_pos E,Yu,H,Ka,mt,if_pos A,if_neg (by omega),Nat.add_sub_cancel,F];simp;omega
theorem jGN (B:op≠23) (H:op≠24) (F:cl≠23) (E:cl≠24) (A:joc op cl x) (b:Nat):joc op cl (List.replicate b oB ++(x ++List.replicate b cB)):=by
 refine jn9 (jo8 ?_) (jn9 A (jo8 ?_))
 .intro t ht
  rw[List.mem_replicate]at ht;rw[ht.2];exact⟨fun e=>B e.symm,fun e=>F e.symm⟩
 .intro t ht
  rw[List.mem_replicate]at ht;rw[ht.2];exact⟨fun e=>H e.symm,fun e=>E e.symm⟩
def Pair (op cl:Nat):Prop:=(op=3/\cl=5)\/(op=6/\cl=7)\/(op=6/\cl=8)
theorem jwq {op cl k s:Nat}(A:∀i,∀t ∈ sep k s i,t.k≠op/\t.k≠cl):∀(l:List T) (i:Nat),(∀c ∈ l,joc op cl (fl c))->joc op cl (flk k s i l)
 |[],_,_=>by rw[flk];exact jo8 (by simp)
 |c ::r,i,h=>by
  rw[flk];exact jn9 (jo8 (A i)) (jn9 (h c (by simp)) (jwq A r (i+1) (fun d hd=>h d (by simp[hd]))))
theorem jto (xs:List ByteArray):∀t ∈ xs.map jnb,t.k=2:=by
 intro t ht;rw[Uh]at ht;obtain⟨y,_,rfl⟩:=ht;rfl
theorem jGM (B:Pair op cl):∀(m:Nat) (c:T),SizeOf.sizeOf c<=m->fine c->joc op cl (fl c):=by
 intro m
 induction m with
 |zero=>intro c h;cases c;simp at h
 |succ m ih=>
  intro c hs Y
  cases c with
  |nd b k s n xs kids=>
   rw[jnf];refine jGN ?_ ?_ ?_ ?_ ?_ b
   .rcases B with⟨rfl,rfl⟩|⟨rfl,rfl⟩|⟨rfl,rfl⟩ <;> decide
   .rcases B with⟨rfl,rfl⟩|⟨rfl,rfl⟩|⟨rfl,rfl⟩ <;> decide
   .rcases B with⟨rfl,rfl⟩|⟨rfl,rfl⟩|⟨rfl,rfl⟩ <;> decide
   .rcases B with⟨rfl,rfl⟩|⟨rfl,rfl⟩|⟨rfl,rfl⟩ <;> decide
   have A:∀c ∈ kids,joc op cl (fl c):=by
    intro c I;have:=List.sizeOf_lt_of_mem I;refine ih c (by simp at hs;omega) ?_
    have:∀l:List T,jok l->∀c ∈ l,fine c:=by
     intro l
     induction l with
     |nil=>intro _ c I;simp at I
     |cons d r ihl=>
      intro h c I;rcases Kk.1 I with rfl|I
      .exact h.1
      .exact ihl h.2 c I
    exact this kids Y.2 c I
   have U:∀xs:List ByteArray,joc op cl (xs.map jnb):=by
    intro xs;refine jo8 fun t ht=>?_;have:=jto xs t ht;rcases B with⟨rfl,rfl⟩|⟨rfl,rfl⟩|⟨rfl,rfl⟩ <;> omega
   have O:joc op cl [Tk.of 27]:=jo8 (by intro t ht;simp at ht;subst ht;rcases B with⟨rfl,rfl⟩|⟨rfl,rfl⟩|⟨rfl,rfl⟩ <;> decide);have E:=Y.1;unfold bod
   by_cases F:k=8\/k=9\/k=10
   .by_cases h35:op=3
    .have hcl:cl=5:=by rcases B with⟨_,h⟩|⟨h,_⟩|⟨h,_⟩ <;> omega
     subst h35 hcl;rcases F with rfl|rfl|rfl
     .have K:kids.length=2:=by simp[arB]at E;exact E.1
      match kids,K,A with
      |[a,b],_,A=>
       have:=jsB (a:=Tk.of 3) (b:=Tk.of 5) (op:=3) (cl:=5) (by decide) rfl rfl (jn9 (jn9 (U xs) O) (A a (by simp))) (A b (by simp));simpa[pre,flk,sep,post] using this
     .have K:kids.length=2:=by simp[arB]at E;exact E.1.1
      match kids,K,A with
      |[a,b],_,A=>
       have h4:joc 3 5 [Tk.of 4]:=jo8 (by intro t ht;simp at ht;subst ht;decide);have:=jsB (a:=Tk.of 3) (b:=Tk.of 5) (op:=3) (cl:=5) (by decide) rfl rfl (jn9 (jn9 (jn9 h4 (U xs)) O) (A a (by simp))) (A b (by simp));simpa[pre,flk,sep,post] using this
     .have K:kids.length=3:=by simp[arB]at E;exact E.1
      match kids,K,A with
      |[p,a,b],_,A=>
       have:=jsB (a:=Tk.of 3) (b:=Tk.of 5) (op:=3) (cl:=5) (by decide) rfl rfl (jn9 (jn9 (A p (by simp)) O) (A a (by simp))) (A b (by simp));simpa[pre,flk,sep,post] using this
    .have h36:op=6/\(cl=7\/cl=8):=by rcases B with⟨h,_⟩|⟨h,h2⟩|⟨h,h2⟩ <;> omega
     refine jn9 (jo8 ?_) (jn9 (jwq ?_ kids 0 A) (jo8 ?_))
     .intro t ht
      have R:=jto xs;rcases F with rfl|rfl|rfl
      .simp only[pre,Kk,Yq,List.not_mem_nil,or_false]at ht
       rcases ht with rfl|ht|rfl
       .simp[Tk.of];omega
       .have:=R t ht;omega
       .simp[Tk.of];omega
      .simp only[pre,Kk,Yq,List.not_mem_nil,or_false]at ht
       rcases ht with rfl|rfl|ht|rfl
       .simp[Tk.of];omega
       .simp[Tk.of];omega
       .have:=R t ht;omega
       .simp[Tk.of];omega
      .simp only[pre,Kk,List.not_mem_nil,or_false]at ht
       subst ht;simp[Tk.of];omega
     .intro i t ht
      cases i with
      |zero=>simp[sep]at ht
      |succ i=>
       rcases F with rfl|rfl|rfl <;> simp only[sep]at ht
       .simp at ht;subst ht;simp[Tk.of];omega
       .simp at ht;subst ht;simp[Tk.of];omega
       .split at ht <;> (simp at ht;subst ht;simp[Tk.of];omega)
     .intro t ht
      rcases F with rfl|rfl|rfl <;> simp[post]at ht
   .by_cases hif:k=11
    .subst hif
     have K:kids.length=3:=by simp[arB]at E;exact E.1
     match kids,K,A with
     |[a,b,c],_,A=>
      rcases B with⟨rfl,rfl⟩|⟨rfl,rfl⟩|⟨rfl,rfl⟩
      .have e:∀q,q=6\/q=7\/q=8->joc 3 5 [Tk.of q]:=fun q hq=>jo8 (by intro t ht;simp at ht;subst ht;simp[Tk.of];omega)
       have:=jn9 (e 6 (by omega)) (jn9 (A a (by simp)) (jn9 (e 7 (by omega)) (jn9 (A b (by simp)) (jn9 (e 8 (by omega)) (A c (by simp))))));simpa[pre,flk,sep,post] using this
      .have e:joc 6 7 [Tk.of 8]:=jo8 (by intro t ht;simp at ht;subst ht;decide)
       have:=jsB (a:=Tk.of 6) (b:=Tk.of 7) (op:=6) (cl:=7) (by decide) rfl rfl (A a (by simp)) (jn9 (A b (by simp)) (jn9 e (A c (by simp))));simpa[pre,flk,sep,post] using this
      .have e:joc 6 8 [Tk.of 7]:=jo8 (by intro t ht;simp at ht;subst ht;decide)
       have:=jsB (a:=Tk.of 6) (b:=Tk.of 8) (op:=6) (cl:=8) (by decide) rfl rfl (jn9 (A a (by simp)) (jn9 e (A b (by simp)))) (A c (by simp));simpa[pre,flk,sep,post] using this
    .refine jn9 (jo8 ?_) (jn9 (jwq ?_ kids 0 A) (jo8 ?_))
     .intro t ht
      have R:=jto xs
      have Z:∀ys:List ByteArray,∀x ∈ jnt ys,x.k=2\/x.k=25:=by
       intro ys
       induction ys with
       |nil=>intro x H;simp[jnt]at H
       |cons y q ih=>
        cases q with
        |nil=>intro x H;simp[jnt]at H;subst H;simp[jnb]
        |cons y2 q=>
         intro x H;simp only[jnt,Kk]at H;rcases H with rfl|rfl|H
         .simp[jnb]
         .simp[Tk.of]
         .exact ih x H
      have W:t.k=1\/t.k=2\/(9<=t.k):=by
       unfold pre at ht
       split at ht <;> first
        |(exfalso;omega)
        |(simp at ht;subst ht;simp[jp2,Tk.of];done)
        |(have:=R t ht;omega)
        |(have:=Z xs t ht;omega)
        |(simp at ht;rcases ht with rfl|rfl <;> simp[Tk.of];done)
        |(simp only[Kk,Yq,List.not_mem_nil,or_false]at ht
          rcases ht with rfl|ht|rfl <;> first|(have:=R t ht;omega)|(simp[Tk.of]))
        |(simp at ht;done)
      rcases B with⟨rfl,rfl⟩|⟨rfl,rfl⟩|⟨rfl,rfl⟩ <;> omega
     .intro i t ht
      have W:18<=t.k:=by
       cases i with
       |zero=>simp[sep]at ht
       |succ i=>
        unfold arB at E;unfold sep at ht
        split at E <;> first
         |(exfalso;omega)
         |(simp at ht;done)
         |(simp at ht;subst ht;simp[Tk.of];done)
         |(simp at ht;subst ht;simp at E;simp[Tk.of];omega)
         |(simp at E;done)
      rcases B with⟨rfl,rfl⟩|⟨rfl,rfl⟩|⟨rfl,rfl⟩ <;> omega
     .intro t ht
      unfold post at ht
      split at ht
      .simp at ht;subst ht;rcases B with⟨rfl,rfl⟩|⟨rfl,rfl⟩|⟨rfl,rfl⟩ <;> decide
      .simp at ht
mutual
theorem jq9 {N:Nat}{ss:List St}{l:List Tok}{o:Nat}{r:Res (List V)}(H:Sq N ss l o r) (E:jr7 ss) (hk:jrm ss) :
 (∀vs l' o',r= .ok vs l' o'->∀n S z,MR N n S l' o' z->∃n',MR N n' (jpb ss ++S) l o z)/\(∀e p,r= .bad e p->∀S,∃n',MR N n' (jpb ss ++S) l o (some (e,p))):=by
 match H with
 | .nil l o=>
   exact⟨fun vs l' o' h n S z hm=>(by injection h with _ h2 h3;subst h2 h3;exact⟨n,hm⟩),fun e p h=>by cases h⟩
 | .tm (t:=t) (r:=r1) h1 hs=>
   have ih:=jq9 hs E hk.2.2.2;refine⟨fun vs l' o' h n S z hm=>?_,fun e p h S=>?_⟩
   .obtain⟨vs1,_,hr⟩:=Res.cons_ok h
    obtain⟨n',A⟩:=ih.1 vs1 l' o' hr n S z hm;exact⟨n'+1,MR.tm h1 hk.1 hk.2.1 hk.2.2.1 A⟩
   .have hr:r1= .bad e p:=by cases r1 <;> simp[Res.cons]at h ⊢;exact h
    obtain⟨n',A⟩:=ih.2 e p hr S;exact⟨n'+1,MR.tm h1 hk.1 hk.2.1 hk.2.2.1 A⟩
 | .tmBad h1=>exact⟨fun vs l' o' h=>(by cases h),fun e p h S=>by injection h with h2 h3;subst h2 h3;exact⟨1,MR.tmBad h1⟩⟩
 | .op (t:=t) (r:=r1) h1 hN hs=>
   have ih:=jq9 hs E hk.2;refine⟨fun vs l' o' h n S z hm=>?_,fun e p h S=>?_⟩
   .obtain⟨vs1,_,hr⟩:=Res.cons_ok h
    obtain⟨n',A⟩:=ih.1 vs1 l' o' hr n S z hm;exact⟨n'+1,MR.op h1 hk.1 hN A⟩
   .have hr:r1= .bad e p:=by cases r1 <;> simp[Res.cons]at h ⊢;exact h
    obtain⟨n',A⟩:=ih.2 e p hr S;exact⟨n'+1,MR.op h1 hk.1 hN A⟩
 | .opBad h1=>exact⟨fun vs l' o' h=>(by cases h),fun e p h S=>by injection h with h2 h3;subst h2 h3;exact⟨1,MR.tmBad h1⟩⟩
 | .opNest h1 hN=>exact⟨fun vs l' o' h=>(by cases h),fun e p h S=>by injection h with h2 h3;subst h2 h3;exact⟨1,MR.opNest h1 hk.1 hN⟩⟩
 | .cl (t:=t) (r:=r1) h1 hs=>
   have ih:=jq9 hs E hk;refine⟨fun vs l' o' h n S z hm=>?_,fun e p h S=>?_⟩
   .obtain⟨vs1,_,hr⟩:=Res.cons_ok h
    obtain⟨n',A⟩:=ih.1 vs1 l' o' hr n S z hm;exact⟨n'+1,MR.cl h1 A⟩
   .have hr:r1= .bad e p:=by cases r1 <;> simp[Res.cons]at h ⊢;exact h
    obtain⟨n',A⟩:=ih.2 e p hr S;exact⟨n'+1,MR.cl h1 A⟩
 | .clBad h1=>exact⟨fun vs l' o' h=>(by cases h),fun e p h S=>by injection h with h2 h3;subst h2 h3;exact⟨1,MR.tmBad h1⟩⟩
 | .jb (v:=v) (r:=r1) hj hs=>
   have ih:=jq9 hs E.2 hk;have F:=jqj hj E.1;refine⟨fun vs l' o' h n S z hm=>?_,fun e p h S=>?_⟩
   .obtain⟨vs1,_,hr⟩:=Res.cons_ok h
    obtain⟨n',A⟩:=ih.1 vs1 l' o' hr n S z hm;obtain⟨n2,B⟩:=F.1 v _ _ rfl n' _ z A;exact⟨n2,by rw[jpb,Yu];exact B⟩
   .have hr:r1= .bad e p:=by cases r1 <;> simp[Res.cons]at h ⊢;exact h
    obtain⟨n',A⟩:=ih.2 e p hr S;obtain⟨n2,B⟩:=F.1 v _ _ rfl n' _ _ A;exact⟨n2,by rw[jpb,Yu];exact B⟩
 | .jbBad hj=>
   have F:=jqj hj E.1;refine⟨fun vs l' o' h=>(by cases h),fun e p h S=>?_⟩;injection h with h2 h3;subst h2 h3
   obtain⟨n2,B⟩:=F.2 _ _ rfl (jpb _ ++S);exact⟨n2,by rw[jpb,Yu];exact B⟩
theorem jqj {N:Nat}{j:J}{l:List Tok}{o:Nat}{r:Res V}(H:Jb N j l o r) (O:jry j) :
 (∀v l' o',r= .ok v l' o'->∀n S z,MR N n S l' o' z->∃n',MR N n' (jqK j ++S) l o z)/\(∀e p,r= .bad e p->∀S,∃n',MR N n' (jqK j ++S) l o (some (e,p))):=by
 match H with
 | .none he=>
   refine⟨fun v l' o' h=>(by cases h),fun e p h S=>?_⟩;injection h with h2 h3;subst h2 h3
   rw[jsf];exact⟨1,MR.ntBad (jGL he)⟩
 | .bad he hs=>
   refine⟨fun v l' o' h=>(by cases h),fun e p h S=>?_⟩;injection h with h2 h3;subst h2 h3
   obtain⟨xs,q,E,B⟩:=jCE he;obtain⟨n',A⟩:=(jq9 hs (jrd he) (jwo he)).2 _ _ rfl (q ++S);rw[jsf];refine⟨n'+1,MR.nt E ?_⟩;rw[<-Yu,<-B,Yu]at A;exact A
 | .out (vs:=vs) he hs hf=>
   refine⟨fun v l' o' h n S z hm=>?_,fun e p h=>by cases h⟩;injection h with h1 h2 h3
   subst h2 h3;obtain⟨u,_,F⟩:=jqL hs (jrd he) vs _ _ rfl;obtain⟨xs,E,B⟩:=jCA he F hf;obtain⟨n',A⟩:=(jq9 hs (jrd he) (jwo he)).1 vs _ _ rfl n S z hm;rw[jsf];refine⟨n'+1,MR.nt E ?_⟩;rw[<-B,Yu]at A;exact A
 | .go (vs:=vs) (l':=l1) (o':=o1) he hs hf hj=>
   obtain⟨u,_,F⟩:=jqL hs (jrd he) vs _ _ rfl;obtain⟨R,_⟩:=jzL O he F hf;obtain⟨xs,E,B⟩:=jCD he hf;have K:=jqj hj R;have I:=(jq9 hs (jrd he) (jwo he)).1 vs _ _ rfl;refine⟨fun v l' o' h n S z hm=>?_,fun e p h S=>?_⟩
   .obtain⟨n2,hn2⟩:=K.1 v l' o' h n S z hm
    obtain⟨n',A⟩:=I n2 _ z hn2;rw[jsf];refine⟨n'+1,MR.nt E ?_⟩;rw[<-Yu,<-B,Yu]at A;exact A
   .obtain⟨n2,hn2⟩:=K.2 e p h S
    obtain⟨n',A⟩:=I n2 _ _ hn2;rw[jsf];refine⟨n'+1,MR.nt E ?_⟩;rw[<-Yu,<-B,Yu]at A;exact A
end
end Sl
end Go.Proofs.YtlpmpelnhdoboaaGreatDoor
