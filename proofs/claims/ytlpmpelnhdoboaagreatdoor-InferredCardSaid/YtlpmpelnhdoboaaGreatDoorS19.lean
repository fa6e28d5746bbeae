import Derived.Test.YtlpmpelnhdoboaaGreatDoorS15
import Derived.Test.YtlpmpelnhdoboaaGreatDoorS18
set_option linter.unusedVariables false
set_option linter.unusedSimpArgs false
set_option maxHeartbeats 20000000
namespace Go.Proofs.YtlpmpelnhdoboaaGreatDoor
namespace Pl
open Go.RowKit Sl Tg
mutual
def toX:T->(Nat->Int)->Inf.X
 | .nd b k s n xs kids,f=>.nd k (f (pw (.nd b k s n xs kids))) (if k=10 then jn2 kids else xs) (if k=10 then(jni k s 0 kids fun i=>f (b+((pre k s n xs).length+i))).tail else jni k s 0 kids fun i=>f (b+((pre k s n xs).length+i)))
def jni (k s:Nat):Nat->List T->(Nat->Int)->List Inf.X
 |_,[],_=>[]
 |i,c ::r,f=>toX c (fun j=>f ((sep k s i).length+j)) ::jni k s (i+1) r (fun j=>f ((sep k s i).length+((fl c).length+j)))
end
def fP (L:List Tok) (a:Nat) (i:Nat):Int:=((jE L (a+i)).p:Nat)
variable {a b:Nat}
theorem jpp (L:List Tok) {g:Nat->Nat}(h:∀i,a+g i=b+i):(fun i=>fP L a (g i))=fP L b:=by
 funext i
 unfold fP;rw[h i]
def Cn (L:List Tok) (a b:Nat) (ws:List Tk):Prop:=b=a+ws.length/\∀i t,ws[i]? =some t->(jE L (a+i)).tk=t
theorem Cn.nil (L:List Tok) (a:Nat):Cn L a a []:=⟨rfl,fun i t h=>by simp at h⟩
variable {L:List Tok}
theorem Cn.one {t:Tk}(h:(jE L a).tk=t):Cn L a (a+1) [t]:=⟨rfl,fun i u hu=>by
 cases i with
 |zero=>cases hu;exact h
 |succ i=>simp at hu⟩
theorem Cn.app {c:Nat}{A vs:List Tk}(h:Cn L a b A) (B:Cn L b c vs):Cn L a c (A ++vs):=by
 obtain⟨rfl,C⟩:=h;obtain⟨rfl,E⟩:=B;refine⟨by rw[Yg];omega,fun i t hi=>?_⟩;rw[List.getElem?_append]at hi
 split at hi
 .exact C i t hi
 .have:=E _ t hi
  rw[show a+A.length+(i-A.length)=a+i by omega]at this;exact this
theorem Cn.cons {L:List Tok}{a c:Nat}{t:Tk}{vs:List Tk}(h:(jE L a).tk=t) (A:Cn L (a+1) c vs):Cn L a c (t ::vs):=(Cn.one h).app A
theorem Cn.len {A:List Tk}(h:Cn L a b A):b=a+A.length:=h.1
mutual
theorem jwS {ps:List CP}(z:List CP):∀(x:Inf.X) (i:Nat),XA ps i x->XA (ps ++z) i x
 | .nd k p xs kids,i,h=>by
   rw[XA]at h ⊢;obtain⟨q,ks,A,I,C,B,F,E,H⟩:=h;exact⟨q,ks,by rw[Kb (jG A).1];exact A,I,C,B,F,E,jsN z kids ks H⟩
theorem jsN {ps:List CP}(z:List CP):∀(l:List Inf.X) (ks:List Nat),XAs ps ks l->XAs (ps ++z) ks l
 |[],[],_=>by rw[XAs];trivial
 |[],_ ::_,h=>by rw[XAs]at h;exact h.elim
 |_ ::_,[],h=>by rw[XAs]at h;exact h.elim
 |x ::l,k ::ks,h=>by rw[XAs]at h ⊢;exact⟨jwS z x k h.1,jsN z l ks h.2⟩
end
variable {ps:List CP}{i:Nat}
theorem jAF {x:Inf.X}(h:XA ps i x):i<ps.length:=by
 cases x with
 |nd k p xs kids=>
  rw[XA]at h;obtain⟨q,ks,A,_⟩:=h;exact(jG A).1
theorem jwP {ps:List CP}:∀(l:List Inf.X) (ks:List Nat),XAs ps ks l->∀j ∈ ks,j<ps.length
 |[],[],_,j,A=>by cases A
 |[],_ ::_,h,_,_=>by rw[XAs]at h;exact h.elim
 |_ ::_,[],h,_,_=>by rw[XAs]at h;exact h.elim
 |x ::l,k ::ks,h,j,A=>by
  rw[XAs]at h;rcases Kk.1 A with rfl|A
  .exact jAF h.1
  .exact jwP l ks h.2 j A
theorem jwO {ps:List CP}{j:Nat}{x:Inf.X}(A:XA ps j x):∀(l:List Inf.X) (ks:List Nat),XAs ps ks l->XAs ps (ks ++[j]) (l ++[x])
 |[],[],_=>by rw[Yx,Yx,XAs,XAs];exact⟨A,trivial⟩
 |[],_ ::_,h=>by rw[XAs]at h;exact h.elim
 |_ ::_,[],h=>by rw[XAs]at h;exact h.elim
 |y ::l,k ::ks,h=>by rw[XAs]at h;rw[Ka,Ka,XAs];exact⟨h.1,jwO A l ks h.2⟩
variable {k:Nat}
theorem jwR {cp:CP}{js:List Nat}{l:List Inf.X}{p:Int}{xs:List ByteArray}(hk:cp.ks=js.map (fun n:Nat=>(n:Int))) (A:XAs ps js l) (C:cp.k=k) (E:(cp.a:Int)=p) (B:cp.ns=xs):XA (ps ++[cp]) ps.length (.nd k p xs l):=by
 rw[XA];exact⟨cp,js,by simp,C,E,B,hk,jwP l js A,jsN [cp] l js A⟩
structure Gt (L:List Tok) (ps:List CP) (a b:Nat) (x:Int) (r:Nat) (c:T):Prop where
 wf:wf c
 rk:r<=rkT c
 ne:c.k≠25
 cn:Cn L a b (fl c)
 xa:∃j:Nat,x=j/\XA ps j (toX c (fP L a))
variable {x:Int}{r:Nat}{c:T}
theorem Gt.ext {ps':List CP}(h:Gt L ps a b x r c) (he:∃z,ps'=ps ++z):Gt L ps' a b x r c:=by
 obtain⟨z,rfl⟩:=he;obtain⟨j,A,B⟩:=h.xa;exact⟨h.wf,h.rk,h.ne,h.cn,j,A,jwS z _ _ B⟩
theorem Gt.mono {A:Nat}(h:Gt L ps a b x r c) (B:A<=r):Gt L ps a b x A c:=⟨h.wf,Ym B h.rk,h.ne,h.cn,h.xa⟩
structure Gl (L:List Tok) (ps:List CP) (k:Nat) (a b:Nat) (xs:List Int) (r:Nat) (cs:List T):Prop where
 ok:jp1 r cs
 cn:Cn L a b (flk k 0 0 cs)
 xa:∃js:List Nat,xs=js.map (fun n:Nat=>(n:Int))/\XAs ps js (jni k 0 0 cs (fP L a))
 len:cs.length=xs.length
theorem Gl.ext {ps':List CP}{xs:List Int}{A:List T}(h:Gl L ps k a b xs r A) (he:∃z,ps'=ps ++z):Gl L ps' k a b xs r A:=by
 obtain⟨z,rfl⟩:=he;obtain⟨js,B,C⟩:=h.xa;exact⟨h.ok,h.cn,⟨js,B,jsN z _ _ C⟩,h.len⟩
theorem jxv (k s:Nat) (c:T):∀(cs:List T) (i:Nat) (f:Nat->Int),jni k s i (cs ++[c]) f=jni k s i cs f ++[toX c fun j=>f ((flk k s i cs).length+((sep k s (i+cs.length)).length+j))]
 |[],i,f=>by
  rw[Yx,jni,jni,jni,flk];simp
 |d ::cs,i,f=>by
  rw[Ka,jni,jxv k s c cs,jni,jqm];rw[Ka,Yk,show i+1+cs.length=i+(cs.length+1) by omega]
  congr 3
  congr 1
  funext j
  congr 1
  omega
theorem jzG (k s:Nat) (c:T):∀(cs:List T) (i:Nat),flk k s i (cs ++[c])=flk k s i cs ++(sep k s (i+cs.length) ++fl c)
 |[],i=>by rw[Yx,flk,flk,flk];simp
 |d ::cs,i=>by
  rw[Ka,flk,jzG k s c cs,flk,Yk,show i+1+cs.length=i+(cs.length+1) by omega];simp
theorem Gl.snoc {b' e:Nat}{xs:List Int}{A:List T}(h:Gl L ps k a b xs r A) (hs:Cn L b b' (sep k 0 A.length)) (B:Gt L ps b' e x r c):Gl L ps k a e (xs ++[x]) r (A ++[c]):=by
 obtain⟨js,F,H⟩:=h.xa;obtain⟨j,E,C⟩:=B.xa;refine⟨(jtk r _ _).2 ⟨h.ok,⟨B.wf,B.rk,B.ne⟩,trivial⟩,?_,⟨js ++[j],by rw[F,E,Km];rfl,?_⟩,by rw[Yg,Yg,h.len];rfl⟩
 .rw[jzG,Kc]
  exact h.cn.app (hs.app B.cn)
 .rw[jxv,Kc]
  refine jwO ?_ _ _ H;have e:(fun i=>fP L a ((flk k 0 0 A).length+((sep k 0 A.length).length+i)))=fP L b':=jpp L (fun i=>by have:=h.cn.len;have:=hs.len;omega);rw[e];exact C
theorem Gl.one {e:Nat}(A:Gt L ps a e x r c):Gl L ps k a e [x] r [c]:=by
 have B:Gl L ps k a a [] r []:=⟨trivial,by rw[flk];exact Cn.nil L a,⟨[],rfl,by rw[jni,XAs];trivial⟩,rfl⟩
 exact B.snoc (b':=a) (Cn.nil L a) A
variable {S:PF}
theorem joN (h:(S.want L k).err=0):S.err=0/\(jE L S.next).k=k/\S.want L k=S.take/\jm8 L k S=jE L S.next:=by
 unfold PF.want at h
 split at h
 .rename_i hk
  exact⟨h,hk,by unfold PF.want;rw[if_pos hk],by unfold jm8;rw[if_pos hk]⟩
 .have h3:(if S.err=0 then(4:Int) else S.err)=0:=h
  split at h3
  .cases h3
  .rename_i h4;exact absurd h3 h4
theorem jrv {N:Int}(h:(S.begin L N k).err=0):S.err=0/\(jE L S.next).k=k/\(S.begin L N k).next=S.next+1/\jE L (S.beg0 L N k).next=jE L S.next:=by
 have A:(S.beg0 L N k).err=0:=h;unfold PF.beg0 at A
 split at A
 .rename_i hk
  split at A
  .have h3:(if S.err=0 then(5:Int) else S.err)=0:=A
   split at h3
   .cases h3
   .rename_i h4;exact absurd h3 h4
  .rename_i hn
   have e:S.beg0 L N k=S:=by unfold PF.beg0;rw[if_pos hk,if_neg hn]
   refine⟨A,hk,?_,by rw[e]⟩;show(S.beg0 L N k).next+1=_;rw[e]
 .have h3:(if S.err=0 then(4:Int) else S.err)=0:=A
  split at h3
  .cases h3
  .rename_i h4;exact absurd h3 h4
theorem jqD (h:(S.finish L).err=0):S.err=0/\(jE L S.next).k=24/\(S.finish L).next=S.next+1:=by
 obtain⟨A,C,B,_⟩:=joN (k:=24) (S:=S) (L:=L) h;refine⟨A,C,?_⟩;show(S.want L 24).next=_;rw[B];rfl
theorem tk1 (h:(jE L i).k=k) (A:k≠1) (B:k≠2):(jE L i).tk=Tk.of k:=jnM h A B
theorem tkn (h:(jE L i).k=2):(jE L i).tk=jnb (jm9 (jE L i)):=by
 rw[jpZ h];unfold jm9 jpH;rw[if_pos h]
theorem jvl (L:List Tok):∀(f:Nat) (S:PF) (ns:List ByteArray),∃zs,(jnI L f S ns).2=ns ++zs/\zs.length<=f/\Cn L S.next (jnI L f S ns).1.next (zs.map jnb)/\(jnI L f S ns).1.err=S.err
 |0,S,ns=>⟨[],by simp[jnI],jN,Cn.nil _ _,rfl⟩
 |f+1,S,ns=>by
  unfold jnI
  split
  .rename_i hk
   obtain⟨zs,A,E,C,B⟩:=jvl L f S.take (ns ++[jm9 (jE L S.next)]);exact⟨jm9 (jE L S.next) ::zs,by rw[A];simp,by simp;omega,Cn.cons (tkn hk) C,B⟩
  .exact⟨[],by simp,by simp,Cn.nil _ _,rfl⟩
theorem jyk {q:Q}(h:(q.par L).1.S.err=0):q.S.err=0/\∃x zs,(q.par L).2=x ::zs/\zs.length<=3/\Cn L q.S.next (q.par L).1.S.next ((x ::zs).map jnb):=by
 obtain⟨zs,F,O,A,C⟩:=jvl L 3 (q.S.want L 2) [jm9 (jm8 L 2 q.S)];have H:(q.S.want L 2).err=0:=C.symm.trans h;obtain⟨B,I,K,E⟩:=joN H;refine⟨B,jm9 (jE L q.S.next),zs,?_,O,?_⟩
 .show(jnI L 3 (q.S.want L 2) [jm9 (jm8 L 2 q.S)]).2=_
  rw[F,E];rfl
 .refine Cn.cons (tkn I) ?_
  have:(q.S.want L 2).next=q.S.next+1:=by rw[K];rfl
  rw[this]at A;exact A
theorem jzE {q:Q}(h:(q.fnm L).1.S.err=0):q.S.err=0/\∃f x zs,(q.fnm L).2=f ::x ::zs/\zs.length<=3/\Cn L q.S.next (q.fnm L).1.S.next ((f ::x ::zs).map jnb):=by
 obtain⟨zs,U,Y,A,O⟩:=jvl L 3 ((q.S.want L 2).want L 2) [jm9 (jm8 L 2 (q.S.want L 2))];have H:((q.S.want L 2).want L 2).err=0:=O.symm.trans h;obtain⟨E,C,W,B⟩:=joN H;obtain⟨K,F,R,I⟩:=joN E;have n1:(q.S.want L 2).next=q.S.next+1:=by rw[R];rfl
 have n2:((q.S.want L 2).want L 2).next=q.S.next+1+1:=by rw[W];show(q.S.want L 2).next+1=_;rw[n1]
 rw[n1]at C B;refine⟨K,jm9 (jE L q.S.next),jm9 (jE L (q.S.next+1)),zs,?_,Y,?_⟩
 .show jm9 (jm8 L 2 q.S) ::(jnI L 3 ((q.S.want L 2).want L 2) [jm9 (jm8 L 2 (q.S.want L 2))]).2=_
  rw[U,I,B];rfl
 .refine Cn.cons (tkn F) (Cn.cons (tkn C) ?_)
  rw[n2]at A;exact A
theorem jxj (L:List Tok):∀(f:Nat) (S:PF) (ns:List ByteArray),(Go.Proofs.YtlpmpelnhdoboaaGreatDoor.tupL L f S ns).1.err=0->S.err=0/\∃zs,(Go.Proofs.YtlpmpelnhdoboaaGreatDoor.tupL L f S ns).2=ns ++zs/\zs.length<=f/\Cn L S.next (Go.Proofs.YtlpmpelnhdoboaaGreatDoor.tupL L f S ns).1.next (zs.flatMap fun z=>[Tk.of 25,jnb z])
 |0,S,ns,h=>⟨h,[],by simp[Go.Proofs.YtlpmpelnhdoboaaGreatDoor.tupL],jN,Cn.nil _ _⟩
 |f+1,S,ns,h=>by
  unfold Go.Proofs.YtlpmpelnhdoboaaGreatDoor.tupL at h ⊢
  split at h
  .rename_i hk
   rw[if_pos hk];obtain⟨F,zs,E,K,A⟩:=jxj L f _ _ h;obtain⟨B,H,I,C⟩:=joN F;have n1:(S.take.want L 2).next=S.next+1+1:=by rw[I];rfl
   refine⟨B,jm9 (jE L (S.next+1)) ::zs,?_,by simp;omega,?_⟩
   .rw[E,C];simp;rfl
   .rw[List.flatMap_cons]
    refine Cn.cons (tk1 hk (by decide) (by decide)) (Cn.cons (tkn H) ?_);rw[n1]at A;exact A
  .rename_i hk
   rw[if_neg hk];exact⟨h,[],by simp,by simp,Cn.nil _ _⟩
section
variable {L:List Tok}{ps:List CP}
theorem jV {k s n b st ia ja:Nat}{xs:List ByteArray}{A:T}(B:XA ps ja (toX A (fP L ia))) (C:st+(b+(pre k s n xs).length)=ia):XAs ps [ja] (jni k s 0 [A] fun i=>fP L st (b+((pre k s n xs).length+i))):=by
 have E:(sep k s 0).length=0:=rfl;rw[jni,jni,XAs,XAs];refine⟨?_,trivial⟩;rw[jpp L (b:=ia) (fun i=>by omega)];exact B
theorem jsO {k s n b st ia C ja jb:Nat}{xs:List ByteArray}{A B:T}(F:XA ps ja (toX A (fP L ia))) (E:XA ps jb (toX B (fP L C))) (H:st+(b+(pre k s n xs).length)=ia) (I:ia+(fl A).length+(sep k s 1).length=C):XAs ps [ja,jb] (jni k s 0 [A,B] fun i=>fP L st (b+((pre k s n xs).length+i))):=by
 have K:(sep k s 0).length=0:=rfl;rw[jni,jni,jni,XAs,XAs,XAs];refine⟨?_,?_,trivial⟩
 .rw[jpp L (b:=ia) (fun i=>by omega)]
  exact F
 .rw[jpp L (b:=C) (fun i=>by simp only[Kc];omega)]
  exact E
theorem xas3 {k s n b st ia E F ja jb jc:Nat}{xs:List ByteArray}{A B C:T}(K:XA ps ja (toX A (fP L ia))) (I:XA ps jb (toX B (fP L E))) (H:XA ps jc (toX C (fP L F))) (R:st+(b+(pre k s n xs).length)=ia) (U:ia+(fl A).length+(sep k s 1).length=E) (O:E+(fl B).length+(sep k s 2).length=F):XAs ps [ja,jb,jc] (jni k s 0 [A,B,C] fun i=>fP L st (b+((pre k s n xs).length+i))):=by
 have Y:(sep k s 0).length=0:=rfl;have W:(sep k s (1+1)).length=(sep k s 2).length:=rfl;rw[jni,jni,jni,jni,XAs,XAs,XAs,XAs];refine⟨?_,?_,?_,trivial⟩
 .rw[jpp L (b:=ia) (fun i=>by omega)]
  exact K
 .rw[jpp L (b:=E) (fun i=>by simp only[Kc];omega)]
  exact I
 .rw[jpp L (b:=F) (fun i=>by simp only[Kc];omega)]
  exact H
theorem jp4 {cp:CP}{a e r b k s n:Nat}{xs:List ByteArray}{kids:List T}{js:List Nat}(E:wf (.nd b k s n xs kids)) (O:r<=rkT (.nd b k s n xs kids)) (B:k≠25) (A:k≠10) (I:Cn L a e (fl (.nd b k s n xs kids)))
 (hk:cp.ks=js.map (fun n:Nat=>(n:Int))) (F:XAs ps js (jni k s 0 kids fun i=>fP L a (b+((pre k s n xs).length+i)))) (H:cp.k=k) (K:(cp.a:Int)=fP L a (pw (.nd b k s n xs kids))) (C:cp.ns=xs):Gt L (ps ++[cp]) a e ps.length r (.nd b k s n xs kids):=by
 refine⟨E,O,B,I,ps.length,rfl,?_⟩;rw[toX,if_neg A,if_neg A];exact jwR hk F H K C
end
def PE (L:List Tok) (r:Nat) (q:Q) (x:Int) (q':Q):Prop:=q.S.err=0/\(∃z,q'.ps=q.ps ++z)/\∃c,Gt L q'.ps q.S.next q'.S.next x r c
def PL (L:List Tok) (i0 r:Nat) (q:Q) (x:Int) (q':Q):Prop:=q.S.err=0/\(∃z,q'.ps=q.ps ++z)/\∃c,Gt L q'.ps i0 q'.S.next x r c
inductive Kw:Nat->Nat->Nat->Prop where
 |p:Kw 21 1 14
 |l:Kw 22 1 15
 |a:Kw 23 2 16
 |u:Kw 24 3 17
 |t:Kw 2 0 11
 |f:Kw 3 0 12
 |r:Kw 4 0 13
def Sp (L:List Tok):Md->Q->Int->Q->Prop
 | .expr,q,x,q'=>PE L 0 q x q'
 | .lett,q,x,q'=>(jE L q.S.next).k=3->PE L 0 q x q'
 | .choice,q,x,q'=>(jE L q.S.next).k=6->PE L 0 q x q'
 | .func,q,x,q'=>(jE L q.S.next).k=9->PE L 0 q x q'
 | .seq,q,x,q'=>PE L 0 q x q'
 | .cmp,q,x,q'=>PE L 1 q x q'
 | .sum,q,x,q'=>PE L 2 q x q'
 | .prod,q,x,q'=>PE L 3 q x q'
 | .un,q,x,q'=>PE L 4 q x q'
 | .call,q,x,q'=>PE L 5 q x q'
 | .operand,q,x,q'=>PE L 6 q x q'
 | .atom,q,x,q'=>PE L 7 q x q'
 | .brk,q,x,q'=>(jE L q.S.next).k=23->PE L 7 q x q'
 | .pref k c,q,x,q'=>∀w,Kw k c w->(jE L q.S.next).k=w->PE L (rk k) q x q'
 | .sumL a,q,x,q'=>∀i0 ca,Gt L q.ps i0 q.S.next a 2 ca->PL L i0 2 q x q'
 | .prodL a,q,x,q'=>∀i0 ca,Gt L q.ps i0 q.S.next a 3 ca->PL L i0 3 q x q'
 | .operL a,q,x,q'=>∀i0 ca,Gt L q.ps i0 q.S.next a 6 ca->PL L i0 6 q x q'
 | .callL ks,q,x,q'=>∀i0 cs,cs≠[]->cs.length<=5->Gl L q.ps 19 i0 q.S.next ks 6 cs->PL L i0 5 q x q'
 | .tupL t ks,q,x,q'=>∀i0 cs,t=jE L i0->t.k=23->cs≠[]->cs.length<=6->Gl L q.ps 7 (i0+1) q.S.next ks 0 cs->PL L i0 7 q x q'
 | .prefL k c t ks,q,x,q'=>∀i0 cs w,Kw k c w->t=jE L i0->t.k=w->cs.length<=c->Gl L q.ps k (i0+1) q.S.next ks 6 cs->PL L i0 (rk k) q x q'
theorem joy {a b c:List CP}(h:∃z,b=a ++z) (A:∃z,c=b ++z):∃z,c=a ++z:=by
 obtain⟨z,rfl⟩:=h;obtain⟨y,rfl⟩:=A;exact⟨z ++y,by rw[Yu]⟩
theorem jph (a:List CP) (c:CP):∃z,a ++[c]=a ++z:=⟨[c],rfl⟩
variable {k:Nat}
theorem jt5 {L:List Tok}{ps:List CP}{i0 m e s r ra rb:Nat}{x y:Int}{ca cb:T}{cp:CP}(C:Gt L ps i0 m x ra ca) (B:Gt L ps (m+1) e y rb cb) (hk:k=15\/k=16\/k=17\/k=18) (hs:(jE L m).k=(if k=18 then 26 else s)) (A:arB k (if k=18 then 0 else s) [] 2=true) (U:r<=Sl.rk k) (h1:wanted k 0<=ra) (W:wanted k 1<=rb)
 (c1:cp.k=k) (Z:cp.a=(jE L m).p) (O:cp.ns=[]) (K:cp.ks=[x,y]):Gt L (ps ++[cp]) i0 e ps.length r (.nd 0 k (if k=18 then 0 else s) 0 [] [ca,cb]):=by
 obtain⟨ja,rfl,xa⟩:=C.xa;obtain⟨jb,rfl,xb⟩:=B.xa;have na:=C.cn.len;have nb:=B.cn.len
 obtain⟨S,E⟩:∃S,(if k=18 then 0 else s)=S:=⟨_,rfl⟩
 rw[E]at A ⊢;have H:pre k S 0 []=[]:=by rcases hk with rfl|rfl|rfl|rfl <;> rfl
 have F:sep k S 1=[(jE L m).tk]:=by
  rcases hk with rfl|rfl|rfl|rfl
  .rw[if_neg (by decide)]at hs E;subst E;simp[arB]at A;rw[tk1 hs (by omega) (by omega)];rfl
  .rw[if_neg (by decide)]at hs E;subst E;simp[arB]at A;rw[tk1 hs (by omega) (by omega)];rfl
  .rw[if_neg (by decide)]at hs E;subst E;simp[arB]at A;rw[tk1 hs (by omega) (by omega)];rfl
  .rw[if_pos rfl]at hs;rw[tk1 hs (by decide) (by decide)];rfl
 have R:fl (.nd 0 k S 0 [] [ca,cb])=fl ca ++((jE L m).tk ::fl cb):=by
  have hp:post k=[]:=by rcases hk with rfl|rfl|rfl|rfl <;> rfl
  have h0:sep k S 0=[]:=rfl;have I:sep k S (0+1)=[(jE L m).tk]:=F;rw[jnf];simp only[bod,H,flk,hp,h0,I,List.replicate_zero,Yx,Kd,Ka]
 have Y:r<=rkT (.nd 0 k S 0 [] [ca,cb]):=U;refine jp4 (js:=[ja,jb]) ⟨A,fun e=>by omega,fun e=>by omega,⟨C.wf,Ym h1 C.rk,jnv C.ne (.inl (by omega)),B.wf,Ym W B.rk,jnv B.ne (.inl (by omega)),trivial⟩⟩ Y (by omega) (by omega) (by rw[R];exact C.cn.app (Cn.cons rfl B.cn)) (by rw[K];rfl) (jsO xa xb (by rw[H];show i0+(0+0)=i0;omega) (by rw[F];show i0+(fl ca).length+1=m+1;omega)) c1 ?_ O;rw[Z,pw,if_neg (by omega),if_neg (by omega),if_pos (by omega),jow,Kc];unfold fP;rw[na]
theorem jIG (h:cOp k=17):arB 17 k [] 2=true:=by
 unfold cOp at h
 split at h
 .rename_i hk;rcases hk with rfl|rfl|rfl|rfl|rfl|rfl <;> rfl
 .split at h
  .cases h
  .split at h <;> cases h
theorem jIH (h:cOp k=16):arB 16 k [] 2=true:=by
 unfold cOp at h
 split at h
 .cases h
 .split at h
  .rename_i hk;rcases hk with rfl|rfl <;> rfl
  .split at h <;> cases h
theorem jII (h:cOp k=15):arB 15 k [] 2=true:=by
 unfold cOp at h
 split at h
 .cases h
 .split at h
  .cases h
  .split at h
   .rename_i hk;rcases hk with rfl|rfl|rfl <;> rfl
   .cases h
theorem jxf {L:List Tok}{ps:List CP}{i0 e w:Nat}{x:Int}{c:T}{cp:CP}(A:Gt L ps (i0+1) e x 4 c) (hk:(k=13/\w=31)\/(k=14/\w=10)) (H:(jE L i0).k=w) (c1:cp.k=k) (E:cp.a=(jE L i0).p) (F:cp.ns=[]) (C:cp.ks=[x]):Gt L (ps ++[cp]) i0 e ps.length 4 (.nd 0 k 0 0 [] [c]):=by
 obtain⟨j,rfl,xa⟩:=A.xa
 have B:pre k 0 0 []=[(jE L i0).tk]:=by
  rcases hk with⟨rfl,rfl⟩|⟨rfl,rfl⟩ <;> rw[tk1 H (by decide) (by decide)] <;> rfl
 have I:fl (.nd 0 k 0 0 [] [c])=(jE L i0).tk ::fl c:=by
  have K:post k=[]:=by rcases hk with⟨rfl,_⟩|⟨rfl,_⟩ <;> rfl
  have O:sep k 0 0=[]:=rfl;rw[jnf];simp only[bod,B,flk,K,O,List.replicate_zero,Yx,Kd,Ka]
 refine jp4 (js:=[j]) ⟨by rcases hk with⟨rfl,_⟩|⟨rfl,_⟩ <;> rfl,fun e=>by omega,fun e=>by omega,⟨A.wf,Ym (by rcases hk with⟨rfl,_⟩|⟨rfl,_⟩ <;> exact jN) A.rk,jnv A.ne (.inl (by omega)),trivial⟩⟩ (by rcases hk with⟨rfl,_⟩|⟨rfl,_⟩ <;> exact jN) (by omega) (by omega) (by rw[I];exact Cn.cons rfl A.cn) (by rw[C];rfl) (jV xa (by rw[B];show i0+(0+1)=i0+1;omega)) c1 ?_ F;rw[E,pw,if_neg (by omega),if_neg (by omega),if_neg (by omega)];rfl
theorem jBH {c:T}(A:wf c) (f:Nat->Int):toX (brk c) f=toX c fun i=>f (1+i):=by
 cases c with
 |nd b k s n xs kids=>
  rw[wf]at A
  have B:pw (.nd (b+1) k s n xs kids)=1+pw (.nd b k s n xs kids):=by
   rw[pw,pw]
   split
   .rename_i h;have:=A.2.1 h;omega
   .split
    .omega
    .split <;> omega
  have e:(fun i=>f (b+1+((pre k s n xs).length+i)))=fun i=>(fun i=>f (1+i)) (b+((pre k s n xs).length+i)):=by
   funext i
   show f _=f _
   congr 1
   omega
  rw[brk,toX,toX,B,e]
section
variable {L:List Tok}{ps:List CP}{i0 m e:Nat}{x y z:Int}{a b d:T}{cp:CP}
theorem jF4 {c:T}(h:Gt L ps (i0+1) m x 0 c) (A:(jE L i0).k=23) (B:(jE L m).k=24):Gt L ps i0 (m+1) x 7 (brk c):=by
 obtain⟨j,rfl,xa⟩:=h.xa;refine⟨jut h.wf h.ne,by rw[ju9];exact jN,?_,?_,j,rfl,?_⟩
 .have:=h.ne;cases c;exact this
 .rw[jtN]
  exact Cn.cons (tk1 A (by decide) (by decide)) (h.cn.app (Cn.one (tk1 B (by decide) (by decide))))
 .rw[jBH h.wf,jpp L (b:=i0+1) (fun i=>by omega)]
  exact xa
theorem jF0 (A:Gt L ps i0 m x 6 a) (B:Gt L ps (m+1) e y 0 b) (I:(jE L m).k=18) (K:(jE L e).k=24) (c1:cp.k=20) (F:cp.a=(jE L m).p) (H:cp.ns=[]) (C:cp.ks=[x,y]):Gt L (ps ++[cp]) i0 (e+1) ps.length 6 (.nd 0 20 0 0 [] [a,b]):=by
 obtain⟨ja,rfl,xa⟩:=A.xa;obtain⟨jb,rfl,O⟩:=B.xa;have R:=A.cn.len
 have E:fl (.nd 0 20 0 0 [] [a,b])=fl a ++(Tk.of 18 ::(fl b ++[cB])):=by
  rw[jnf];simp[bod,pre,flk,sep,post]
 refine jp4 (js:=[ja,jb]) ⟨rfl,fun e=>(by cases e),fun e=>(by cases e),⟨A.wf,A.rk,jnv A.ne (.inl (by decide)),B.wf,Yi _,jnv B.ne (.inl (by decide)),trivial⟩⟩ jN (by decide) (by decide) (by rw[E];exact A.cn.app (Cn.cons (tk1 I (by decide) (by decide)) (B.cn.app (Cn.one (tk1 K (by decide) (by decide)))))) (by rw[C];rfl) (jsO xa O (by show i0+(0+0)=i0;omega) (by show i0+(fl a).length+1=m+1;omega)) c1 ?_ H;rw[F,pw,if_neg (by decide),if_neg (by decide),if_pos (by decide),jow,Kc];unfold fP;rw[R]
theorem jF3 {A:List T}{ks:List Int}(h:Gl L ps 19 i0 m ks 6 A) (Z:2<=A.length) (W:A.length<=5) (c1:cp.k=19) (F:∃k0 kt,ks=k0 ::kt/\cp.a=joO ps k0) (H:cp.ns=[]) (E:cp.ks=ks):Gt L (ps ++[cp]) i0 m ps.length 5 (.nd 0 19 0 0 [] A):=by
 obtain⟨js,rfl,xa⟩:=h.xa
 have K:fl (.nd 0 19 0 0 [] A)=flk 19 0 0 A:=by
  rw[jnf];simp[bod,pre,post]
 have R:(fun i=>fP L i0 (0+((pre 19 0 0 []).length+i)))=fP L i0:=jpp L (fun i=>by show i0+(0+(0+i))=i0+i;omega);refine jp4 (js:=js) ⟨by simp[arB];omega,fun e=>(by cases e),fun e=>(by cases e),jrB 19 6 (by decide) (fun i=>jN) A 0 h.ok⟩ jN (by decide) (by decide) (by rw[K];exact h.cn) E (by rw[R];exact xa) c1 ?_ H;obtain⟨k0,kt,B,O⟩:=F;rw[O]
 match A,js,xa,B with
 |c0 ::ct,j0 ::jt,xa,B=>
  rw[Kt]at B;injection B with e1 e2
  rw[jni,XAs]at xa;obtain⟨q,I,U⟩:=xa.1.get;have Y:=(jG I).1;have he:=(jG I).2;rw[<-e1]
  have C:joO ps (j0:Int)=q.a:=by
   unfold joO;rw[if_neg (by omega),dif_pos (by simpa using Y)];simp only[Int.toNat_natCast];rw[he]
  rw[C,U,pw,if_neg (by decide),if_pos rfl,pwH]
  cases c0 with
  |nd b0 k0 s0 n0 x0 kids0=>
   rw[toX];show fP L i0 _=_
   congr 1
theorem jFT {A:List T}{ks:List Int}(h:Gl L ps 7 (i0+1) m ks 0 A) (R:2<=A.length) (O:A.length<=6) (C:(jE L i0).k=23) (B:(jE L m).k=24) (c1:cp.k=7) (F:cp.a=(jE L i0).p) (H:cp.ns=[]) (E:cp.ks=ks):Gt L (ps ++[cp]) i0 (m+1) ps.length 7 (.nd 1 7 0 0 [] A):=by
 obtain⟨js,rfl,xa⟩:=h.xa
 have I:fl (.nd 1 7 0 0 [] A)=oB ::(flk 7 0 0 A ++[cB]):=by
  rw[jnf];simp[bod,pre,post]
 have K:(fun i=>fP L i0 (1+((pre 7 0 0 []).length+i)))=fP L (i0+1):=jpp L (fun i=>by show i0+(1+(0+i))=i0+1+i;omega);refine jp4 (js:=js) ⟨by simp[arB];omega,fun e=>jN,fun e=>(by cases e),jrB 7 0 (by decide) (fun i=>jN) A 0 h.ok⟩ jN (by decide) (by decide) (by rw[I];exact Cn.cons (tk1 C (by decide) (by decide)) (h.cn.app (Cn.one (tk1 B (by decide) (by decide))))) E (by rw[K];exact xa) c1 ?_ H;rw[F,pw,if_pos rfl];rfl
theorem jFk {k c w:Nat}(h:Kw k c w) (i:Nat):sep k 0 i=[]:=by cases h <;> cases i <;> rfl
theorem jFV {A:List T}{ks:List Int}{k c w:Nat}(hk:Kw k c w) (h:Gl L ps k (i0+1) m ks 6 A) (U:A.length=c) (H:(jE L i0).k=w) (c1:cp.k=k) (K:cp.a=(jE L i0).p) (O:cp.ns=[]) (I:cp.ks=ks):Gt L (ps ++[cp]) i0 m ps.length (rk k) (.nd 0 k 0 0 [] A):=by
 obtain⟨js,rfl,xa⟩:=h.xa;have B:pre k 0 0 []=[(jE L i0).tk]:=by cases hk <;> rw[tk1 H (by decide) (by decide)] <;> rfl
 have C:post k=[]:=by cases hk <;> rfl
 have R:fl (.nd 0 k 0 0 [] A)=(jE L i0).tk ::flk k 0 0 A:=by
  rw[jnf];simp only[bod,B,C,List.replicate_zero,Yx,Kd,Ka]
 have W:(fun i=>fP L i0 (0+((pre k 0 0 []).length+i)))=fP L (i0+1):=jpp L (fun i=>by rw[B];show i0+(0+(1+i))=i0+1+i;omega)
 have F:pw (.nd 0 k 0 0 [] A)=0:=by
  rw[pw];cases hk <;> rfl
 have E:arB k 0 [] A.length=true:=by rw[U];cases hk <;> rfl
 refine jp4 (js:=js) ⟨E,fun e=>(by cases hk <;> cases e),fun e=>(by cases hk <;> cases e),?_⟩ (by show rk k<=rk k;exact jN) (by cases hk <;> decide) (by cases hk <;> decide) (by rw[R];exact Cn.cons rfl h.cn) I (by rw[W];exact xa) c1 (by rw[K,F];rfl) O;exact jrB k 6 (by cases hk <;> decide) (fun i=>by cases hk <;> simp[wanted]) A 0 h.ok
theorem jv0 {k n:Nat}{xs:List ByteArray}(H:wf (.nd 0 k 0 n xs [])) (O:rk k=7) (A:k≠25) (B:k≠10) (I:Cn L i0 e (fl (.nd 0 k 0 n xs []))) (F:pw (.nd 0 k 0 n xs [])=0) (c1:cp.k=k) (E:cp.a=(jE L i0).p) (K:cp.ns=xs) (C:cp.ks=[]):Gt L (ps ++[cp]) i0 e ps.length 7 (.nd 0 k 0 n xs []):=
 jp4 (js:=[]) H (by show 7<=rk k;omega) A B I C (by rw[jni,XAs];trivial) c1 (by rw[E,F];rfl) K
theorem jFX (C:(jE L i0).k=1) (c1:cp.k=1) (A:cp.a=(jE L i0).p) (B:cp.ns=[]) (E:cp.ks=[]):Gt L (ps ++[cp]) i0 (i0+1) ps.length 7 (.nd 0 1 0 (jE L i0).n [] []):=by
 refine jv0 ⟨rfl,fun e=>(by cases e),fun e=>(by cases e),trivial⟩ rfl (by decide) (by decide) ?_ rfl c1 A B E;rw[jnf];exact Cn.one (juM C)
theorem jFY (C:(jE L i0).k=2) (c1:cp.k=5) (A:cp.a=(jE L i0).p) (B:cp.ns=[jm9 (jE L i0)]) (E:cp.ks=[]):Gt L (ps ++[cp]) i0 (i0+1) ps.length 7 (.nd 0 5 0 0 [jm9 (jE L i0)] []):=by
 refine jv0 ⟨rfl,fun e=>(by cases e),fun e=>(by cases e),trivial⟩ rfl (by decide) (by decide) ?_ rfl c1 A B E;rw[jnf];exact Cn.one (tkn C)
theorem jFS (E:(jE L i0).k=23) (C:(jE L (i0+1)).k=24) (c1:cp.k=6) (A:cp.a=(jE L i0).p) (B:cp.ns=[]) (F:cp.ks=[]):Gt L (ps ++[cp]) i0 (i0+1+1) ps.length 7 (.nd 0 6 0 0 [] []):=by
 refine jv0 ⟨rfl,fun e=>(by cases e),fun e=>(by cases e),trivial⟩ rfl (by decide) (by decide) ?_ rfl c1 A B F;rw[jnf];exact Cn.cons (tk1 E (by decide) (by decide)) (Cn.one (tk1 C (by decide) (by decide)))
theorem jF1 {n:Nat}(B:Gt L ps (i0+1) m x 0 a) (A:Gt L ps (m+1) e y 0 b) (hd:Gt L ps (e+1) n z 0 d) (t0:(jE L i0).k=6) (E:(jE L m).k=7) (C:(jE L e).k=8) (c1:cp.k=11) (H:cp.a=(jE L i0).p) (I:cp.ns=[]) (F:cp.ks=[x,y,z]):Gt L (ps ++[cp]) i0 n ps.length 0 (.nd 0 11 0 0 [] [a,b,d]):=by
 obtain⟨ja,rfl,xa⟩:=B.xa;obtain⟨jb,rfl,R⟩:=A.xa;obtain⟨jd,rfl,O⟩:=hd.xa;have U:=B.cn.len;have nb:=A.cn.len
 have K:fl (.nd 0 11 0 0 [] [a,b,d])=Tk.of 6 ::(fl a ++(Tk.of 7 ::(fl b ++(Tk.of 8 ::fl d)))):=by
  rw[jnf];simp[bod,pre,flk,sep,post]
 refine jp4 (js:=[ja,jb,jd]) ⟨rfl,fun e=>(by cases e),fun e=>(by cases e),⟨B.wf,Yi _,jnv B.ne (.inl (by decide)),A.wf,Yi _,jnv A.ne (.inl (by decide)),hd.wf,Yi _,jnv hd.ne (.inl (by decide)),trivial⟩⟩ (Yi _) (by decide) (by decide) (by rw[K];exact Cn.cons (tk1 t0 (by decide) (by decide)) (B.cn.app (Cn.cons (tk1 E (by decide) (by decide)) (A.cn.app (Cn.cons (tk1 C (by decide) (by decide)) hd.cn))))) (by rw[F];rfl) (xas3 xa R O (by show i0+(0+1)=i0+1;omega) (by show i0+1+(fl a).length+1=m+1;omega) (by show m+1+(fl b).length+1=e+1;omega)) c1 (by rw[H];rfl) I
theorem jF2 {A:List ByteArray}{w:ByteArray}(R:A.length<=3) (E:Cn L (i0+1) m ((w ::A).map jnb)) (B:Gt L ps (m+1) e x 0 a) (t0:(jE L i0).k=9) (F:(jE L m).k=22) (c1:cp.k=12) (I:cp.a=(jE L i0).p) (K:cp.ns=w ::A) (H:cp.ks=[x]):Gt L (ps ++[cp]) i0 e ps.length 0 (.nd 0 12 0 0 (w ::A) [a]):=by
 obtain⟨ja,rfl,xa⟩:=B.xa;have U:=E.len
 have O:fl (.nd 0 12 0 0 (w ::A) [a])=Tk.of 9 ::((w ::A).map jnb ++(Tk.of 22 ::fl a)):=by
  rw[jnf];simp[bod,pre,flk,sep,post]
 have C:(pre 12 0 0 (w ::A)).length=((w ::A).map jnb).length+2:=by
  show(Tk.of 9 ::((w ::A).map jnb ++[Tk.of 22])).length=_;simp
 refine jp4 (js:=[ja]) ⟨by simp[arB];omega,fun e=>(by cases e),fun e=>(by cases e),⟨B.wf,Yi _,jnv B.ne (.inl (by decide)),trivial⟩⟩ (Yi _) (by decide) (by decide) (by rw[O];exact Cn.cons (tk1 t0 (by decide) (by decide)) (E.app (Cn.cons (tk1 F (by decide) (by decide)) B.cn))) (by rw[H];rfl) (jV xa (by rw[C];omega)) c1 (by rw[I];rfl) K
theorem jFZ {w:ByteArray}(A:Gt L ps (i0+3) m x 0 a) (B:Gt L ps (m+1) e y 0 b) (t0:(jE L i0).k=3) (O:(jE L (i0+1)).tk=jnb w) (E:(jE L (i0+2)).k=27) (C:(jE L m).k=5) (c1:cp.k=8) (H:cp.a=(jE L i0).p) (I:cp.ns=[w]) (F:cp.ks=[x,y]):Gt L (ps ++[cp]) i0 e ps.length 0 (.nd 0 8 0 0 [w] [a,b]):=by
 obtain⟨ja,rfl,xa⟩:=A.xa;obtain⟨jb,rfl,R⟩:=B.xa;have U:=A.cn.len
 have K:fl (.nd 0 8 0 0 [w] [a,b])=Tk.of 3 ::(jnb w ::(Tk.of 27 ::(fl a ++(Tk.of 5 ::fl b)))):=by
  rw[jnf];simp[bod,pre,flk,sep,post]
 refine jp4 (js:=[ja,jb]) ⟨rfl,fun e=>(by cases e),fun e=>(by cases e),⟨A.wf,Yi _,jnv A.ne (.inl (by decide)),B.wf,Yi _,jnv B.ne (.inl (by decide)),trivial⟩⟩ (Yi _) (by decide) (by decide) (by rw[K];exact Cn.cons (tk1 t0 (by decide) (by decide)) (Cn.cons O (Cn.cons (tk1 E (by decide) (by decide)) (A.cn.app (Cn.cons (tk1 C (by decide) (by decide)) B.cn))))) (by rw[F];rfl) (jsO xa R (by show i0+(0+3)=i0+3;omega) (by show i0+3+(fl a).length+1=m+1;omega)) c1 (by rw[H];rfl) I
theorem jFU {f w:ByteArray}{A:List ByteArray}{n:Nat}(Y:A.length<=3) (F:Cn L (i0+2) n ((f ::w ::A).map jnb)) (B:Gt L ps (n+1) m x 0 a) (C:Gt L ps (m+1) e y 0 b) (t0:(jE L i0).k=3) (U:(jE L (i0+1)).k=4) (I:(jE L n).k=27) (H:(jE L m).k=5) (c1:cp.k=9) (O:cp.a=(jE L i0).p) (R:cp.ns=f ::w ::A) (K:cp.ks=[x,y]):Gt L (ps ++[cp]) i0 e ps.length 0 (.nd 0 9 0 0 (f ::w ::A) [a,b]):=by
 obtain⟨ja,rfl,xa⟩:=B.xa;obtain⟨jb,rfl,Z⟩:=C.xa;have na:=B.cn.len;have nn:=F.len
 have W:fl (.nd 0 9 0 0 (f ::w ::A) [a,b])=Tk.of 3 ::(Tk.of 4 ::((f ::w ::A).map jnb ++(Tk.of 27 ::(fl a ++(Tk.of 5 ::fl b))))):=by
  rw[jnf];simp[bod,pre,flk,sep,post]
 have E:(pre 9 0 0 (f ::w ::A)).length=((f ::w ::A).map jnb).length+3:=by
  show(Tk.of 3 ::Tk.of 4 ::((f ::w ::A).map jnb ++[Tk.of 27])).length=_;simp
 refine jp4 (js:=[ja,jb]) ⟨by simp[arB];omega,fun e=>(by cases e),fun e=>(by cases e),⟨B.wf,Yi _,jnv B.ne (.inl (by decide)),C.wf,Yi _,jnv C.ne (.inl (by decide)),trivial⟩⟩ (Yi _) (by decide) (by decide) (by rw[W];exact Cn.cons (tk1 t0 (by decide) (by decide)) (Cn.cons (tk1 U (by decide) (by decide)) (F.app (Cn.cons (tk1 I (by decide) (by decide)) (B.cn.app (Cn.cons (tk1 H (by decide) (by decide)) C.cn)))))) (by rw[K];rfl) (jsO xa Z (by rw[E];omega) (by show n+1+(fl a).length+1=m+1;omega)) c1 (by rw[O];rfl) R
theorem jFW {w v:ByteArray}{A:List ByteArray}{n:Nat}(hz:A.length<=4) (H:Cn L (i0+2) n (jnt (w ::v ::A))) (B:Gt L ps (n+2) m x 0 a) (C:Gt L ps (m+1) e y 0 b) (t0:(jE L i0).k=3) (Y:(jE L (i0+1)).k=23) (I:(jE L n).k=24) (O:(jE L (n+1)).k=27) (K:(jE L m).k=5) (c1:cp.k=10) (U:cp.a=(jE L i0).p) (W:cp.ns=w ::v ::A) (R:cp.ks=[x,y]) :
 Gt L (ps ++[cp]) i0 e ps.length 0 (.nd 0 10 0 0 [] [.nd 1 25 0 0 (w ::v ::A) [],a,b]):=by
 obtain⟨ja,rfl,xa⟩:=B.xa;obtain⟨jb,rfl,xb⟩:=C.xa;have na:=B.cn.len;have nn:=H.len
 have F:fl (.nd 1 25 0 0 (w ::v ::A) [])=oB ::(jnt (w ::v ::A) ++[cB]):=by
  rw[jnf];simp[bod,pre,flk,post]
 have Z:fl (.nd 0 10 0 0 [] [.nd 1 25 0 0 (w ::v ::A) [],a,b])=Tk.of 3 ::(oB ::(jnt (w ::v ::A) ++(cB ::(Tk.of 27 ::(fl a ++(Tk.of 5 ::fl b)))))):=by
  rw[jnf];simp[bod,pre,flk,sep,post,F]
 have hw:wf (.nd 0 10 0 0 [] [.nd 1 25 0 0 (w ::v ::A) [],a,b]):=⟨rfl,fun e=>(by cases e),fun e=>(by cases e),⟨⟨by simp[arB];omega,by decide,by decide,trivial⟩,Yi _,⟨fun _=>⟨rfl,rfl⟩,fun _=>rfl⟩,B.wf,Yi _,jnv B.ne (.inr (by decide)),C.wf,Yi _,jnv C.ne (.inr (by decide)),trivial⟩⟩
 refine⟨hw,Yi _,(by show(10:Nat)≠25;decide),?_,ps.length,rfl,?_⟩
 .rw[Z]
  exact Cn.cons (tk1 t0 (by decide) (by decide)) (Cn.cons (tk1 Y (by decide) (by decide)) (H.app (Cn.cons (tk1 I (by decide) (by decide)) (Cn.cons (tk1 O (by decide) (by decide)) (B.cn.app (Cn.cons (tk1 K (by decide) (by decide)) C.cn))))))
 .rw[toX,if_pos rfl,if_pos rfl]
  have E:(fl (.nd 1 25 0 0 (w ::v ::A) [])).length=(jnt (w ::v ::A)).length+2:=by rw[F];simp
  refine jwR (js:=[ja,jb]) (by rw[R];rfl) ?_ c1 (by rw[U];rfl) W;rw[jni,jni,jni,jni];show XAs ps [ja,jb] [_,_];rw[XAs,XAs,XAs];refine⟨?_,?_,trivial⟩
  .rw[jpp L (b:=n+2) (fun i=>by
    rw[E];show i0+(0+(1+(0+(_+(1+i)))))=_
    omega)]
   exact xa
  .rw[jpp L (b:=m+1) (fun i=>by
    rw[E];show i0+(0+(1+(0+(_+(1+(_+(1+i)))))))=_
    omega)]
   exact xb
end
mutual
def smN:T->Prop
 | .nd _ _ _ _ xs kids=>(∀x ∈ xs,x.size<=1000)/\jqM kids
def jqM:List T->Prop
 |[]=>True
 |c ::r=>smN c/\jqM r
end
theorem jxw (k s:Nat):∀(l:List T) (i:Nat) (f:Nat->Int),(jni k s i l f).length=l.length
 |[],_,_=>by rw[jni];rfl
 |c ::r,i,f=>by rw[jni,Yk,Yk,jxw k s r]
variable {l:List Inf.X}
theorem l1 (h:l.length=1):∃a,l=[a]:=by
 match l,h with
 |[a],_=>exact⟨a,rfl⟩
theorem l2 (h:l.length=2):∃a b,l=[a,b]:=by
 match l,h with
 |[a,b],_=>exact⟨a,b,rfl⟩
theorem l3 (h:l.length=3):∃a b c,l=[a,b,c]:=by
 match l,h with
 |[a,b,c],_=>exact⟨a,b,c,rfl⟩
theorem lm (h:2<=l.length):∃a r,l=a ::r:=by
 cases l with
 |nil=>simp at h
 |cons a r=>exact⟨a,r,rfl⟩
set_option maxRecDepth 100000 in
mutual
theorem wz_of:∀(c:T) (f:Nat->Int),wf c->c.k≠25->smN c->Inf.WZ (toX c f)
 | .nd b k s n xs kids,f,hw,h25,hsm=>by
   rw[wf]at hw;rw[smN]at hsm;obtain⟨C,_,_,K⟩:=hw;obtain⟨E,R⟩:=hsm;have H:=fun(h10:k≠10)=>jul k s kids 0 (fun i=>f (b+((pre k s n xs).length+i))) K (fun h=>h10 h.1) R;have W:=jxw k s kids 0 (fun i=>f (b+((pre k s n xs).length+i)))
   have U:k=10->1<=kids.length->(2<=(jn2 kids).length/\(jn2 kids).length<=6/\(∀x ∈ jn2 kids,x.size<=1000))/\∀y ∈ (jni k s 0 kids fun i=>f (b+((pre k s n xs).length+i))).tail,Inf.WZ y:=by
    intro e h0
    match kids,K,R,h0 with
    |c ::r,K,R,_=>
     rw[wfs]at K;rw[jqM]at R;have hc:c.k=25:=K.2.2.1.2 ⟨e,rfl⟩;refine⟨?_,?_⟩
     .obtain⟨b',k',s',n',xs',kids'⟩:=c
      have hk:k'=25:=hc;subst hk;have h1:=K.1;have Z:=R.1;rw[wf]at h1;rw[smN]at Z;have Y:=h1.1;simp only[arB,Yc,Yd]at Y;exact⟨Y.1.2,Y.2,Z.1⟩
     .rw[jni]
      exact jul k s r 1 _ K.2.2.2 (fun h=>by simp at h) R.2
   rw[toX];generalize f (pw (.nd b k s n xs kids))=p;generalize (jni k s 0 kids fun i=>f (b+((pre k s n xs).length+i)))=l at H W U ⊢;generalize kids.length=m at C W U;generalize jn2 kids=pn at U ⊢;unfold arB at C
   split at C
   case h_25=>exact absurd rfl h25
   case h_26=>cases C
   case h_1=>
    simp only[Yc,Yl,Yn,Yd,Yf]at C;have A:=H (by decide);have F:xs.length=0:=by rw[C.2];rfl
    rw[if_neg (by decide),if_neg (by decide)];obtain rfl:l=[]:=Yh (by omega);have B:([]:List Inf.X).length=0:=rfl;exact .nd (.leaf (by simp)) E (by omega) (by omega) (by intro e;omega) (by intro e;omega) (by intro e;omega) (by intro e;omega) A
   case h_2=>
    simp only[Yc,Yl,Yn,Yd,Yf]at C;have A:=H (by decide);have F:xs.length=0:=by rw[C.2];rfl
    rw[if_neg (by decide),if_neg (by decide)];obtain rfl:l=[]:=Yh (by omega);have B:([]:List Inf.X).length=0:=rfl;exact .nd (.leaf (by simp)) E (by omega) (by omega) (by intro e;omega) (by intro e;omega) (by intro e;omega) (by intro e;omega) A
   case h_3=>
    simp only[Yc,Yl,Yn,Yd,Yf]at C;have A:=H (by decide);have F:xs.length=0:=by rw[C.2];rfl
    rw[if_neg (by decide),if_neg (by decide)];obtain rfl:l=[]:=Yh (by omega);have B:([]:List Inf.X).length=0:=rfl;exact .nd (.leaf (by simp)) E (by omega) (by omega) (by intro e;omega) (by intro e;omega) (by intro e;omega) (by intro e;omega) A
   case h_4=>
    simp only[Yc,Yl,Yn,Yd,Yf]at C;have A:=H (by decide);have F:xs.length=0:=by rw[C.2];rfl
    rw[if_neg (by decide),if_neg (by decide)];obtain rfl:l=[]:=Yh (by omega);have B:([]:List Inf.X).length=0:=rfl;exact .nd (.leaf (by simp)) E (by omega) (by omega) (by intro e;omega) (by intro e;omega) (by intro e;omega) (by intro e;omega) A
   case h_5=>
    simp only[Yc,Yl,Yn,Yd,Yf]at C;have A:=H (by decide);have F:xs.length=0:=by rw[C.2];rfl
    rw[if_neg (by decide),if_neg (by decide)];obtain rfl:l=[]:=Yh (by omega);have B:([]:List Inf.X).length=0:=rfl;exact .nd (.leaf (by simp)) E (by omega) (by omega) (by intro e;omega) (by intro e;omega) (by intro e;omega) (by intro e;omega) A
   case h_6=>
    simp only[Yc,Yl,Yn,Yd,Yf]at C;have A:=H (by decide);rw[if_neg (by decide),if_neg (by decide)];obtain rfl:l=[]:=Yh (by omega);have B:([]:List Inf.X).length=0:=rfl;exact .nd (.leaf (by simp)) E (by omega) (by omega) (by intro e;omega) (by intro e;omega) (by intro e;omega) (by intro e;omega) A
   case h_7=>
    simp only[Yc,Yl,Yn,Yd,Yf]at C;have A:=H (by decide);have F:xs.length=0:=by rw[C.2];rfl
    rw[if_neg (by decide),if_neg (by decide)];have B:2<=l.length/\l.length<=6:=by omega
    obtain⟨I,r1,rfl⟩:=lm B.1;exact .nd (.many (by simp)) E (by omega) (by omega) (by intro e;omega) (by intro e;omega) (by intro e;omega) (by intro e;omega) A
   case h_8=>
    simp only[Yc,Yl,Yn,Yd,Yf]at C;have A:=H (by decide);rw[if_neg (by decide),if_neg (by decide)];have B:l.length=2:=by omega
    obtain⟨I,O,rfl⟩:=l2 B;exact .nd (.lt C.2) E (by omega) (by omega) (by intro e;omega) (by intro e;omega) (by intro e;omega) (by intro e;omega) A
   case h_9=>
    simp only[Yc,Yl,Yn,Yd,Yf]at C;have A:=H (by decide);rw[if_neg (by decide),if_neg (by decide)];have B:l.length=2:=by omega
    obtain⟨I,O,rfl⟩:=l2 B;exact .nd (.rc (by omega)) E (by omega) (by omega) (by intro e;omega) (by intro e;omega) (by intro e;omega) (by intro e;omega) A
   case h_10=>
    simp only[Yc,Yl,Yn,Yd,Yf]at C;obtain⟨⟨q1,q2,q3⟩,q4⟩:=U rfl (by omega);rw[if_pos rfl,if_pos rfl];have B:l.tail.length=2:=by rw[List.length_tail];omega
    obtain⟨I,O,hx⟩:=l2 B;rw[hx]at q4 B ⊢;exact .nd (.two (by simp)) q3 q2 (by omega) (by intro e;omega) (by intro e;omega) (by intro e;omega) (by intro e;omega) q4
   case h_11=>
    simp only[Yc,Yl,Yn,Yd,Yf]at C;have A:=H (by decide);have F:xs.length=0:=by rw[C.2];rfl
    rw[if_neg (by decide),if_neg (by decide)];have B:l.length=3:=by omega
    obtain⟨I,O,x3,rfl⟩:=l3 B;exact .nd (.three (by simp)) E (by omega) (by omega) (by intro e;omega) (by intro e;omega) (by intro e;omega) (by intro e;omega) A
   case h_12=>
    simp only[Yc,Yl,Yn,Yd,Yf]at C;have A:=H (by decide);rw[if_neg (by decide),if_neg (by decide)];have B:l.length=1:=by omega
    obtain⟨I,rfl⟩:=l1 B;exact .nd (.un (by simp)) E (by omega) (by omega) (by intro e;omega) (by intro e;omega) (by intro e;omega) (by intro e;omega) A
   case h_13=>
    simp only[Yc,Yl,Yn,Yd,Yf]at C;have A:=H (by decide);have F:xs.length=0:=by rw[C.2];rfl
    rw[if_neg (by decide),if_neg (by decide)];have B:l.length=1:=by omega
    obtain⟨I,rfl⟩:=l1 B;exact .nd (.un (by simp)) E (by omega) (by omega) (by intro e;omega) (by intro e;omega) (by intro e;omega) (by intro e;omega) A
   case h_14=>
    simp only[Yc,Yl,Yn,Yd,Yf]at C;have A:=H (by decide);have F:xs.length=0:=by rw[C.2];rfl
    rw[if_neg (by decide),if_neg (by decide)];have B:l.length=1:=by omega
    obtain⟨I,rfl⟩:=l1 B;exact .nd (.un (by simp)) E (by omega) (by omega) (by intro e;omega) (by intro e;omega) (by intro e;omega) (by intro e;omega) A
   case h_15=>
    simp only[Yc,Yl,Yn,Yd,Yf]at C;have A:=H (by decide);have F:xs.length=0:=by rw[C.2];rfl
    rw[if_neg (by decide),if_neg (by decide)];have B:l.length=1:=by omega
    obtain⟨I,rfl⟩:=l1 B;exact .nd (.un (by simp)) E (by omega) (by omega) (by intro e;omega) (by intro e;omega) (by intro e;omega) (by intro e;omega) A
   case h_16=>
    simp only[Yc,Yl,Yn,Yd,Yf]at C;have A:=H (by decide);have F:xs.length=0:=by rw[C.2];rfl
    rw[if_neg (by decide),if_neg (by decide)];have B:l.length=1:=by omega
    obtain⟨I,rfl⟩:=l1 B;exact .nd (.un (by simp)) E (by omega) (by omega) (by intro e;omega) (by intro e;omega) (by intro e;omega) (by intro e;omega) A
   case h_17=>
    simp only[Yc,Yl,Yn,Yd,Yf]at C;have A:=H (by decide);have F:xs.length=0:=by rw[C.1.2];rfl
    rw[if_neg (by decide),if_neg (by decide)];have B:l.length=2:=by omega
    obtain⟨I,O,rfl⟩:=l2 B;exact .nd (.two (by simp)) E (by omega) (by omega) (by intro e;omega) (by intro e;omega) (by intro e;omega) (by intro e;omega) A
   case h_18=>
    simp only[Yc,Yl,Yn,Yd,Yf]at C;have A:=H (by decide);have F:xs.length=0:=by rw[C.1.2];rfl
    rw[if_neg (by decide),if_neg (by decide)];have B:l.length=2:=by omega
    obtain⟨I,O,rfl⟩:=l2 B;exact .nd (.two (by simp)) E (by omega) (by omega) (by intro e;omega) (by intro e;omega) (by intro e;omega) (by intro e;omega) A
   case h_19=>
    simp only[Yc,Yl,Yn,Yd,Yf]at C;have A:=H (by decide);have F:xs.length=0:=by rw[C.1.2];rfl
    rw[if_neg (by decide),if_neg (by decide)];have B:l.length=2:=by omega
    obtain⟨I,O,rfl⟩:=l2 B;exact .nd (.two (by simp)) E (by omega) (by omega) (by intro e;omega) (by intro e;omega) (by intro e;omega) (by intro e;omega) A
   case h_20=>
    simp only[Yc,Yl,Yn,Yd,Yf]at C;have A:=H (by decide);have F:xs.length=0:=by rw[C.2];rfl
    rw[if_neg (by decide),if_neg (by decide)];have B:l.length=2:=by omega
    obtain⟨I,O,rfl⟩:=l2 B;exact .nd (.two (by simp)) E (by omega) (by omega) (by intro e;omega) (by intro e;omega) (by intro e;omega) (by intro e;omega) A
   case h_21=>
    simp only[Yc,Yl,Yn,Yd,Yf]at C;have A:=H (by decide);have F:xs.length=0:=by rw[C.2];rfl
    rw[if_neg (by decide),if_neg (by decide)];have B:l.length=2:=by omega
    obtain⟨I,O,rfl⟩:=l2 B;exact .nd (.two (by simp)) E (by omega) (by omega) (by intro e;omega) (by intro e;omega) (by intro e;omega) (by intro e;omega) A
   case h_22=>
    simp only[Yc,Yl,Yn,Yd,Yf]at C;have A:=H (by decide);have F:xs.length=0:=by rw[C.2];rfl
    rw[if_neg (by decide),if_neg (by decide)];have B:l.length=2:=by omega
    obtain⟨I,O,rfl⟩:=l2 B;exact .nd (.two (by simp)) E (by omega) (by omega) (by intro e;omega) (by intro e;omega) (by intro e;omega) (by intro e;omega) A
   case h_23=>
    simp only[Yc,Yl,Yn,Yd,Yf]at C;have A:=H (by decide);have F:xs.length=0:=by rw[C.2];rfl
    rw[if_neg (by decide),if_neg (by decide)];have B:2<=l.length/\l.length<=6:=by omega
    obtain⟨I,r1,rfl⟩:=lm B.1;exact .nd (.many (by simp)) E (by omega) (by omega) (by intro e;omega) (by intro e;omega) (by intro e;omega) (by intro e;omega) A
   case h_24=>
    simp only[Yc,Yl,Yn,Yd,Yf]at C;have A:=H (by decide);have F:xs.length=0:=by rw[C.2];rfl
    rw[if_neg (by decide),if_neg (by decide)];have B:l.length=3:=by omega
    obtain⟨I,O,x3,rfl⟩:=l3 B;exact .nd (.three (by simp)) E (by omega) (by omega) (by intro e;omega) (by intro e;omega) (by intro e;omega) (by intro e;omega) A
theorem jul (k s:Nat):∀(l:List T) (i:Nat) (f:Nat->Int),wfs k i l->¬(k=10/\i=0)->jqM l->∀y ∈ jni k s i l f,Inf.WZ y
 |[],i,f,_,_,_=>by rw[jni];intro y A;simp at A
 |c ::r,i,f,hw,hk,hs=>by
  rw[wfs]at hw;rw[jqM]at hs;rw[jni];intro y A;rcases Kk.1 A with rfl|A
  .exact wz_of c _ hw.1 (fun e=>hk (hw.2.2.1.1 e)) hs.1
  .exact jul k s r (i+1) _ hw.2.2.2 (fun h=>by have:=h.2;omega) hs.2 y A
end
set_option maxRecDepth 100000 in
mutual
theorem sz_of:∀(c:T) (f:Nat->Int),wf c->c.k≠25->Inf.sz (toX c f)+1<=2*(fl c).length
 | .nd b k s n xs kids,f,hw,h25=>by
   rw[wf]at hw;obtain⟨C,Y,_,H⟩:=hw;have E:=fun(h10:k≠10)=>juO k s kids 0 (fun i=>f (b+((pre k s n xs).length+i))) H (fun h=>h10 h.1);have U:=jtM b k s n xs kids;have R:=jt1 k s n xs kids
   have I:k≠10->kids.length=2->Inf.szs (jni k s 0 kids fun i=>f (b+((pre k s n xs).length+i)))+2+2*(sep k s 1).length<=2*(flk k s 0 kids).length:=by
    intro e W
    match kids,H,W with
    |[c,d],H,_=>
     rw[wfs,wfs]at H;have h1:=sz_of c (fun j=>f (b+((pre k s n xs).length+((sep k s 0).length+j)))) H.1 (fun q=>e (H.2.2.1.1 q).1);have Z:=sz_of d (fun j=>f (b+((pre k s n xs).length+((sep k s 0).length+((fl c).length+((sep k s (0+1)).length+j)))))) H.2.2.2.1 (fun q=>e (H.2.2.2.2.2.1.1 q).1);rw[jni,jni,jni,Inf.szs,Inf.szs,Inf.szs,jqm,jqm];rw[show(0+1:Nat)=1 from rfl]at Z ⊢;omega
   have K:k=10->1<=kids.length->Inf.szs (jni k s 0 kids fun i=>f (b+((pre k s n xs).length+i))).tail+(kids.length-1)<=2*(flk k s 0 kids).length:=by
    intro e A
    match kids,H,A with
    |c ::r,H,_=>
     rw[wfs]at H;rw[jni,jqm];have:=juO k s r 1 (fun j=>f (b+((pre k s n xs).length+((sep k s 0).length+((fl c).length+j))))) H.2.2.2 (fun h=>by simp at h);show Inf.szs (jni k s (0+1) r _)+(r.length+1-1)<=_;rw[show(0+1:Nat)=1 from rfl];omega
   rw[toX,Inf.sz,U,R];clear U R;generalize (jni k s 0 kids fun i=>f (b+((pre k s n xs).length+i)))=l at E I K ⊢;generalize (flk k s 0 kids).length=F at E I K ⊢;generalize kids.length=m at C E I K;unfold arB at C
   split at C
   case h_25=>exact absurd rfl h25
   case h_26=>cases C
   case h_1=>
    simp only[Yc,Yl,Yn,Yd,Yf]at C;have B:=E (by decide);rw[if_neg (by decide)];have A:1<=(pre 1 s n xs).length:=by simp[pre]
    omega
   case h_2=>
    simp only[Yc,Yl,Yn,Yd,Yf]at C;have B:=E (by decide);rw[if_neg (by decide)];have A:1<=(pre 2 s n xs).length:=by simp[pre]
    omega
   case h_3=>
    simp only[Yc,Yl,Yn,Yd,Yf]at C;have B:=E (by decide);rw[if_neg (by decide)];have A:1<=(pre 3 s n xs).length:=by simp[pre]
    omega
   case h_4=>
    simp only[Yc,Yl,Yn,Yd,Yf]at C;have B:=E (by decide);rw[if_neg (by decide)];have A:1<=(pre 4 s n xs).length:=by simp[pre]
    omega
   case h_5=>
    simp only[Yc,Yl,Yn,Yd,Yf]at C;have B:=E (by decide);rw[if_neg (by decide)];have A:1<=(pre 6 s n xs).length:=by simp[pre]
    omega
   case h_6=>
    simp only[Yc,Yl,Yn,Yd,Yf]at C;have B:=E (by decide);rw[if_neg (by decide)];have A:(pre 5 s n xs).length=1:=by simp[pre,C.2]
    omega
   case h_7=>
    simp only[Yc,Yl,Yn,Yd,Yf]at C;have B:=E (by decide);rw[if_neg (by decide)];have hb:=Y rfl;omega
   case h_8=>
    simp only[Yc,Yl,Yn,Yd,Yf]at C;have B:=E (by decide);rw[if_neg (by decide)];have A:1<=(pre 8 s n xs).length:=by simp[pre]
    omega
   case h_9=>
    simp only[Yc,Yl,Yn,Yd,Yf]at C;have B:=E (by decide);rw[if_neg (by decide)];have A:1<=(pre 9 s n xs).length:=by simp[pre]
    omega
   case h_11=>
    simp only[Yc,Yl,Yn,Yd,Yf]at C;have B:=E (by decide);rw[if_neg (by decide)];have A:1<=(pre 11 s n xs).length:=by simp[pre]
    omega
   case h_12=>
    simp only[Yc,Yl,Yn,Yd,Yf]at C;have B:=E (by decide);rw[if_neg (by decide)];have A:1<=(pre 12 s n xs).length:=by simp[pre]
    omega
   case h_13=>
    simp only[Yc,Yl,Yn,Yd,Yf]at C;have B:=E (by decide);rw[if_neg (by decide)];have A:1<=(pre 13 s n xs).length:=by simp[pre]
    omega
   case h_14=>
    simp only[Yc,Yl,Yn,Yd,Yf]at C;have B:=E (by decide);rw[if_neg (by decide)];have A:1<=(pre 14 s n xs).length:=by simp[pre]
    omega
   case h_15=>
    simp only[Yc,Yl,Yn,Yd,Yf]at C;have B:=E (by decide);rw[if_neg (by decide)];have A:1<=(pre 21 s n xs).length:=by simp[pre]
    omega
   case h_16=>
    simp only[Yc,Yl,Yn,Yd,Yf]at C;have B:=E (by decide);rw[if_neg (by decide)];have A:1<=(pre 22 s n xs).length:=by simp[pre]
    omega
   case h_17=>
    simp only[Yc,Yl,Yn,Yd,Yf]at C;have B:=E (by decide);rw[if_neg (by decide)];have O:=I (by decide) (by omega);have A:(sep 15 s 1).length=1:=rfl;omega
   case h_18=>
    simp only[Yc,Yl,Yn,Yd,Yf]at C;have B:=E (by decide);rw[if_neg (by decide)];have O:=I (by decide) (by omega);have A:(sep 16 s 1).length=1:=rfl;omega
   case h_19=>
    simp only[Yc,Yl,Yn,Yd,Yf]at C;have B:=E (by decide);rw[if_neg (by decide)];have O:=I (by decide) (by omega);have A:(sep 17 s 1).length=1:=rfl;omega
   case h_20=>
    simp only[Yc,Yl,Yn,Yd,Yf]at C;have B:=E (by decide);rw[if_neg (by decide)];have O:=I (by decide) (by omega);have A:(sep 18 s 1).length=1:=rfl;omega
   case h_21=>
    simp only[Yc,Yl,Yn,Yd,Yf]at C;have B:=E (by decide);rw[if_neg (by decide)];have O:=I (by decide) (by omega);have A:(sep 20 s 1).length=1:=rfl;omega
   case h_22=>
    simp only[Yc,Yl,Yn,Yd,Yf]at C;have B:=E (by decide);rw[if_neg (by decide)];have A:1<=(pre 23 s n xs).length:=by simp[pre]
    omega
   case h_23=>
    simp only[Yc,Yl,Yn,Yd,Yf]at C;have B:=E (by decide);rw[if_neg (by decide)];omega
   case h_24=>
    simp only[Yc,Yl,Yn,Yd,Yf]at C;have B:=E (by decide);rw[if_neg (by decide)];have A:1<=(pre 24 s n xs).length:=by simp[pre]
    omega
   case h_10=>
    simp only[Yc,Yl,Yn,Yd,Yf]at C;have h0:=K rfl (by omega);rw[if_pos rfl];have A:1<=(pre 10 s n xs).length:=by simp[pre]
    omega
theorem juO (k s:Nat):∀(l:List T) (i:Nat) (f:Nat->Int),wfs k i l->¬(k=10/\i=0)->Inf.szs (jni k s i l f)+l.length<=2*(flk k s i l).length
 |[],i,f,_,_=>by rw[jni,Inf.szs];simp
 |c ::r,i,f,hw,hk=>by
  rw[wfs]at hw;rw[jni,Inf.szs,jqm,Yk];have A:=sz_of c (fun j=>f ((sep k s i).length+j)) hw.1 (fun e=>hk (hw.2.2.1.1 e));have B:=juO k s r (i+1) (fun j=>f ((sep k s i).length+((fl c).length+j))) hw.2.2.2 (fun h=>by have:=h.2;omega);omega
end
theorem jyQ:∀{xs:List ByteArray}{x:ByteArray},x ∈ xs->jnb x ∈ jnt xs
 |[y],x,h=>by have:x=y:=by simpa using h
              subst this;simp[jnt]
 |y ::z ::r,x,h=>by
  rw[jnt];rcases Kk.1 h with rfl|h
  .simp
  .exact Yv _ (Yv _ (jyQ h))
theorem jES {k s n m:Nat}{xs:List ByteArray}{x:ByteArray}(A:arB k s xs m=true) (h:x ∈ xs):jnb x ∈ pre k s n xs:=by
 have B:jnb x ∈ xs.map jnb:=List.mem_map_of_mem h;unfold arB at A
 split at A <;> (try simp only[Yc,Yn,Yd,Yf]at A) <;> first
  |(exfalso;rw[A.2]at h;simp at h;done)
  |(exfalso;rw[A.1.2]at h;simp at h;done)
  |(simp only[pre];exact B)
  |(simp only[pre];exact jyQ h)
  |(simp only[pre];simp[h];done)
  |(simp only[pre];refine Yv _ ?_;exact Uj _ B)
  |(simp only[pre];refine Yv _ (Yv _ ?_);exact Uj _ B)
  |(exact absurd A (by simp))
mutual
theorem sm_of:∀(c:T),wf c->(∀t ∈ fl c,t.k=2->t.x.size<=1000)->smN c
 | .nd b k s n xs kids,hw,h=>by
   rw[wf]at hw;rw[smN];have A:∀t ∈ bod k s n xs kids,t.k=2->t.x.size<=1000:=fun t ht=>h t (by rw[jnf];simp[ht]);refine⟨fun x hx=>A (jnb x) (by rw[bod];exact Uj _ (jES hw.1 hx)) rfl,jxR kids k s 0 hw.2.2.2 (fun t ht=>A t (by rw[bod];exact List.mem_append_right _ (Uj _ ht)))⟩
theorem jxR:∀(l:List T) (k s i:Nat),wfs k i l->(∀t ∈ flk k s i l,t.k=2->t.x.size<=1000)->jqM l
 |[],k,s,i,_,_=>by rw[jqM];trivial
 |c ::r,k,s,i,hw,h=>by
  rw[wfs]at hw;rw[jqM];rw[flk]at h;exact⟨sm_of c hw.1 (fun t ht=>h t (by simp[ht])),jxR r k s (i+1) hw.2.2.2 (fun t ht=>h t (by simp[ht]))⟩
end
mutual
theorem toX_congr:∀(c:T) (f f':Nat->Int),wf c->(∀i,i<(fl c).length->f i=f' i)->toX c f=toX c f'
 | .nd b k s n xs kids,f,f',hw,h=>by
   have C:=jtM b k s n xs kids;have B:=jt1 k s n xs kids;have A:=jve _ hw;rw[wf]at hw;rw[toX,toX,h _ A,jxx k s kids 0 _ _ hw.2.2.2 (fun i hi=>h _ (by omega))]
theorem jxx (k s:Nat):∀(l:List T) (i:Nat) (f f':Nat->Int),wfs k i l->(∀j,j<(flk k s i l).length->f j=f' j)->jni k s i l f=jni k s i l f'
 |[],_,_,_,_,_=>by rw[jni,jni]
 |c ::r,i,f,f',hw,h=>by
  have A:=jqm k s i c r;rw[jni,jni,toX_congr c _ _ hw.1 (fun j hj=>h _ (by omega)),jxx k s r _ _ _ hw.2.2.2 (fun j hj=>h _ (by omega))]
end
end Pl
end Go.Proofs.YtlpmpelnhdoboaaGreatDoor
