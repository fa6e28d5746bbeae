import Derived.Test.YtlpmpelnhdoboaaGreatDoorS19
import Derived.Test.YtlpmpelnhdoboaaGreatDoorS20
import Derived.Test.YtlpmpelnhdoboaaGreatDoorRows
import Derived.JoinedOf
import Derived.ProofKit
set_option linter.unusedVariables false
set_option linter.unusedSimpArgs false
set_option maxHeartbeats 20000000
namespace Go.Proofs.YtlpmpelnhdoboaaGreatDoor
namespace Dm
open Go.RowKit Tg
variable {cb:Nat}
theorem jom {w:World}{κ:Tg.Kp}{A:Inf.DS}{E C B:Nat}{f:Nat}{args:Array Value}{r:Nat × Inf.DS}(H:Calls Tryz.prog f args w (NQ cb κ w A E B)) (F:r=(B,A)) (I:E<=C):Calls Tryz.prog f args w (NQ cb κ w r.2 C r.1):=by
 rw[F];exact H.mono (fun e w' ⟨κ',a,b,c⟩=>⟨κ',a,b,c.mono I⟩)
theorem jzx:∀{gs:List G}{l:List Inf.X},GXs gs l->gs.length=l.length/\∀(j:Nat) (g:G) (x:Inf.X),gs[j]? =some g->l[j]? =some x->GX g x/\Inf.sz x<=Inf.szs l
 |_,_,.nil=>⟨rfl,fun j g x h=>by simp at h⟩
 |_,_,.cons (g:=g0) (x:=x0) (gs:=gs) (l:=l) h hs=>by
  obtain⟨A,B⟩:=jzx hs;refine⟨by simp[A],fun j g x hg hx=>?_⟩
  cases j with
  |zero=>cases hg;cases hx;rw[Inf.szs];exact⟨h,by omega⟩
  |succ j=>
   obtain⟨a,b⟩:=B j g x hg hx;rw[Inf.szs];exact⟨a,by omega⟩
set_option maxRecDepth 100000 in
theorem jGn {k:Nat}{fm nm:ByteArray}{ns xs:List ByteArray}{gs:List G}{l:List Inf.X}{m:Nat}(h3:GN k fm nm ns xs m) (W:gs.length=m) (O:gs.length=l.length) (F:∀(j:Nat) (g:G) (x:Inf.X),gs[j]? =some g->l[j]? =some x->WD cb g x) (K:∀(j:Nat) (g:G) (x:Inf.X),gs[j]? =some g->l[j]? =some x->g.pos=x.p)
 {w:World}{κ:Tg.Kp}{tb:Nat}{S:Inf.DS}{N:Nat}{p num:Int}{nv kv:Value}{ea:Option Addr}{ec:Nat}{env:Inf.Env}(h:DM w κ cb S N) (nd:ND w κ tb fm p num nm nv kv ns gs) (he:EV w κ (.slice ea env.length ec) env) (Z:env.length+6*Inf.sz (.nd k p xs l)<=9000) (Y:N+16*Inf.sz (.nd k p xs l)<=80000) :
 Calls Tryz.prog 80 #[.pointer (some ⟨cb,0,none⟩),.pointer (some ⟨tb,0,none⟩),.slice ea env.length ec] w (NQ cb κ w (Inf.dW (.nd k p xs l) env S).2 (N+16*Inf.sz (.nd k p xs l)) (Inf.dW (.nd k p xs l) env S).1):=by
 cases h3 with
 |num=>
  obtain rfl:gs=[]:=Yh W;obtain rfl:l=[]:=Yh (by rw[<-O];rfl);simp only[Inf.sz,Inf.szs]at Z Y ⊢;exact jom (jG2   h nd he (by omega) (by omega)) (by first|(rw[Inf.dW];done)|(rw[Inf.dW];rfl)|(simp only[Inf.dW];done)|(simp only[Inf.dW];rfl)) (by omega)
 |tru=>
  obtain rfl:gs=[]:=Yh W;obtain rfl:l=[]:=Yh (by rw[<-O];rfl);simp only[Inf.sz,Inf.szs]at Z Y ⊢;exact jom (jzV   h nd he (by omega) (by omega)) (by first|(rw[Inf.dW];done)|(rw[Inf.dW];rfl)|(simp only[Inf.dW];done)|(simp only[Inf.dW];rfl)) (by omega)
 |fls=>
  obtain rfl:gs=[]:=Yh W;obtain rfl:l=[]:=Yh (by rw[<-O];rfl);simp only[Inf.sz,Inf.szs]at Z Y ⊢;exact jom (jzV   h nd he (by omega) (by omega)) (by first|(rw[Inf.dW];done)|(rw[Inf.dW];rfl)|(simp only[Inf.dW];done)|(simp only[Inf.dW];rfl)) (by omega)
 |read=>
  obtain rfl:gs=[]:=Yh W;obtain rfl:l=[]:=Yh (by rw[<-O];rfl);simp only[Inf.sz,Inf.szs]at Z Y ⊢;exact jom (jGY   h nd he (by omega) (by omega)) (by first|(rw[Inf.dW];done)|(rw[Inf.dW];rfl)|(simp only[Inf.dW];done)|(simp only[Inf.dW];rfl)) (by omega)
 |unit=>
  obtain rfl:gs=[]:=Yh W;obtain rfl:l=[]:=Yh (by rw[<-O];rfl);simp only[Inf.sz,Inf.szs]at Z Y ⊢;exact jom (jGU   h nd he (by omega) (by omega)) (by first|(rw[Inf.dW];done)|(rw[Inf.dW];rfl)|(simp only[Inf.dW];done)|(simp only[Inf.dW];rfl)) (by omega)
 |let'=>
  obtain⟨A,B,H⟩:∃A B,gs=[A,B]:=by
   match gs,W with
   |[A,B],_=>exact⟨_,_,rfl⟩
  subst H
  obtain⟨a,b,E⟩:∃a b,l=[a,b]:=by
   match l,O with
   |[a,b],_=>exact⟨_,_,rfl⟩
  subst E;have C:=F 0 A a rfl rfl;have I:=K 0 A a rfl rfl;have U:=F 1 B b rfl rfl;have R:=K 1 B b rfl rfl;simp only[Inf.sz,Inf.szs]at Z Y ⊢;exact jom (jG5 C I U R  h nd he (by omega) (by omega)) (by first|(rw[Inf.dW];done)|(rw[Inf.dW];rfl)|(simp only[Inf.dW];done)|(simp only[Inf.dW];rfl)) (by omega)
 |pair h6=>
  obtain⟨A,B,H⟩:∃A B,gs=[A,B]:=by
   match gs,W with
   |[A,B],_=>exact⟨_,_,rfl⟩
  subst H
  obtain⟨a,b,E⟩:∃a b,l=[a,b]:=by
   match l,O with
   |[a,b],_=>exact⟨_,_,rfl⟩
  subst E;have C:=F 0 A a rfl rfl;have I:=K 0 A a rfl rfl;have U:=F 1 B b rfl rfl;have R:=K 1 B b rfl rfl;simp only[Inf.sz,Inf.szs]at Z Y ⊢;exact jom (jG1 C I U R h6 h nd he (by omega) (by omega)) (by first|(rw[Inf.dW];done)|(rw[Inf.dW];rfl)|(simp only[Inf.dW];done)|(simp only[Inf.dW];rfl)) (by omega)
 |iff=>
  obtain⟨A,B,g2,H⟩:∃A B g2,gs=[A,B,g2]:=by
   match gs,W with
   |[A,B,g2],_=>exact⟨_,_,_,rfl⟩
  subst H
  obtain⟨a,b,d,E⟩:∃a b d,l=[a,b,d]:=by
   match l,O with
   |[a,b,d],_=>exact⟨_,_,_,rfl⟩
  subst E;have C:=F 0 A a rfl rfl;have I:=K 0 A a rfl rfl;have U:=F 1 B b rfl rfl;have R:=K 1 B b rfl rfl;have h1:=F 2 g2 d rfl rfl;have h0:=K 2 g2 d rfl rfl;simp only[Inf.sz,Inf.szs]at Z Y ⊢;exact jom (jG7 C I U R h1 h0  h nd he (by omega) (by omega)) (by first|(rw[Inf.dW];done)|(rw[Inf.dW];rfl)|(simp only[Inf.dW];done)|(simp only[Inf.dW];rfl)) (by omega)
 |fn h6=>
  obtain⟨A,H⟩:∃A,gs=[A]:=by
   match gs,W with
   |[A],_=>exact⟨_,rfl⟩
  subst H
  obtain⟨a,E⟩:∃a,l=[a]:=by
   match l,O with
   |[a],_=>exact⟨_,rfl⟩
  subst E;have C:=F 0 A a rfl rfl;have I:=K 0 A a rfl rfl;simp only[Inf.sz,Inf.szs]at Z Y ⊢;exact jom (jG9 C I h6 h nd he (by omega) (by omega)) (by first|(rw[Inf.dW];done)|(rw[Inf.dW];rfl)|(simp only[Inf.dW];done)|(simp only[Inf.dW];rfl)) (by omega)
 |neg=>
  obtain⟨A,H⟩:∃A,gs=[A]:=by
   match gs,W with
   |[A],_=>exact⟨_,rfl⟩
  subst H
  obtain⟨a,E⟩:∃a,l=[a]:=by
   match l,O with
   |[a],_=>exact⟨_,rfl⟩
  subst E;have C:=F 0 A a rfl rfl;have I:=K 0 A a rfl rfl;simp only[Inf.sz,Inf.szs]at Z Y ⊢;exact jom (jG4 C I  h nd he (by omega) (by omega)) (by first|(rw[Inf.dW];done)|(rw[Inf.dW];rfl)|(simp only[Inf.dW];done)|(simp only[Inf.dW];rfl)) (by omega)
 |not=>
  obtain⟨A,H⟩:∃A,gs=[A]:=by
   match gs,W with
   |[A],_=>exact⟨_,rfl⟩
  subst H
  obtain⟨a,E⟩:∃a,l=[a]:=by
   match l,O with
   |[a],_=>exact⟨_,rfl⟩
  subst E;have C:=F 0 A a rfl rfl;have I:=K 0 A a rfl rfl;simp only[Inf.sz,Inf.szs]at Z Y ⊢;exact jom (jG3 C I  h nd he (by omega) (by omega)) (by first|(rw[Inf.dW];done)|(rw[Inf.dW];rfl)|(simp only[Inf.dW];done)|(simp only[Inf.dW];rfl)) (by omega)
 |seq=>
  obtain⟨A,B,H⟩:∃A B,gs=[A,B]:=by
   match gs,W with
   |[A,B],_=>exact⟨_,_,rfl⟩
  subst H
  obtain⟨a,b,E⟩:∃a b,l=[a,b]:=by
   match l,O with
   |[a,b],_=>exact⟨_,_,rfl⟩
  subst E;have C:=F 0 A a rfl rfl;have I:=K 0 A a rfl rfl;have U:=F 1 B b rfl rfl;have R:=K 1 B b rfl rfl;simp only[Inf.sz,Inf.szs]at Z Y ⊢;exact jom (jGW C I U R  h nd he (by omega) (by omega)) (by first|(rw[Inf.dW];done)|(rw[Inf.dW];rfl)|(simp only[Inf.dW];done)|(simp only[Inf.dW];rfl)) (by omega)
 |get=>
  obtain⟨A,B,H⟩:∃A B,gs=[A,B]:=by
   match gs,W with
   |[A,B],_=>exact⟨_,_,rfl⟩
  subst H
  obtain⟨a,b,E⟩:∃a b,l=[a,b]:=by
   match l,O with
   |[a,b],_=>exact⟨_,_,rfl⟩
  subst E;have C:=F 0 A a rfl rfl;have I:=K 0 A a rfl rfl;have U:=F 1 B b rfl rfl;have R:=K 1 B b rfl rfl;simp only[Inf.sz,Inf.szs]at Z Y ⊢;exact jom (jG8 C I U R  h nd he (by omega) (by omega)) (by first|(rw[Inf.dW];done)|(rw[Inf.dW];rfl)|(simp only[Inf.dW];done)|(simp only[Inf.dW];rfl)) (by omega)
 |prt=>
  obtain⟨A,H⟩:∃A,gs=[A]:=by
   match gs,W with
   |[A],_=>exact⟨_,rfl⟩
  subst H
  obtain⟨a,E⟩:∃a,l=[a]:=by
   match l,O with
   |[a],_=>exact⟨_,rfl⟩
  subst E;have C:=F 0 A a rfl rfl;have I:=K 0 A a rfl rfl;simp only[Inf.sz,Inf.szs]at Z Y ⊢;exact jom (jG0 C I  h nd he (by omega) (by omega)) (by first|(rw[Inf.dW];done)|(rw[Inf.dW];rfl)|(simp only[Inf.dW];done)|(simp only[Inf.dW];rfl)) (by omega)
 |len=>
  obtain⟨A,H⟩:∃A,gs=[A]:=by
   match gs,W with
   |[A],_=>exact⟨_,rfl⟩
  subst H
  obtain⟨a,E⟩:∃a,l=[a]:=by
   match l,O with
   |[a],_=>exact⟨_,rfl⟩
  subst E;have C:=F 0 A a rfl rfl;have I:=K 0 A a rfl rfl;simp only[Inf.sz,Inf.szs]at Z Y ⊢;exact jom (jG6 C I  h nd he (by omega) (by omega)) (by first|(rw[Inf.dW];done)|(rw[Inf.dW];rfl)|(simp only[Inf.dW];done)|(simp only[Inf.dW];rfl)) (by omega)
 |arr=>
  obtain⟨A,B,H⟩:∃A B,gs=[A,B]:=by
   match gs,W with
   |[A,B],_=>exact⟨_,_,rfl⟩
  subst H
  obtain⟨a,b,E⟩:∃a b,l=[a,b]:=by
   match l,O with
   |[a,b],_=>exact⟨_,_,rfl⟩
  subst E;have C:=F 0 A a rfl rfl;have I:=K 0 A a rfl rfl;have U:=F 1 B b rfl rfl;have R:=K 1 B b rfl rfl;simp only[Inf.sz,Inf.szs]at Z Y ⊢;exact jom (jHc C I U R  h nd he (by omega) (by omega)) (by first|(rw[Inf.dW];done)|(rw[Inf.dW];rfl)|(simp only[Inf.dW];done)|(simp only[Inf.dW];rfl)) (by omega)
 |put=>
  obtain⟨A,B,g2,H⟩:∃A B g2,gs=[A,B,g2]:=by
   match gs,W with
   |[A,B,g2],_=>exact⟨_,_,_,rfl⟩
  subst H
  obtain⟨a,b,d,E⟩:∃a b d,l=[a,b,d]:=by
   match l,O with
   |[a,b,d],_=>exact⟨_,_,_,rfl⟩
  subst E;have C:=F 0 A a rfl rfl;have I:=K 0 A a rfl rfl;have U:=F 1 B b rfl rfl;have R:=K 1 B b rfl rfl;have h1:=F 2 g2 d rfl rfl;have h0:=K 2 g2 d rfl rfl;simp only[Inf.sz,Inf.szs]at Z Y ⊢;exact jom (jGZ C I U R h1 h0  h nd he (by omega) (by omega)) (by first|(rw[Inf.dW];done)|(rw[Inf.dW];rfl)|(simp only[Inf.dW];done)|(simp only[Inf.dW];rfl)) (by omega)
 |op hk=>
  obtain⟨A,B,H⟩:∃A B,gs=[A,B]:=by
   match gs,W with
   |[A,B],_=>exact⟨_,_,rfl⟩
  subst H
  obtain⟨a,b,E⟩:∃a b,l=[a,b]:=by
   match l,O with
   |[a,b],_=>exact⟨_,_,rfl⟩
  subst E;have C:=F 0 A a rfl rfl;have I:=K 0 A a rfl rfl;have U:=F 1 B b rfl rfl;have R:=K 1 B b rfl rfl;simp only[Inf.sz,Inf.szs]at Z Y ⊢;rcases hk with⟨hk|hk,hc⟩|⟨hk,hc⟩ <;> subst hk
  .exact jom (jzU C I U R hc h nd he (by omega) (by omega)) (by first|(rw[Inf.dW];done)|(rw[Inf.dW];rfl)|(simp only[Inf.dW];done)|(simp only[Inf.dW];rfl)) (by omega)
  .exact jom (jzU C I U R hc h nd he (by omega) (by omega)) (by first|(rw[Inf.dW];done)|(rw[Inf.dW];rfl)|(simp only[Inf.dW];done)|(simp only[Inf.dW];rfl)) (by omega)
  .exact jom (jHa C I U R hc h nd he (by omega) (by omega)) (by first|(rw[Inf.dW];done)|(rw[Inf.dW];rfl)|(simp only[Inf.dW];done)|(simp only[Inf.dW];rfl)) (by omega)
 |var=>
  obtain rfl:gs=[]:=Yh W;obtain rfl:l=[]:=Yh (by rw[<-O];rfl);simp only[Inf.sz,Inf.szs]at Z Y ⊢;refine jom (jGT h nd he (by omega) (by omega)) ?_ (by omega);rw[Inf.dW];unfold vR;show(match Inf.look env nm with|some t=>_|none=>_)=_;cases Inf.look env nm <;> rfl
 |tup h6=>
  subst W;simp only[Inf.sz]at Z Y ⊢;exact jom (jGV O F h6 h nd he (by omega) (by omega)) (by first|(rw[Inf.dW];done)|(rw[Inf.dW];rfl)|(simp only[Inf.dW];done)|(simp only[Inf.dW];rfl)) (by omega)
 |call h6=>
  subst W
  obtain⟨A,h2,H⟩:∃A h2,gs=A ::h2:=by
   cases gs with
   |nil=>simp at h6
   |cons a b=>exact⟨_,_,rfl⟩
  subst H
  obtain⟨x0,l',E⟩:∃x0 l',l=x0 ::l':=by
   cases l with
   |nil=>simp at O
   |cons a b=>exact⟨_,_,rfl⟩
  subst E;simp only[Inf.sz,Inf.szs]at Z Y ⊢;refine jom (jHb (F 0 A x0 rfl rfl) (by simpa using O) (fun j g x hg hx=>F (j+1) g x hg hx) (by have:=h6.2;simp at this;omega) h nd he (by omega) (by omega)) ?_ (by omega);rw[Inf.dW];simp only[Inf.dWs];rfl
 |rc h6=>
  obtain⟨A,B,H⟩:∃A B,gs=[A,B]:=by
   match gs,W with
   |[A,B],_=>exact⟨_,_,rfl⟩
  subst H
  obtain⟨a,b,E⟩:∃a b,l=[a,b]:=by
   match l,O with
   |[a,b],_=>exact⟨_,_,rfl⟩
  subst E;have C:=F 0 A a rfl rfl;have I:=K 0 A a rfl rfl;have U:=F 1 B b rfl rfl;have R:=K 1 B b rfl rfl;simp only[Inf.sz,Inf.szs]at Z Y ⊢;refine jom (jGX C I U R h6.2 h nd he (by omega) (by omega)) ?_ (by omega);have e1:(S.each [nm] p).n=S.n+1:=by rw[Inf.each_n];rfl
  have e2:((S.each [nm] p).each ns p).n=S.n+(ns.length+1):=by rw[Inf.each_n,e1];omega
  have e3:(((S.each [nm] p).each ns p).put 0 []).n=S.n+(ns.length+1)+1:=by rw[Inf.put_n,e2]
  rw[Inf.dW];simp only[e1,e2,e3];rfl
theorem jBb :∀(n:Nat) (g:G) (x:Inf.X),Inf.sz x<=n->GX g x->WD cb g x:=by
 intro n
 induction n with
 |zero=>
  intro g x B A;cases A;rw[Inf.sz]at B;omega
 |succ n ih=>
  intro g x B A
  cases A with
  |@nd k fm nm p num ns xs gs l hgn hl=>
   obtain⟨H,C⟩:=jzx hl;rw[Inf.sz]at B;intro w κ S N tv ev env h ht he E F;obtain⟨I,O,kv,rfl,nd⟩:=ht.node;obtain⟨R,K,rfl⟩:=he.slice;exact jGn hgn rfl H (fun j g x A hx=>ih g x (by have:=(C j g x A hx).2;omega) (C j g x A hx).1) (fun j g x A hx=>(C j g x A hx).1.pos) h nd he E F
end Dm
namespace Dm
open Go.RowKit Sl Pl Tg
theorem jzz (k s:Nat):∀(l:List T) (i:Nat) (f:Nat->Int),(jnp k s i l f).length=l.length
 |[],_,_=>by rw[jnp];rfl
 |c ::r,i,f=>by rw[jnp,Yk,Yk,jzz k s r]
theorem jou {k:Nat}{A nm:ByteArray}{p n:Int}{ns xs:List ByteArray}{gs:List G}{l:List Inf.X}{m:Nat}(h:GN k A nm ns xs m) (C:gs.length=m) (B:GXs gs l):GX (.nd A p n nm ns gs) (.nd k p xs l):=.nd (C ▸ h) B
set_option maxRecDepth 100000 in
mutual
theorem gx_of:∀(c:T) (f:Nat->Int),wf c->c.k≠25->GX (jnh c f) (toX c f)
 | .nd b k s n xs kids,f,hw,h25=>by
   rw[wf]at hw;obtain⟨A,_,_,E⟩:=hw;have B:=fun(h10:k≠10)=>jvZ k s kids 0 (fun i=>f (b+((pre k s n xs).length+i))) E (fun h=>h10 h.1);have H:=jzz k s kids 0 (fun i=>f (b+((pre k s n xs).length+i)))
   have F:k=10->(jn2 kids).length<=6/\GXs (jnp k s 0 kids fun i=>f (b+((pre k s n xs).length+i))).tail (jni k s 0 kids fun i=>f (b+((pre k s n xs).length+i))).tail:=by
    intro e
    match kids,E with
    |[],_=>exact⟨by simp[jn2],by rw[jnp,jni];exact .nil⟩
    |c ::r,E=>
     rw[wfs]at E;have K:c.k=25:=E.2.2.1.2 ⟨e,rfl⟩;refine⟨?_,?_⟩
     .obtain⟨b',k',s',n',xs',kids'⟩:=c
      have hk:k'=25:=K;subst hk;have O:=E.1;rw[wf]at O;have R:=O.1;simp only[arB,Yc,Yd]at R;exact R.2
     .rw[jnp,jni]
      exact jvZ k s r 1 _ E.2.2.2 (fun h=>by simp at h)
   rw[jnh,toX];generalize f (pw (.nd b k s n xs kids))=p;generalize (jnp k s 0 kids fun i=>f (b+((pre k s n xs).length+i)))=gs at B H F ⊢;generalize (jni k s 0 kids fun i=>f (b+((pre k s n xs).length+i)))=l at B F ⊢;generalize kids.length=m at A H;generalize jn2 kids=pn at F ⊢;unfold arB at A
   split at A
   case h_25=>exact absurd rfl h25
   case h_1=>
    simp only[Yc,Yn,Yd,Yf]at A;rw[if_neg (by decide),if_neg (by decide)];have C:=B (by decide);obtain rfl:gs=[]:=Yh (by omega);cases C;exact jou .num rfl .nil
   case h_2=>
    simp only[Yc,Yn,Yd,Yf]at A;rw[if_neg (by decide),if_neg (by decide)];have C:=B (by decide);obtain rfl:gs=[]:=Yh (by omega);cases C;exact jou .tru rfl .nil
   case h_3=>
    simp only[Yc,Yn,Yd,Yf]at A;rw[if_neg (by decide),if_neg (by decide)];have C:=B (by decide);obtain rfl:gs=[]:=Yh (by omega);cases C;exact jou .fls rfl .nil
   case h_4=>
    simp only[Yc,Yn,Yd,Yf]at A;rw[if_neg (by decide),if_neg (by decide)];have C:=B (by decide);obtain rfl:gs=[]:=Yh (by omega);cases C;exact jou .read rfl .nil
   case h_5=>
    simp only[Yc,Yn,Yd,Yf]at A;rw[if_neg (by decide),if_neg (by decide)];have C:=B (by decide);obtain rfl:gs=[]:=Yh (by omega);cases C;exact jou .unit rfl .nil
   case h_6=>
    simp only[Yc,Yn,Yd,Yf]at A
    obtain⟨y,I⟩:∃y,xs=[y]:=by
     match xs,A.2 with
     |[y],_=>exact⟨_,rfl⟩
    subst I;rw[if_neg (by decide),if_neg (by decide)];have C:=B (by decide);obtain rfl:gs=[]:=Yh (by omega);cases C;exact jou .var rfl .nil
   case h_7=>
    simp only[Yc,Yn,Yd,Yf]at A;rw[if_neg (by decide),if_neg (by decide)];exact jou (.tup ⟨A.1.1,A.1.2⟩) H (B (by decide))
   case h_8=>
    simp only[Yc,Yn,Yd,Yf]at A
    obtain⟨y,I⟩:∃y,xs=[y]:=by
     match xs,A.2 with
     |[y],_=>exact⟨_,rfl⟩
    subst I;rw[if_neg (by decide),if_neg (by decide)];exact jou .let' (by omega) (B (by decide))
   case h_9=>
    simp only[Yc,Yn,Yd,Yf]at A
    obtain⟨y,ys,I⟩:∃y ys,xs=y ::ys:=by
     cases xs with
     |nil=>simp at A
     |cons a b=>exact⟨_,_,rfl⟩
    subst I;simp only[Yk]at A;rw[if_neg (by decide),if_neg (by decide)];exact jou (.rc (f:=y) (xs:=ys) ⟨by omega,by omega⟩) (by omega) (B (by decide))
   case h_10=>
    simp only[Yc,Yn,Yd,Yf]at A;rw[if_pos rfl,if_pos rfl];exact jou (.pair (F rfl).1) (by rw[List.length_tail];omega) (F rfl).2
   case h_11=>
    simp only[Yc,Yn,Yd,Yf]at A;rw[if_neg (by decide),if_neg (by decide)];exact jou (.iff) (by omega) (B (by decide))
   case h_12=>
    simp only[Yc,Yn,Yd,Yf]at A;rw[if_neg (by decide),if_neg (by decide)];exact jou (.fn (by omega)) (by omega) (B (by decide))
   case h_13=>
    simp only[Yc,Yn,Yd,Yf]at A;rw[if_neg (by decide),if_neg (by decide)];exact jou (.neg) (by omega) (B (by decide))
   case h_14=>
    simp only[Yc,Yn,Yd,Yf]at A;rw[if_neg (by decide),if_neg (by decide)];exact jou (.not) (by omega) (B (by decide))
   case h_15=>
    simp only[Yc,Yn,Yd,Yf]at A;rw[if_neg (by decide),if_neg (by decide)];have e:jC 14=⟨#[112,114,105,110,116]⟩:=by kernel_rfl
    show GX (.nd (jC 14) p 0 f_0 [] gs) _;rw[e];exact jou .prt (by omega) (B (by decide))
   case h_16=>
    simp only[Yc,Yn,Yd,Yf]at A;rw[if_neg (by decide),if_neg (by decide)];have e:jC 15=⟨#[108,101,110]⟩:=by kernel_rfl
    show GX (.nd (jC 15) p 0 f_0 [] gs) _;rw[e];exact jou .len (by omega) (B (by decide))
   case h_22=>
    simp only[Yc,Yn,Yd,Yf]at A;rw[if_neg (by decide),if_neg (by decide)];have e:jC 16=⟨#[97,114,114,97,121]⟩:=by kernel_rfl
    show GX (.nd (jC 16) p 0 f_0 [] gs) _;rw[e];exact jou .arr (by omega) (B (by decide))
   case h_24=>
    simp only[Yc,Yn,Yd,Yf]at A;rw[if_neg (by decide),if_neg (by decide)];have e:jC 17=⟨#[112,117,116]⟩:=by kernel_rfl
    show GX (.nd (jC 17) p 0 f_0 [] gs) _;rw[e];exact jou .put (by omega) (B (by decide))
   case h_17=>
    simp only[Yc,Yl,Yn,Yf]at A;rw[if_neg (by decide),if_neg (by decide)]
    have K:jpi (jC s)=false:=by
     obtain⟨_,hs⟩:=A;rcases hs with(rfl|rfl)|rfl <;> kernel_rfl
    exact jou (.op (.inl ⟨.inl rfl,K⟩)) (by omega) (B (by decide))
   case h_18=>
    simp only[Yc,Yl,Yn,Yf]at A;rw[if_neg (by decide),if_neg (by decide)]
    have K:jpi (jC s)=false:=by
     obtain⟨_,hs⟩:=A;rcases hs with rfl|rfl <;> kernel_rfl
    exact jou (.op (.inl ⟨.inr rfl,K⟩)) (by omega) (B (by decide))
   case h_19=>
    simp only[Yc,Yl,Yn,Yf]at A;rw[if_neg (by decide),if_neg (by decide)]
    have K:jpi (jC s)=true:=by
     obtain⟨_,hs⟩:=A;rcases hs with((((rfl|rfl)|rfl)|rfl)|rfl)|rfl <;> kernel_rfl
    exact jou (.op (.inr ⟨rfl,K⟩)) (by omega) (B (by decide))
   case h_20=>
    simp only[Yc,Yn,Yd,Yf]at A;rw[if_neg (by decide),if_neg (by decide)];exact jou (.seq) (by omega) (B (by decide))
   case h_21=>
    simp only[Yc,Yn,Yd,Yf]at A;rw[if_neg (by decide),if_neg (by decide)];exact jou (.get) (by omega) (B (by decide))
   case h_23=>
    simp only[Yc,Yn,Yd,Yf]at A;rw[if_neg (by decide),if_neg (by decide)];exact jou (.call ⟨A.1.1,by omega⟩) H (B (by decide))
   case h_26=>cases A
theorem jvZ (k s:Nat):∀(l:List T) (i:Nat) (f:Nat->Int),wfs k i l->¬(k=10/\i=0)->GXs (jnp k s i l f) (jni k s i l f)
 |[],i,f,_,_=>by rw[jnp,jni];exact .nil
 |c ::r,i,f,hw,hk=>by
  rw[wfs]at hw;rw[jnp,jni];exact .cons (gx_of c _ hw.1 (fun e=>hk (hw.2.2.1.1 e))) (jvZ k s r (i+1) _ hw.2.2.2 (fun h=>by have:=h.2;omega))
end
end Dm
section
open Go
theorem jmm {a b:Bool}(B:a=true) (A:b=true):(a && b)=true:=by rw[B,A];rfl
theorem jFE:joinedFacts Tryz.pinned.checked.prog 3 Tryz.f3 Rows.inferredSpec Rows.inferredRow=true:=by
 unfold joinedFacts
 repeat' (with_reducible refine jmm ?_ ?_)
 all_goals as_aux_lemma=>kernel_rfl
end
end Go.Proofs.YtlpmpelnhdoboaaGreatDoor
