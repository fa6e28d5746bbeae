import Derived.Test.YtlpmpelnhdoboaaGreatDoorS12
set_option linter.unusedVariables false
set_option linter.unusedSimpArgs false
set_option maxHeartbeats 20000000
namespace Go.Proofs.YtlpmpelnhdoboaaGreatDoor
namespace Sl
def Ends (l:List Tok):Prop:=∃u t,l=u ++[t]/\t.k=0
theorem Ends.ne {l:List Tok}(h:Ends l):∃t r,l=t ::r:=by
 obtain⟨u,t,rfl,_⟩:=h
 cases u with
 |nil=>exact⟨t,[],rfl⟩
 |cons x u=>exact⟨x,u ++[t],rfl⟩
theorem Ends.tail {t:Tok}{l:List Tok}(h:Ends (t ::l)) (hk:t.k≠0):Ends l:=by
 obtain⟨u,e,A,B⟩:=h
 cases u with
 |nil=>simp at A;rw[A.1]at hk;exact absurd B hk
 |cons x u=>simp at A;exact⟨u,e,A.2,B⟩
def lvl:J->Nat
 | .bracket=>13| .expr=>12| .cmp=>11| .sum=>10| .prod=>9| .sign=>8| .call=>7| .args _ _=>6| .operand=>5| .atom=>4|_=>0
def strict:J->Bool
 | .params _ _| .names _ _| .rest _| .cmpd _| .terms _| .facs _| .index _| .args _ _=>false
 |_=>true
def nzS:List St->Bool
 |[]=>true
 | .tm k ::ss=>k != 0 && nzS ss
 | .op k ::ss=>k != 0 && nzS ss
 |_ ::ss=>nzS ss
def jtK (j:J):List St->Bool
 | .jb j' ::_=>decide (lvl j'<lvl j) && strict j'
 |_=>true
theorem jGK {j:J}{h:Nat}{A:List St}{fin:List V->joM}(he:jm0 j h=some (A,fin)):nzS A=true/\jtK j A=true/\(strict j=true->A≠[])/\(A=[]->∀vs j',fin vs≠.go j'):=by
 unfold jm0 at he
 split at he <;> (try split at he) <;> (try split at he) <;> (try split at he) <;> (try split at he) <;> first
  |(simp at he;done)
  |(injection he with he;injection he with h1 h2;subst h1 h2;simp[nzS,jtK,strict,lvl];done)
  |(rename_i B;injection he with he;injection he with h1 h2;subst h1 h2;simp only[jnJ,jm6,jm5,jot,Yl,Yn]at B;simp[nzS,jtK,strict,lvl];omega)
theorem jsW {N:Nat}{L:Nat}(H:∀j l o,Ends l->l.length<L->∃res,Jb N j l o res/\∀v l' o',res= .ok v l' o'->Ends l'/\l'.length<=l.length) :
 ∀(ss:List St) (l:List Tok) (o:Nat),nzS ss=true->Ends l->l.length<L->∃res,Sq N ss l o res/\∀vs l' o',res= .ok vs l' o'->Ends l'/\l'.length<=l.length:=by
 intro ss
 induction ss with
 |nil=>
  intro l o _ he F;exact⟨_,Sq.nil l o,fun vs l' o' h=>by injection h with _ h2 _;subst h2;exact⟨he,Yy _⟩⟩
 |cons s ss ih=>
  intro l o B he F;obtain⟨t,r,rfl⟩:=he.ne
  cases s with
  |tm k=>
   simp only[nzS,Yc,bne_iff_ne]at B
   by_cases hk:t.k=k
   .obtain⟨res,hs,C⟩:=ih r o B.2 (he.tail (by rw[hk];exact B.1)) (by simp at F;omega)
    refine⟨_,Sq.tm hk hs,fun vs l' o' h=>?_⟩;obtain⟨A,_,E⟩:=Res.cons_ok h;have:=C A l' o' E;exact⟨this.1,by simp;omega⟩
   .exact⟨_,Sq.tmBad hk,fun _ _ _ h=>by cases h⟩
  |op k=>
   simp only[nzS,Yc,bne_iff_ne]at B
   by_cases hk:t.k=k
   .by_cases hN:o<N
    .obtain⟨res,hs,C⟩:=ih r (o+1) B.2 (he.tail (by rw[hk];exact B.1)) (by simp at F;omega)
     refine⟨_,Sq.op hk hN hs,fun vs l' o' h=>?_⟩;obtain⟨A,_,E⟩:=Res.cons_ok h;have:=C A l' o' E;exact⟨this.1,by simp;omega⟩
    .exact⟨_,Sq.opNest hk (by omega),fun _ _ _ h=>by cases h⟩
   .exact⟨_,Sq.opBad hk,fun _ _ _ h=>by cases h⟩
  |cl=>
   simp only[nzS]at B
   by_cases hk:t.k=24
   .obtain⟨res,hs,C⟩:=ih r (o-1) B (he.tail (by omega)) (by simp at F;omega)
    refine⟨_,Sq.cl hk hs,fun vs l' o' h=>?_⟩;obtain⟨A,_,E⟩:=Res.cons_ok h;have:=C A l' o' E;exact⟨this.1,by simp;omega⟩
   .exact⟨_,Sq.clBad hk,fun _ _ _ h=>by cases h⟩
  |jb j=>
   simp only[nzS]at B;obtain⟨res,I,C⟩:=H j (t ::r) o he F
   cases res with
   |bad e p=>exact⟨_,Sq.jbBad I,fun _ _ _ h=>by cases h⟩
   |ok v l1 o1=>
    have O:=C v l1 o1 rfl;obtain⟨res,hs,K⟩:=ih l1 o1 B O.1 (by omega);refine⟨_,Sq.jb I hs,fun vs l' o' h=>?_⟩;obtain⟨A,_,E⟩:=Res.cons_ok h;have:=K A l' o' E;exact⟨this.1,by omega⟩
theorem tot (N:Nat):∀(M:Nat) (j:J) (l:List Tok) (o:Nat),Ends l->16*l.length+lvl j<M->
 ∃res,Jb N j l o res/\∀v l' o',res= .ok v l' o'->Ends l'/\l'.length<=l.length/\(strict j=true->l'.length<l.length):=by
 intro M
 induction M with
 |zero=>intro j l o _ h;omega
 |succ M ih=>
  intro j l o he hM;obtain⟨t,r,rfl⟩:=he.ne;have W:∀j,lvl j<=13:=by intro j;cases j <;> simp[lvl]
  have H:∀j l o,Ends l->l.length<r.length+1->∃res,Jb N j l o res/\∀v l' o',res= .ok v l' o'->Ends l'/\l'.length<=l.length:=by
   intro K l1 o1 Z h8;obtain⟨res,U,A⟩:=ih K l1 o1 Z (by have:=W K;simp at hM;omega);exact⟨res,U,fun v l' o' h=>⟨(A v l' o' h).1,(A v l' o' h).2.1⟩⟩
  cases hx :jm0 j t.k with
  |none=>exact⟨_,Jb.none hx,fun _ _ _ h=>by cases h⟩
  |some p=>
   obtain⟨E,fin⟩:=p;obtain⟨C,hf,h4,h5⟩:=jGK hx
   have h0:∃res,Sq N E (t ::r) o res/\∀vs l' o',res= .ok vs l' o'->Ends l'/\l'.length<=(t ::r).length/\(E≠[]->l'.length<(t ::r).length):=by
    cases E with
    |nil=>exact⟨_,Sq.nil _ _,fun vs l' o' h=>by injection h with _ O _;subst O;exact⟨he,Yy _,fun h=>absurd rfl h⟩⟩
    |cons s E=>
     cases s with
     |tm k=>
      simp only[nzS,Yc,bne_iff_ne]at C
      by_cases hk:t.k=k
      .obtain⟨res,hs,A⟩:=jsW H E r o C.2 (he.tail (by rw[hk];exact C.1)) (by omega)
       refine⟨_,Sq.tm hk hs,fun vs l' o' h=>?_⟩;obtain⟨B,_,I⟩:=Res.cons_ok h;have:=A B l' o' I;exact⟨this.1,by simp;omega,fun _=>by simp;omega⟩
      .exact⟨_,Sq.tmBad hk,fun _ _ _ h=>by cases h⟩
     |op k=>
      simp only[nzS,Yc,bne_iff_ne]at C
      by_cases hk:t.k=k
      .by_cases hN:o<N
       .obtain⟨res,hs,A⟩:=jsW H E r (o+1) C.2 (he.tail (by rw[hk];exact C.1)) (by omega)
        refine⟨_,Sq.op hk hN hs,fun vs l' o' h=>?_⟩;obtain⟨B,_,I⟩:=Res.cons_ok h;have:=A B l' o' I;exact⟨this.1,by simp;omega,fun _=>by simp;omega⟩
       .exact⟨_,Sq.opNest hk (by omega),fun _ _ _ h=>by cases h⟩
      .exact⟨_,Sq.opBad hk,fun _ _ _ h=>by cases h⟩
     |cl=>
      simp only[nzS]at C
      by_cases hk:t.k=24
      .obtain⟨res,hs,A⟩:=jsW H E r (o-1) C (he.tail (by omega)) (by omega)
       refine⟨_,Sq.cl hk hs,fun vs l' o' h=>?_⟩;obtain⟨B,_,I⟩:=Res.cons_ok h;have:=A B l' o' I;exact⟨this.1,by simp;omega,fun _=>by simp;omega⟩
      .exact⟨_,Sq.clBad hk,fun _ _ _ h=>by cases h⟩
     |jb j1=>
      simp only[nzS]at C;simp only[jtK,Yc,Yd]at hf;obtain⟨res,U,A⟩:=ih j1 (t ::r) o he (by omega)
      cases res with
      |bad e p=>exact⟨_,Sq.jbBad U,fun _ _ _ h=>by cases h⟩
      |ok v l1 o1=>
       have F:=A v l1 o1 rfl;have O:=F.2.2 hf.2;obtain⟨res,hs,R⟩:=jsW H E l1 o1 C F.1 (by simpa using O);refine⟨_,Sq.jb U hs,fun vs l' o' h=>?_⟩;obtain⟨B,_,I⟩:=Res.cons_ok h;have:=R B l' o' I;exact⟨this.1,by omega,fun _=>by omega⟩
   obtain⟨res,hs,A⟩:=h0
   cases res with
   |bad e p=>exact⟨_,Jb.bad hx hs,fun _ _ _ h=>by cases h⟩
   |ok vs l1 o1=>
    have F:=A vs l1 o1 rfl
    cases hfin :fin vs with
    |out v=>
     refine⟨_,Jb.out hx hs hfin,fun v' l' o' h=>?_⟩;injection h with _ O _;subst O
     exact⟨F.1,F.2.1,fun hst'=>F.2.2 (h4 hst')⟩
    |go K=>
     have h3:E≠[]:=fun e=>h5 e vs K hfin;have h7:=F.2.2 h3;obtain⟨h6,Y,R⟩:=ih K l1 o1 F.1 (by have:=W K;omega);refine⟨_,Jb.go hx hs hfin Y,fun v' l' o' h=>?_⟩;have:=R v' l' o' h;exact⟨this.1,by omega,fun _=>by omega⟩
end Sl
section
open Go.RowKit Sl
def cu (d:Int) (k:Nat):Int:=if k=24 then d-1 else d
def nxd (d:Int) (k:Nat):Int:=if k=23\/k=18 then cu d k+1 else cu d k
def joW (P:Nat->Nat->Bool):Int->Nat->Nat->List Tok->List Nat
 |_,_,_,[]=>[]
 |d,p,i,t ::r=>
  (if(cu d t.k)=0/\P p t.k=true then[i] else[]) ++joW P (nxd d t.k) t.k (i+1) r
theorem jzq (P:Nat->Nat->Bool):∀(L:List Tok) (d p i:Nat),dep d (tks L)≠none->joW P (d:Int) p i L=pos P d p i (tks L):=by
 intro L
 induction L with
 |nil=>intro d p i _;rfl
 |cons t r ih=>
  intro d p i h;show _=pos P d p i (t.tk ::tks r);have B:dep d (t.tk ::tks r)≠none:=h;simp only[dep]at B;rw[joW,pos];unfold nxd cu;have kk:t.tk.k=t.k:=rfl
  by_cases E:t.k=23
  .have e1:isO t.tk=true:=by simp[isO,kk,E]
   have C:isC t.tk=false:=by simp[isC,kk,E]
   simp only[e1,C,Bool.true_or,if_true]at B ⊢;have:=ih (d+1) t.k (i+1) B;have A:¬t.k=24:=by omega
   simp only[if_neg A,if_pos (Or.inl E:t.k=23\/t.k=18)];simp only[Kr,if_false,kk];rw[<-this];simp
  .by_cases h18:t.k=18
   .have e1:isX t.tk=true:=by simp[isX,kk,h18]
    have C:isC t.tk=false:=by simp[isC,kk,h18]
    simp only[e1,C,Bool.or_true,if_true]at B ⊢;have:=ih (d+1) t.k (i+1) B;have A:¬t.k=24:=by omega
    simp only[if_neg A,if_pos (Or.inr h18:t.k=23\/t.k=18)];simp only[Kr,if_false,kk];rw[<-this];simp
   .have e1:isO t.tk=false:=by simp[isO,kk,E]
    have H:isX t.tk=false:=by simp[isX,kk,h18]
    have F:¬(t.k=23\/t.k=18):=by omega
    by_cases A:t.k=24
    .have C:isC t.tk=true:=by simp[isC,kk,A]
     simp only[e1,C,H,Bool.or_false,Kr,if_false,if_true]at B ⊢;rw[if_pos A,if_neg F]
     cases d with
     |zero=>simp at B
     |succ d=>
      have:=ih d t.k (i+1) B;simp only[kk];have I:((d+1:Nat):Int)-1=(d:Int):=by omega
      rw[I,this];simp
    .have C:isC t.tk=false:=by simp[isC,kk,A]
     simp only[e1,C,H,Bool.or_false,Kr,if_false]at B ⊢;rw[if_neg A,if_neg F];have:=ih d t.k (i+1) B;simp only[kk];rw[this];simp
theorem jtV (L:List Tok) {i:Nat}{d:Int}{t:Tok}{R:List Tok}(A:L.drop i=t ::R) (hd:(dsF 0 L).drop i=dsF d (t ::R)) :
 joz L i=(cu d t.k)/\jD L i=t.k/\L.drop (i+1)=R/\(dsF 0 L).drop (i+1)=dsF (nxd d t.k) R:=by
 have B:L[i]? =some t:=by
  have:=congrArg List.head? A;simpa using this
 have C:(dsF 0 L)[i]? =some (cu d t.k):=by
  have:=congrArg List.head? hd;rw[dsF]at this;simpa[cu] using this
 refine⟨by simp[joz,C],by simp[jD,B],?_,?_⟩
 .have:=congrArg List.tail A
  simpa using this
 .have:=congrArg List.tail hd
  rw[dsF]at this;simpa[cu,nxd] using this
def stp (cls:Nat) (a i:Nat):Nat:=if(cls=26->a=0) then i else a
theorem jB9 (cls:Nat) (L:List Tok):∀(R:List Tok) (i a:Nat) (d:Int),L.drop i=R->(dsF 0 L).drop i=dsF d R->jnO cls L R.length i a=(joW (joa cls) d (jD L (i-1)) i R).foldl (stp cls) a:=by
 intro R
 induction R with
 |nil=>intro i a d _ _;rfl
 |cons t R ih=>
  intro i a d C hd;obtain⟨H,I,F,E⟩:=jtV L C hd;rw[Yk,jnO,joW,ih (i+1) _ _ F E,List.foldl_append,Nat.add_sub_cancel,H,I]
  congr 1
  by_cases B:(cu d t.k)=0/\joa cls (jD L (i-1)) t.k=true
  .rw[if_pos B]
   show _=stp cls a i;unfold stp
   by_cases A:cls=26->a=0
   .rw[if_pos ⟨B.1,B.2,A⟩,if_pos A]
   .rw[if_neg (fun h=>A h.2.2),if_neg A]
  .rw[if_neg B,if_neg (fun h=>B ⟨h.1,h.2.1⟩)]
   rfl
theorem jFw (L:List Tok):∀(R:List Tok) (i a p:Nat) (d:Int),L.drop i=R->(dsF 0 L).drop i=dsF d R->ixN L R.length i a=(joW (fun _ k=>k == 18) d p i R).foldl (fun _ j=>j) a:=by
 intro R
 induction R with
 |nil=>intro i a p d _ _;rfl
 |cons t R ih=>
  intro i a p d B hd;obtain⟨F,H,E,C⟩:=jtV L B hd;rw[Yk,ixN,joW,ih (i+1) _ t.k _ E C,List.foldl_append,F,H]
  congr 1
  by_cases A:(cu d t.k)=0/\t.k=18
  .rw[if_pos A,if_pos ⟨A.1,by simp[A.2]⟩];rfl
  .rw[if_neg A,if_neg (fun h=>A ⟨h.1,by simpa using h.2⟩)];rfl
def prs:Nat->List Nat->Nat->List (Nat × Nat)
 |f,[],e=>[(f,e)]
 |f,h ::r,e=>(f,h) ::prs h r e
theorem jEm (L:List Tok):∀(R:List Tok) (i f p:Nat) (d:Int),L.drop i=R->i<=L.length->(dsF 0 L).drop i=dsF d R->opN L (R.length+1) i f=prs f (joW jpe d p i R) L.length:=by
 intro R
 induction R with
 |nil=>
  intro i f p d B hi _
  have E:i=L.length:=by
   have:=congrArg List.length B;simp at this;omega
  rw[joW,prs];show opN L (0+1) i f=_;rw[opN,if_pos (show joX L i from Or.inl E),opN,E]
 |cons t R ih=>
  intro i f p d B hi hd;obtain⟨H,I,C,F⟩:=jtV L B hd
  have K:i<L.length:=by
   have:=congrArg List.length B;simp at this;omega
  rw[Yk,opN,joW]
  by_cases A:(cu d t.k)=0/\jpe p t.k=true
  .have hh:joX L i:=Or.inr ⟨by rw[H];exact A.1,by have:=A.2;simp[jpe]at this;rw[I];exact this⟩
   rw[if_pos hh,if_pos A,ih (i+1) i t.k _ C (by omega) F];rfl
  .have hh:¬joX L i:=fun h=>by
    rcases h with h|h
    .omega
    .refine A ⟨by rw[<-H];exact h.1,?_⟩
     have:=h.2;rw[I]at this;simp[jpe,this]
   rw[if_neg hh,if_neg A,ih (i+1) f t.k _ C (by omega) F];rfl
def cms:Nat->List Nat->List (Nat × Nat) × Nat
 |f,[]=>([],f)
 |f,h ::r=>((f,h) ::(cms (h+1) r).1,(cms (h+1) r).2)
theorem jIk (L:List Tok):∀(R:List Tok) (i f p:Nat) (d:Int),L.drop i=R->(dsF 0 L).drop i=dsF d R->cmN L R.length i f=cms f (joW (fun _ k=>k == 25) d p i R):=by
 intro R
 induction R with
 |nil=>intro i f p d _ _;rfl
 |cons t R ih=>
  intro i f p d E hd;obtain⟨F,H,C,B⟩:=jtV L E hd;rw[Yk,cmN,joW,F,H]
  by_cases A:(cu d t.k)=0/\t.k=25
  .rw[if_pos A,if_pos ⟨A.1,by simp[A.2]⟩,ih (i+1) (i+1) t.k _ C B];rfl
  .rw[if_neg A,if_neg (fun h=>A ⟨h.1,by simpa using h.2⟩),ih (i+1) f t.k _ C B];rfl
theorem jzp (P:Nat->Nat->Bool) (t:Tok) (R:List Tok) (p:Nat) (hd:dep 0 (tks (t ::R))≠none) :
 pos P 0 p 0 (tks (t ::R))=(if(cu 0 t.k)=0/\P p t.k=true then[0] else[]) ++joW P (nxd 0 t.k) t.k 1 R:=by
 rw[<-jzq P (t ::R) 0 p 0 hd];rfl
variable {hs:List Nat}
theorem jyC {P:Nat->Nat->Bool}{t:Tok}{R:List Tok}{p:Nat}(hd:dep 0 (tks (t ::R))≠none) (A:pos P 0 p 0 (tks (t ::R))=hs) (B:∀h ∈ hs,1<=h) :
 joW P (nxd 0 t.k) t.k 1 R=hs:=by
 rw[jzp P t R p hd]at A
 split at A
 .exfalso
  have:=B 0 (by rw[<-A];simp);omega
 .simpa using A
variable {L:List Tok}{x:List Tk}
theorem juV {cls:Nat}(B:tks L=x) (E:dep 0 x=some 0) (A:pos (joa cls) 0 0 0 x=hs) (C:∀h ∈ hs,1<=h):spl cls L=hs.foldl (stp cls) 0:=by
 subst B
 cases L with
 |nil=>simp[tks,pos]at A;subst A;rfl
 |cons t R=>
  have ht:=jyC (by rw[E];simp) A C;unfold spl;have:=jB9 cls (t ::R) R 1 0 (nxd 0 t.k) rfl rfl;rw[show(t ::R).length-1=R.length by simp,this,<-ht];rfl
theorem jtC (B:tks L=x) (E:dep 0 x=some 0) (A:pos (fun _ k=>k == 18) 0 0 0 x=hs) (C:∀h ∈ hs,1<=h):ixL L=hs.foldl (fun _ j=>j) 0:=by
 subst B
 cases L with
 |nil=>simp[tks,pos]at A;subst A;rfl
 |cons t R=>
  have ht:=jyC (by rw[E];simp) A C;unfold ixL;have:=jFw (t ::R) R 1 0 t.k (nxd 0 t.k) rfl rfl;rw[show(t ::R).length-1=R.length by simp,this,<-ht]
theorem jyn (C:tks L=x) (B:dep 0 x=some 0) (A:pos jpe 0 0 0 x=0 ::hs) (E:∀h ∈ hs,1<=h):opL L=prs 0 hs L.length:=by
 subst C
 cases L with
 |nil=>simp[tks,pos]at A
 |cons t R=>
  have hd:=A;rw[jzp jpe t R 0 (by rw[B];simp)]at hd
  have ht:joW jpe (nxd 0 t.k) t.k 1 R=hs:=by
   split at hd
   .simpa using hd
   .exfalso
    simp only[Yx]at hd
    have:∀(R:List Tok) (d:Int) (p i:Nat),1<=i->∀h ∈ joW jpe d p i R,1<=h:=by
     intro R
     induction R with
     |nil=>intro d p i _ h A;simp[joW]at A
     |cons t R ih=>
      intro d p i hi h A;rw[joW,Yq]at A;rcases A with A|A
      .split at A
       .simp at A;omega
       .simp at A
      .exact ih _ _ (i+1) (by omega) h A
    have:=this R _ _ 1 jN 0 (by rw[hd];simp);omega
  unfold opL;have:=jEm (t ::R) R 1 0 t.k (nxd 0 t.k) rfl (by simp) rfl;rw[show(t ::R).length=R.length+1 by simp,this,<-ht];simp
theorem jAe (A:tks L=x) (B:dep 0 x=some 0) (C:pos (fun _ k=>k == 25) 0 0 0 x=hs):cmL L=cms 0 hs:=by
 subst A;unfold cmL;rw[jIk L L 0 0 0 0 rfl rfl,<-C,<-jzq _ L 0 0 0 (by rw[B];simp)];rfl
end
section
open Go Go.RowKit
section
variable {P:Program}{ops:Array Oper}{md:Region.Mode}{w0:World}{ia:Nat}{oa:Oper}{obj:Obj}{mk:Nat->Value}
def jAg (md:Region.Mode) (ops:Array Oper) (n:Nat):Bool:=
 (List.range ops.size).all fun t=>decide (t<=n) || (List.range t).any fun j=>decide (n<=j) && Region.waitsFor md ops t j
theorem jxB {n:Nat}(hs:Region.sinkB md ops n=true) (hc:jAg md ops n=true) (hn:n<ops.size) (A:Array Bool) (I:HeadInv md ops n A) :
 ∀(i:Nat),i<n->A.getD i true=false->∀t,n<=t->t ∉ Region.ready md ops A:=by
 suffices H:∀(d i:Nat),n-i=d->i<n->A.getD i true=false->∀t,n<=t->t ∉ Region.ready md ops A from fun i=>H _ i rfl
 intro d
 induction d using Nat.strongRecOn with
 |_ d ih=>
  intro i hd hi Y t ht hr;obtain⟨_,ot,O,K⟩:=mem_ready.1 hr;have h0:t<ops.size:=(Array.getElem?_eq_some_iff.1 O).1
  by_cases h3:t=n
  .subst h3
   have E:=List.all_eq_true.1 hs i (Ub.2 hi);obtain⟨j,Z,B⟩:=List.any_eq_true.1 E;simp only[Yc,Yd]at B;obtain⟨oj,W,e,he,R,F⟩:=Region.waitsFor_spec B.2;have h6:j<=t:=by have:=Ub.1 Z;omega
   by_cases U:j=t
   .subst U
    have:oj=ot:=Uf (W.symm.trans O);subst this;have C:=K e he R;rw[F,getD_both Y]at C;cases C
   .cases hl :A.getD j false with
    |true=>
     have C:=I.closed j oj W hl e he R;rw[F,getD_both Y]at C;cases C
    |false=>
     have h5:j<A.size:=by rw[I.size];omega
     exact ih (t-j) (by omega) j rfl (by omega) (getD_in h5 hl) t jN hr
  .have E:=List.all_eq_true.1 hc t (Ub.2 h0)
   simp only[Yl,Yd]at E;rcases E with E|E
   .omega
   .obtain⟨j,Z,B⟩:=List.any_eq_true.1 E
    simp only[Yc,Yd]at B;have U:=Ub.1 Z;obtain⟨o',h4,e,he,R,F⟩:=Region.waitsFor_spec B.2;have:o'=ot:=Uf (h4.symm.trans O);subst this;have C:=K e he R;rw[F,getD_both (I.tail j B.1 (by omega))]at C;cases C
def jsl (o:Oper):Bool:=match o.op with
 | .move _| .assign _| .extract ..=>true
 |_=>false
theorem jBZ {o:Oper}{a:Act}{w:World}{K:Act->World->Prop}{Q:Exit->Act->World->Prop}(E:jsl o=true) (h:o.wp P a w K Q\/(o.asks P a w/\LetsOut Q)):o.still P a w (fun a'=>K a' w):=by
 have C:∀v:Value,execOp a.eval o=pure (.value v)->o.still P a w (fun a'=>K a' w):=fun v e=>by
  rcases h with h|⟨⟨h,_⟩,_⟩
  .unfold Oper.wp at h
   unfold Oper.still;rw[e]at h ⊢;exact⟨rfl,h⟩
  .rw[e]at h
   exact absurd h (Array.not_mem_empty _)
 have B:∀e,execOp a.eval o=Sem.halt e->(∀v,e≠.panic v)->o.still P a w (fun a'=>K a' w):=fun e he hne=>by
  exfalso
  rcases h with h|⟨⟨h,_⟩,_⟩
  .unfold Oper.wp at h
   rw[he]at h;cases e <;> first|exact h|exact hne _ rfl
  .rw[he]at h
   exact absurd h (Array.not_mem_empty _)
 have A:∀t ix,o.op= .extract t ix->execOp a.eval o=(do pure (.value (<-Instr.extract (a.eval t) ix))):=fun t ix e=>by unfold execOp;rw[e]
 unfold jsl at E
 cases e :o.op with
 |move x=>refine C (a.eval x) ?_;unfold execOp;rw[e]
 |assign x=>refine C (a.eval x) ?_;unfold execOp;rw[e]
 |extract t ix=>
  have A:=A t ix e;unfold Instr.extract at A
  split at A
  .rename_i vs hv
   cases hq :vs[ix]? with
   |none=>rw[hq]at A;exact B _ A (by simp)
   |some v=>rw[hq]at A;exact C _ A
  .exact B _ A (by simp)
 |_=>rw[e]at E;simp at E
theorem juo {Q:Exit->Act->World->Prop}:∀(l:List Oper) (a:Act) (w:World),l.all jsl=true->wpList P ops Q l a w->wpStill P ops w (fun a'=>Q .normal a' w) l a
 |[],_,_,_,h=>h
 |o ::l,a,w,hp,h=>by
  simp only[List.all_cons,Yc]at hp;unfold wpList at h;unfold wpStill
  split
  .rename_i hw
   rw[if_pos hw]at h;exact Oper.still_mono (fun a' h'=>juo l a' w hp.2 h') (jBZ hp.1 h)
  .rename_i hw
   rw[if_neg hw]at h;exact juo l _ w hp.2 h
def jrt (md:Region.Mode) (ops:Array Oper) (n:Nat) (listed:Array Bool):Bool:=
 decide (Region.ready md ops listed=[n]) && Region.lexFrom md ops (ops.size-n-1) (n+1) (listed.setIfInBounds n true)
def jsv (md:Region.Mode) (ops:Array Oper) (n:Nat):Nat->Nat->Array Bool->Bool
 |0,k,listed=>jrt md ops k listed
 |f+1,k,listed=>(Region.ready md ops listed).contains k && Region.free md ops listed k && jsv md ops n f (k+1) (listed.setIfInBounds k true)
def jtv (md:Region.Mode) (ops:Array Oper) (n:Nat):Bool:=
 Region.noSelect ops && decide (n<ops.size) && Region.sinkB md ops n && jAg md ops n && (ops.toList.drop (n+1)).all jsl && jsv md ops n n 0 (Array.replicate ops.size false)
theorem jws {n:Nat}{A:Array Bool}(h:jrt md ops n A=true):Region.ready md ops A=[n]:=by
 simp only[jrt,Yc,Yd]at h;exact h.1
theorem jzS {n:Nat}{A:Array Bool}(h:jrt md ops n A=true):∀j ∈ Region.ready md ops A,n<=j:=by
 intro j B;rw[jws h]at B;have:j=n:=by simpa using B
 omega
theorem jwY {Q:Exit->Act->World->Prop}{n:Nat}{A:Array Bool}{a:Act}{w:World}{l:List Oper}{o:Oper}(B:ops=l.toArray) (C:Region.noSelect ops=true) (E:l[n]? =some o) (O:(l.drop (n+1)).all jsl=true) (h:jrt md ops n A=true)
 (I:wpList P ops Q (l.drop n) a w):wpAny P md ops Q (ops.size-n) A a w:=by
 have F:n<l.length:=(jG E).1;have Y:n<ops.size:=by rw[B];simpa using F
 obtain⟨g,Z⟩:∃g,ops.size-n=g+1:=⟨ops.size-n-1,by omega⟩
 have W:=jws h;have h2:ops.size=l.length:=by rw[B];simp
 have H:(l.drop (n+1)).length=g:=by simp;omega
 have h0:ops[n]? =some o:=by rw[B];simpa using E
 rw[Z];refine⟨fun h1=>(by rw[W]at h1;cases h1),fun i hi=>?_⟩;rw[W]at hi;have K:i=n:=by simpa using hi
 subst K
 have hd:l.drop i=o ::l.drop (i+1):=by
  rw[Ki F]
  congr
  exact(jG E).2
 rw[hd]at I;have R:wpOp P ops Q i (wpList P ops Q (l.drop (i+1))) a w:=by unfold wpOp;simp only[h0];exact I
 refine wpOp_mono (fun a' w' h'=>?_) R
 have U:Region.lexFrom md ops (l.drop (i+1)).length (i+1) (A.setIfInBounds i true)=true:=by
  simp only[jrt,Yc]at h;have:=h.2
  rwa [show ops.size-i-1=(l.drop (i+1)).length by rw[H];omega]at this
 have:=wpAny_of_still (Q':=Q) (fun _ h=>h) _ _ _ (wpAnyS_lex (md:=md) C (l.drop (i+1)) (i+1) (A.setIfInBounds i true) a' (fun j=>by rw[B];simp[List.getElem?_drop]) U (juo _ _ _ O h'))
 rwa [H]at this
theorem jub {n N:Nat}{O:Act->Prop}(B:∀o',ops[ia]? =some o'->o'=oa) (A:Region.noSelect ops=true) (K:Iv md ops n (HeadInv md ops n)) (I:n<ops.size) :
 ∀(l:List Oper) (k:Nat) (listed:Array Bool) (a:Act),(∀j,j<l.length->l[j]? =ops[k+j]?)->k+l.length=n->HeadInv md ops n listed->
 jsv md ops N l.length k listed=true->wpB mk P ops w0 oa obj ia O k l a->
 jaN mk P md ops w0 oa obj ia n (fun listed' a'=>jrt md ops n listed'=true/\O a') l.length listed a
 |[],k,listed,a,_,hk,_,hB,h=>by
  have:k=n:=by simpa using hk
  subst this;exact⟨by simpa[jsv] using hB,h⟩
 |o ::l,k,listed,a,hl,hk,inv,hB,h=>by
  have C:ops[k]? =some o:=by simpa using(hl 0 (by simp)).symm
  simp only[Yk,jsv,Yc]at hB;obtain⟨⟨hr,Y⟩,W⟩:=hB;have E:k<n:=by simp only[Yk]at hk;omega
  have F:k ∈ Region.ready md ops listed:=by simpa using hr
  have U:∀j,j<l.length->l[j]? =ops[k+1+j]?:=fun j hj=>by have:=hl (j+1) (by simp;omega);simpa[Ku,Ks 1 j] using this
  have R:k+1+l.length=n:=by simp only[Yk]at hk;omega
  unfold wpB at h
  by_cases e:k=ia
  .rw[if_pos e]at h
   have H:=jub B A K I l (k+1) _ _ U R (inv.set F E) W h.2;have Z:o=oa:=B o (by rw[<-e];exact C);rw[Z,e]at C;rw[e]at Y;exact jmk C (Region.noSelect_spec A) K I (e ▸ E) (fun listed' a' hL=>jzS hL.1) l.length listed a inv (Region.free_spec C Y) (e ▸ F) h.1 (by rw[e]at H;exact H)
  .rw[if_neg e]at h
   have h1:opB mk P ops w0 oa obj ia k (wpB mk P ops w0 oa obj ia O (k+1) l) a:=by unfold opB;rw[if_neg e];simp only[C];exact h
   obtain⟨v,hy,hK⟩:=jcM e C h1
   exact jml B e C (Region.noSelect_spec A) K I E (fun listed' a' hL=>jzS hL.1) l.length listed a inv (Region.free_spec C Y) F hy
    (jub B A K I l (k+1) _ _ U R (inv.set F E) W hK)
theorem jwV {Z:Nat}{Q:Exit->Act->World->Prop}{a:Act}{w:World}{l:List Oper}(n ia:Nat) (d:Tmp) (mk:Nat->Value) (obj:Obj) (oa:Oper) (W:P.follows .mixedOrders=true) (R:jtv .any l.toArray n=true) (I:apB l.toArray ia n=true) (K:ia<n)
 (E:l[ia]? =some oa) (hd:oa.dst=some d) (hg:oa.guard=none)
 (h:wpB mk P l.toArray w oa obj ia (fun a'=>∀(b:Nat) (x:Wd w.heap.size w),w.heap.size<=b->x.v.heap[b]? =some obj->wpList P l.toArray Q (l.drop n) (a'.put (some d) (mk b)) x.v) 0 (l.take n) a):(Code.region Z l.toArray true).wp P Q a w:=by
 simp only[jtv,Yc,Yd]at R;obtain⟨⟨⟨⟨⟨A,F⟩,hs⟩,hc⟩,hp⟩,O⟩:=R;have h4:n<l.length:=by simpa using F
 have Y:Iv .any l.toArray n (HeadInv .any l.toArray n):=⟨fun l h=>h.size,fun l i h hr hi=>h.set hr hi,fun l h i hi hu t ht=>jxB hs hc F l h i hi hu t ht⟩
 have B:(l.take n).length=n:=by simp;omega
 obtain⟨on,U⟩:∃o,l[n]? =some o:=⟨_,Yb h4⟩
 have C:HeadInv .any l.toArray n (Array.replicate l.toArray.size false):=
  ⟨by simp,fun j oj _ hl=>(by rw[getD_replicate_false]at hl;cases hl),fun t _ ht=>getD_in (by simpa using ht) (getD_replicate_false _ _)⟩
 have H:=jub (ia:=ia) (oa:=oa) (obj:=obj) (md:=.any) (N:=n) (fun o' ho'=>by rw[show l.toArray[ia]? =some oa by simpa using E]at ho';exact(Uf ho').symm) A Y F (l.take n) 0 _ a (fun j hj=>by
  have h0:j<n:=by rw[B]at hj;exact hj
  simp[h0]) (by simpa using B) C (by rw[B];exact O) h
 refine wp_region_any W ?_
 have:=jcO (Q':=Q) (g:=l.toArray.size-n) (d:=d) (obj:=obj) (oa:=oa) (Region.noSelect_spec A) (by simpa using E) hd hg (fun j oj hj hne hoj=>by
  have:=List.all_eq_true.1 I j (Ub.2 hj);rw[show l.toArray[ia]? =some oa by simpa using E,hoj]at this
  simpa[hne] using this)
  (fun listed a' b w' hL h1 h2 h3=>jwY rfl A U (by simpa using hp) hL.1 (hL.2 b ⟨w',h3⟩ h1 h2)) Y F K
  (fun listed a' hL=>by rw[jws hL.1];simp)
  _ _ a a {w with drawn:=w.drawn+1} C H (At.ahead (getD_replicate_false _ _) rfl jB.drew)
 rw[B,show n+(l.toArray.size-n)=l.toArray.size by omega]at this;exact this
theorem jum {W:Nat}{Q:Exit->Act->World->Prop}{a:Act}{w:World}{l:List Oper}(n ia:Nat) (U:P.follows .mixedOrders=true) (I:jtv .any l.toArray n=true) (B:l.length<=ia)
 (h:wpB (fun _=>undef) P l.toArray w jvA jig ia (fun a'=>∀x:Wd w.heap.size w,wpList P l.toArray Q (l.drop n) a' x.v) 0 (l.take n) a):(Code.region W l.toArray true).wp P Q a w:=by
 simp only[jtv,Yc,Yd]at I;obtain⟨⟨⟨⟨⟨C,K⟩,hs⟩,hc⟩,Z⟩,F⟩:=I;have R:n<l.length:=by simpa using K
 have hT:Iv .any l.toArray n (HeadInv .any l.toArray n):=⟨fun l h=>h.size,fun l i h hr hi=>h.set hr hi,fun l h i hi hu t ht=>jxB hs hc K l h i hi hu t ht⟩
 have A:(l.take n).length=n:=by simp;omega
 obtain⟨on,O⟩:∃o,l[n]? =some o:=⟨_,Yb R⟩
 have E:HeadInv .any l.toArray n (Array.replicate l.toArray.size false):=
  ⟨by simp,fun j oj _ hl=>(by rw[getD_replicate_false]at hl;cases hl),fun t _ ht=>getD_in (by simpa using ht) (getD_replicate_false _ _)⟩
 have H:=jub (ia:=ia) (oa:=jvA) (obj:=jig) (md:=.any) (N:=n) (fun o' ho'=>by rw[Array.getElem?_eq_none (by simpa using B)]at ho';cases ho') C hT K (l.take n) 0 _ a (fun j hj=>by
  have Y:j<n:=by rw[A]at hj;exact hj
  simp[Y]) (by simpa using A) E (by rw[A];exact F) h
 refine wp_region_any U ?_
 have:=jdM (Q':=Q) (g:=l.toArray.size-n) (w0:=w)
  (fun listed a' w' hL h3=>jwY rfl C O (by simpa using Z) hL.1 (hL.2 ⟨w',h3⟩)) (by simpa using B)
  _ _ a {w with drawn:=w.drawn+1} H jB.drew
 rw[A,show n+(l.toArray.size-n)=l.toArray.size by omega]at this;exact this
end
end
namespace Sl
section
variable {N:Nat}
end
section
variable {N:Nat}
end
end Sl
end Go.Proofs.YtlpmpelnhdoboaaGreatDoor
