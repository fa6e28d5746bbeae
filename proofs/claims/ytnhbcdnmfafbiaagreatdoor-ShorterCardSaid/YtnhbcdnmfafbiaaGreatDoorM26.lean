import Derived.Test.YtnhbcdnmfafbiaaGreatDoorM19
set_option linter.unusedVariables false
set_option linter.unusedSimpArgs false
set_option maxHeartbeats 20000000
namespace Go.Proofs.YtnhbcdnmfafbiaaGreatDoor
namespace V
open Go.Proofs
def wdE (e:List C):Wd:=match fWd.un e with
 |some x=>⟨x.k,x.n,x.s⟩
 |none=>⟨0,0,ByteArray.empty⟩
def suf (s:PS):List Wd:=(s.L.drop s.nx.toNat).map wdE
def lft (s:PS):Nat:=(s.L.length-s.nx).toNat
theorem Jda {s:PS}(h:0<=s.nx):suf (avS s)=(suf s).tail:=by
 unfold suf avS;rw[show(s.nx+1).toNat=s.nx.toNat+1 by omega,<-List.tail_drop,List.map_tail]
theorem Jb7 {s:PS}(h:(s.L.length:Int)<=s.nx):wdA s=wdN:=Jc1 h
theorem Jfi {s:PS}(h:(s.L.length:Int)<=s.nx):suf s=[]:=by
 unfold suf;rw[List.drop_eq_nil_of_le (by omega)];rfl
theorem Jb6 {s:PS}(h:(wdA s).k≠0):s.nx<s.L.length:=by
 rcases Int.lt_or_le s.nx s.L.length with q|q
 .exact q
 .rw[Jb7 q]at h;exact absurd rfl h
theorem Jcb {s:PS}(h:WdP s) (B:s.nx<s.L.length):suf s=⟨(wdA s).k,(wdA s).n,(wdA s).s⟩ ::suf (avS s)/\JaS (wdA s)/\fWd.f (wdA s) ∈ s.L:=by
 obtain⟨e,ok⟩:=Jb5 h.l h.nx.1 B;have hi:s.nx.toNat<s.L.length:=by have:=h.nx;omega
 rw[List.getElem?_eq_getElem hi]at e;have e:=Option.some.inj e;refine⟨?_,ok,by rw[show wdA s=wdL s.L s.nx from rfl,<-e];exact List.getElem_mem hi⟩;rw[Jda h.nx.1];unfold suf;rw[List.drop_eq_getElem_cons hi,List.map_cons,List.tail_cons,e];rfl
theorem Jaf {s:PS}(h:WdP s):hk (suf s)=(wdA s).k/\hn (suf s)=(wdA s).n/\hs (suf s)=(wdA s).s:=by
 rcases Int.lt_or_le s.nx s.L.length with q|q
 .rw[(Jcb h q).1];exact⟨rfl,rfl,rfl⟩
 .rw[Jfi q,Jb7 q];exact⟨rfl,rfl,rfl⟩
def nA (e:List C):List C:=match e with
 |[k,_,w,m,ns,ks]=>[k,.ui,w,m,ns,ks]
 |e=>e
def ntl (l:List (List C)):List (List C):=l.map nA
theorem Jga (a b:List (List C)):ntl (a ++b)=ntl a ++ntl b:=List.map_append
mutual
def sz:Te->Nat
 | .n _ _ _ _ ks=>szs ks+1
def szs:List Te->Nat
 |[]=>0
 |t ::ts=>sz t+szs ts
end
def kix (b:Nat):List Te->List (List C)
 |[]=>[]
 |t ::ts=>[I ((b+sz t:Nat)-1)] ::kix (b+sz t) ts
def nmC (ns:List ByteArray):List (List C):=ns.map fun x=>[.s x]
mutual
def Jan:Nat->Te->List (List C)
 |b,.n k w m ns ks=>Jag b ks ++[[I k,.ui,I w,I m,.r false 1 (nmC ns),.r false 1 (kix b ks)]]
def Jag:Nat->List Te->List (List C)
 |_,[]=>[]
 |b,t ::ts=>Jan b t ++Jag (b+sz t) ts
end
mutual
theorem Jdk:∀(b:Nat) (t:Te),(Jan b t).length=sz t
 |b,.n k w m ns ks=>by rw[Jan,sz,List.length_append,Ja8 b ks];rfl
theorem Ja8:∀(b:Nat) (ts:List Te),(Jag b ts).length=szs ts
 |_,[]=>by rw[Jag,szs];rfl
 |b,t ::ts=>by rw[Jag,szs,List.length_append,Jdk b t,Ja8 (b+sz t) ts]
end
theorem Jbz:∀(a b:List Te),szs (a ++b)=szs a+szs b
 |[],b=>by rw[List.nil_append,szs,Nat.zero_add]
 |t ::a,b=>by rw[List.cons_append,szs,szs,Jbz a b];omega
theorem Jcg:∀(b:Nat) (x y:List Te),Jag b (x ++y)=Jag b x ++Jag (b+szs x) y
 |b,[],y=>by rw[List.nil_append,Jag,szs];rfl
 |b,t ::x,y=>by rw[List.cons_append,Jag,Jag,szs,Jcg (b+sz t) x y,List.append_assoc,Nat.add_assoc]
theorem Jco:∀(b:Nat) (x y:List Te),kix b (x ++y)=kix b x ++kix (b+szs x) y
 |b,[],y=>by rw[List.nil_append,kix,szs];rfl
 |b,t ::x,y=>by rw[List.cons_append,kix,kix,szs,Jco (b+sz t) x y,Nat.add_assoc];rfl
theorem Jfh (t:Te):0<sz t:=by cases t;rw[sz];omega
theorem Jdi (b:Nat) (t:Te):Jag b [t]=Jan b t:=by rw[Jag,Jag,List.append_nil]
structure Stq (s s':PS):Prop where
 i:PsI s'
 L:s'.L=s.L
 ns:s'.ns=s.ns
 e:s.er≠0->s'.er≠0
 b:s'.ps.length+2*lft s'<=s.ps.length+2*lft s
 f:lft s'<=lft s
theorem Stq.refl {s:PS}(h:PsI s):Stq s s:=⟨h,rfl,rfl,id,Nat.le_refl _,Nat.le_refl _⟩
theorem Stq.trans {s G E:PS}(h:Stq s G) (B:Stq G E):Stq s E:=⟨B.i,B.L.trans h.L,B.ns.trans h.ns,fun e=>B.e (h.e e),Nat.le_trans B.b h.b,Nat.le_trans B.f h.f⟩
structure Tkn (s s':PS):Prop where
 q:Stq s s'
 o:s'.op=s.op
 p:s'.ps=s.ps
 z:s'.er=s.er
 l:lft s'+1=lft s
 f:suf s'=(suf s).tail
 w:JaS (wdA s)
theorem PsI.tk {s:PS}(h:PsI s) (hk:(wdA s).k≠0):Tkn s (avS s)/\s.er=0:=by
 have B:=Jb6 hk;have:=h.nx
 have e0:s.er=0:=by
  rcases Decidable.em (s.er=0)with q|q
  .exact q
  .have:=h.ez q;omega
 have G:lft (avS s)+1=lft s:=by unfold lft avS;dsimp only;omega
 have E:PsI (avS s):=⟨h.l,h.ln,(by unfold avS;dsimp only;omega),h.op,h.oz,h.ns,h.ps,(by have:=h.pn;unfold avS;dsimp only;omega),fun q=>absurd e0 q,h.pl⟩
 exact⟨⟨⟨E,rfl,rfl,id,by show s.ps.length+_<=_;omega,by omega⟩,rfl,rfl,rfl,G,Jda h.nx.1,(Jcb h.w B).2.1⟩,e0⟩
theorem PsI.fl {s:PS}(h:PsI s) {e:Int}(E:e≠0):PsI (flS s e)/\(flS s e).er≠0:=by
 have B:(flS s e).er≠0:=by unfold flS;dsimp only;split <;> assumption
 refine⟨⟨h.l,h.ln,(by unfold flS;dsimp only;omega),h.op,fun q=>absurd q B,h.ns,h.ps,(by have:=h.pn;unfold flS;dsimp only;omega),fun _=>Int.le_refl _,?_⟩,B⟩;unfold flS
 dsimp only
 split
 .rcases Int.lt_or_le s.nx s.L.length with q|q
  .exact .inr ⟨_,(Jcb h.w q).2.2,rfl⟩
  .rw[Jb7 q];exact .inl rfl
 .exact h.pl
theorem JgM (s:PS) (e:Int):lft (flS s e)=0:=by unfold lft flS;dsimp only;omega
theorem PsI.av0 {s:PS}(h:PsI s) (hn:s.nx=s.L.length) (B:s.er≠0):PsI (avS s):=⟨h.l,h.ln,(by unfold avS;dsimp only;omega),h.op,h.oz,h.ns,h.ps,(by have:=h.pn;unfold avS;dsimp only;omega),fun q=>by unfold avS;dsimp only;omega,h.pl⟩
structure Wtd (s:PS) (k:Int) (s':PS):Prop where
 q:Stq s s'
 o:s'.op=s.op
 p:s'.ps=s.ps
 y:hk (suf s)=k->s.er=0/\s'.er=0/\suf s'=(suf s).tail/\lft s'+1=lft s
 n:hk (suf s)≠k->s'.er≠0
theorem PsI.wt {s:PS}(h:PsI s) {k:Int}(h0:k≠0):Wtd s k (avS (wnB s k)):=by
 have hd:=(Jaf h.w).1;unfold wnB
 split
 .rename_i hk'
  obtain⟨a,b⟩:=h.tk (by rw[hk'];exact h0);exact⟨a.q,a.o,a.p,fun _=>⟨b,a.z.trans b,a.f,a.l⟩,fun q=>absurd (hd.trans hk') q⟩
 .rename_i hk'
  obtain⟨a,b⟩:=h.fl (e:=4) (by omega);have i:=a.av0 rfl b;have B:lft (avS (flS s 4))=0:=by unfold lft avS flS;dsimp only;omega
  refine⟨⟨i,rfl,rfl,fun _=>b,?_,by omega⟩,rfl,rfl,fun q=>absurd (hd.symm.trans q) hk',fun _=>b⟩;rw[B];show s.ps.length+0<=_;omega
theorem Ja6 {s:PS}{k:Int}(h:hk (suf s)=k) (B:WdP s):wdA (wnB s k)=wdA s:=by
 unfold wnB;rw[if_pos ((Jaf B).1.symm.trans h)]
structure Bgd (s s':PS):Prop where
 q:Stq s s'
 o:s'.op=s.op+1
 p:s'.ps=s.ps
 l:lft s'+1<=lft s
 z:s.er=0
 y:0<s.ns-s.op->s'.er=0/\suf s'=(suf s).tail/\wdA (bgB s)=wdA s
 n:¬0<s.ns-s.op->s'.er≠0
theorem PsI.bg {s:PS}(h:PsI s) (h0:(wdA s).k≠0):Bgd s (avS {bgB s with op:=s.op+1}):=by
 obtain⟨K,z⟩:=h.tk h0;have G:=h.oz z;have:=h.op;have hl:=Jb6 h0;unfold bgB
 split <;> rename_i B
 .obtain⟨a,b⟩:=h.fl (e:=5) (by omega)
  have i:PsI {flS s 5 with op:=s.op+1}:=⟨a.l,a.ln,a.nx,(by show 0<=s.op+1/\s.op+1<=s.ns+1;omega),fun q=>absurd q b,a.ns,a.ps,a.pn,a.ez,a.pl⟩
  have E:lft (avS {flS s 5 with op:=s.op+1})=0:=by unfold lft avS flS;dsimp only;omega
  have J:0<lft s:=by unfold lft;omega
  refine⟨⟨i.av0 rfl b,rfl,rfl,fun _=>b,?_,by omega⟩,rfl,rfl,by omega,z,fun q=>by omega,fun _=>b⟩;rw[E];show s.ps.length+0<=_;omega
 .have k:=K.q.i
  have i:PsI (avS {s with op:=s.op+1}):=⟨k.l,k.ln,k.nx,(by show 0<=s.op+1/\s.op+1<=s.ns+1;omega),fun _=>(by show s.op+1<=s.ns;omega),k.ns,k.ps,k.pn,k.ez,k.pl⟩
  exact⟨⟨i,rfl,rfl,K.q.e,K.q.b,K.q.f⟩,rfl,rfl,Nat.le_of_eq K.l,z,fun _=>⟨K.z.trans z,K.f,by unfold bgB;rw[if_neg B]⟩,fun q=>by omega⟩
structure Fnd (s s':PS):Prop where
 q:Stq s s'
 o:s'.op=s.op-1
 p:s'.ps=s.ps
 y:hk (suf s)=24->s.er=0/\s'.er=0/\suf s'=(suf s).tail
 n:hk (suf s)≠24->s'.er≠0
theorem PsI.fn {s:PS}(h:PsI s) (B:1<=s.op):Fnd s {avS (wnB s 24)with op:=s.op-1}:=by
 have W:=h.wt (k:=24) (by omega);have k:=W.q.i;have:=h.op;have E:=W.q.ns
 have i:PsI {avS (wnB s 24)with op:=s.op-1}:=⟨k.l,k.ln,k.nx,⟨by show 0<=s.op-1;omega,by show s.op-1<=(avS (wnB s 24)).ns+1;omega⟩,fun _=>(by show s.op-1<=(avS (wnB s 24)).ns;omega),k.ns,k.ps,k.pn,k.ez,k.pl⟩
 exact⟨⟨i,W.q.L,W.q.ns,W.q.e,W.q.b,W.q.f⟩,rfl,W.p,fun q=>have a:=W.y q;⟨a.1,a.2.1,a.2.2.1⟩,W.n⟩
structure Pr (lv:Lv) (s:PS) (x:Int) (s':PS):Prop where
 q:Stq s s'
 o:s'.op=s.op
 st:0<lft s->s'.ps.length+2*lft s'+1<=s.ps.length+2*lft s
 d:s.er=0->(s'.er=0/\∃t,Pa (s.ns-s.op) lv (suf s) t (suf s')/\x+1=s'.ps.length/\ntl s'.ps=ntl s.ps ++Jan s.ps.length t)\/(s'.er≠0/\∀t r,¬Pa (s.ns-s.op) lv (suf s) t r)
end V
end Go.Proofs.YtnhbcdnmfafbiaaGreatDoor
set_option maxRecDepth 100000
namespace Go.Proofs.YtnhbcdnmfafbiaaGreatDoor
namespace V
open Go.Proofs
theorem Jbi {l:List (List C)}(h:Rw fSt Tt l):pln l:=List.all_eq_true.2 fun e he=>by
 obtain⟨x,rfl,_⟩:=h e he;rfl
structure Jam (N:Nat) (F:List Wd->Option (List ByteArray × List Wd)) (s:PS) (l:List (List C)) (s':PS):Prop where
 q:Stq s s'
 o:s'.op=s.op
 p:s'.ps=s.ps
 r:Rw fSt Tt l
 n:l.length<=N
 y:s.er=0->(s'.er=0/\∃ns,F (suf s)=some (ns,suf s')/\l=nmC ns)\/(s'.er≠0/\F (suf s)=none)
structure PmI (s s':PS) (l:List (List C)):Prop where
 q:Stq s s'
 o:s'.op=s.op
 p:s'.ps=s.ps
 r:Rw fSt Tt l
 n:1<=l.length/\l.length<=4
 y:s.er=0->(s'.er=0/\∃ns,prF (suf s)=some (ns ++(nmL (4-l.length) (suf s')).1,(nmL (4-l.length) (suf s')).2)/\l=nmC ns)\/(s'.er≠0/\prF (suf s)=none)
def pmT:Rl Av:=.cons 0 (tA 0) <| .cons 4 (tL 4) .nil
def pmRt:Rl Rt:=.cons 0 (rX 0 fPS) <| .cons 4 (rX 2 (fO 1)) .nil
def pmH (s:PS):Hy:=⟨hPS,[],[],[(3,.iv pmT pmRt (fun q=>PmI s q.2.1 q.2.2.1) fun q=>4-q.2.2.1.length)]⟩
theorem JfW {s:PS}(h:PsI s):Tot T1 (mkc (rR 1) bPS (fun l s'=>Jam 4 prF s l s') True) 130 [pPS s]:=vR (pmH s) JcN [(2,0)] [false] Tryz.func130 (WdP s/\∀(x:WdS × PS),TkR (wnB s 2) x.1 x.2->PmI s x.2 [[C.s x.1.s]]/\∀(a:(Unit × Unit × Unit) × PS × List (List C) × Unit),PmI s a.2.1 a.2.2.1->br (decide (↑(List.length a.2.2.1)<(4:Int))) (WdP a.2.1/\∀(x:Int × Unit),x.1=(wdA {L:=a.2.1.L,nx:=a.2.1.nx,op:=a.2.1.op,ns:=a.2.1.ns,ps:=a.2.1.ps,er:=a.2.1.er,pl:=a.2.1.pl}).k->br (decide (x.1=2)) (WdP a.2.1/\∀(x:WdS × PS),TkR a.2.1 x.1 x.2->List.length a.2.2.1+1<=4000000000/\PmI s x.2 (a.2.2.1 ++(List.replicate 1 [se]).set 0 [C.s x.1.s])/\4-(a.2.2.1 ++(List.replicate 1 [se]).set 0 [C.s x.1.s]).length<4-List.length a.2.2.1) (pln a.2.2.1/\Jam 4 prF s a.2.2.1 a.2.1)) (false=false/\pln a.2.2.1/\Jam 4 prF s a.2.2.1 a.2.1)) (by kernel_rfl) (by
 refine⟨h.w,fun⟨w,s1⟩ ⟨e1,e2⟩=>?_⟩
 dsimp only at e1 e2 ⊢
 subst e1 e2;have W:=h.wt (k:=2) (by omega);refine⟨⟨W.q,W.o,W.p,Rw.one trivial,⟨Nat.le_refl _,by simp⟩,fun _=>?_⟩,fun⟨_,s2,l,_⟩ ⟨q,o,p,r,n,y⟩=>?_⟩
 .by_cases hk2:hk (suf s)=2
  .obtain⟨_,a1,a2,_⟩:=W.y hk2
   refine .inl ⟨a1,[hs (suf s)],?_,?_⟩
   .unfold prF
    rw[if_pos hk2,a2];rfl
   .rw[Ja6 hk2 h.w,(Jaf h.w).2.2];rfl
  .exact .inr ⟨W.n hk2,by unfold prF;rw[if_neg hk2]⟩
 .dsimp only at q o p r n y ⊢
  have fin:(¬(hk (suf s2)=2/\l.length<4))->Jam 4 prF s l s2:=fun hq=>by
   refine⟨q,o,p,r,by omega,fun e0=>(y e0).imp_left fun⟨y1,ns,y2,y3⟩=>⟨y1,ns,?_,y3⟩⟩
   have:nmL (4-l.length) (suf s2)=([],suf s2):=by
    cases h4 :4-l.length with
    |zero=>rfl
    |succ m=>
     rw[nmL,if_neg fun e=>hq ⟨e,by omega⟩]
   rw[y2,this,List.append_nil]
  refine⟨fun E=>⟨q.i.w,fun⟨x,_⟩ e=>?_⟩,fun E=>⟨rfl,Jbi r,fin fun hq=>by have:=df E;omega⟩⟩;have e:x=(wdA s2).k:=e;subst e
  dsimp only
  refine⟨fun B=>⟨q.i.w,fun⟨w,s3⟩ ⟨e1,e2⟩=>?_⟩,fun B=>⟨Jbi r,fin fun hq=>df B ((Jaf q.i.w).1.symm.trans hq.1)⟩⟩
  dsimp only at e1 e2 ⊢
  subst e1 e2;have E:=dt E;have B:=dt B;obtain⟨K,z⟩:=q.i.tk (by rw[B];omega);have ll:(l ++(List.replicate 1 [se]).set 0 [C.s (wdA s2).s]).length=l.length+1:=by rw[List.length_append];rfl
  refine⟨by omega,⟨q.trans K.q,K.o.trans o,K.p.trans p,r.app (Rw.one (S:=fSt) (x:=(wdA s2).s) trivial),by omega,fun e0=>(y e0).elim (fun⟨y1,ns,y2,y3⟩=>.inl ⟨K.z.trans y1,ns ++[hs (suf s2)],?_,?_⟩) fun⟨y1,y2⟩=>absurd z y1⟩,by omega⟩
  .rw[y2,ll,K.f,show 4-l.length=4-(l.length+1)+1 by omega,nmL,if_pos ((Jaf q.i.w).1.trans B),List.append_assoc]
   rfl
  .rw[y3,(Jaf q.i.w).2.2];unfold nmC;rw[List.map_append];rfl)
def JcP:Cts:=ctp 130 (kA (aC (aP fPS) aN) fun a=>mkc (rR 1) bPS (fun l s'=>Jam 4 prF a.1 l s') (PsI a.1)) JcO
theorem Jek:Good T1 JcP:=by
 unfold JcP;refine Good.ad1 JcN ?_;rintro a h;exact JfW h
theorem Jf1 {s:PS}(h:PsI s):Tot T1 (mkc (rR 1) bPS (fun l s'=>Jam 5 fnF s l s') True) 127 [pPS s]:=vR hPy Jek [(2,0)] [false] Tryz.func127 (WdP s/\∀(x:WdS × PS),TkR (wnB s 2) x.1 x.2->PsI x.2/\∀(x_1:List (List C) × PS),Jam 4 prF x.2 x_1.1 x_1.2->pln x_1.1/\1+List.length x_1.1<=4000000000/\pln ([C.s x.1.s] ::x_1.1)/\Jam 5 fnF s ([C.s x.1.s] ::x_1.1) x_1.2) (by kernel_rfl) (by
 refine⟨h.w,fun⟨w,s1⟩ ⟨e1,e2⟩=>?_⟩
 dsimp only at e1 e2 ⊢
 subst e1 e2;have W:=h.wt (k:=2) (by omega);refine⟨W.q.i,fun⟨l,s2⟩ ⟨q,o,p,r,n,y⟩=>?_⟩
 dsimp only at q o p r n y ⊢
 refine⟨Jbi r,by omega,Jbi (Rw.app (Rw.one (S:=fSt) (p:=Tt) (x:=(wdA (wnB s 2)).s) trivial) r),⟨W.q.trans q,o.trans W.o,p.trans W.p,Rw.app (Rw.one (S:=fSt) (x:=(wdA (wnB s 2)).s) trivial) r,by simp only[List.length_cons];omega,fun e0=>?_⟩⟩;unfold fnF
 by_cases B:hk (suf s)=2
 .obtain⟨_,a1,a2,_⟩:=W.y B
  rw[if_pos B,<-a2]
  rcases y a1 with⟨E,ns,G,J⟩|⟨E,G⟩
  .refine .inl ⟨E,hs (suf s) ::ns,by rw[G],?_⟩
   rw[J,Ja6 B h.w,(Jaf h.w).2.2];rfl
  .exact .inr ⟨E,by rw[G]⟩
 .exact .inr ⟨q.e (W.n B),if_neg B⟩)
def tpC (ns:List ByteArray) (n:Nat) (ws:List Wd):Option (List ByteArray × List Wd):=match cmL n ws with
 |some (l,r)=>if hk r=24 then some (ns ++l,r.tail) else none
 |none=>none
theorem Jff {ns:List ByteArray}{n:Nat}{ws:List Wd}(h:hk ws=25):tpC ns (n+1) ws=if hk ws.tail=2 then tpC (ns ++[hs ws.tail]) n ws.tail.tail else none:=by
 unfold tpC;rw[cmL,if_pos h]
 split
 .rename_i h2
  split at h2
  .rename_i h3
   rw[if_pos h3]
   split at h2
   .rename_i h4;cases h2;rw[h4];simp only[List.append_assoc,List.singleton_append]
   .cases h2
  .cases h2
 .rename_i h2
  split at h2
  .rename_i h3
   rw[if_pos h3]
   split at h2
   .cases h2
   .rename_i h4;rw[h4]
  .rename_i h3;rw[if_neg h3]
theorem Jfg {ns:List ByteArray}{n:Nat}{ws:List Wd}(h:n=0\/hk ws≠25):tpC ns n ws=if hk ws=24 then some (ns,ws.tail) else none:=by
 have:cmL n ws=some ([],ws):=by
  cases n with
  |zero=>rfl
  |succ n=>rw[cmL,if_neg (h.resolve_left (by omega))]
 unfold tpC;rw[this];simp only[List.append_nil]
theorem Jfe {d:Int}{ws:List Wd}(h:hk ws=23):tpF d ws=if 0<d/\hk ws.tail=2/\hk ws.tail.tail=25/\hk ws.tail.tail.tail=2 then tpC [hs ws.tail,hs ws.tail.tail.tail] 4 ws.tail.tail.tail.tail else none:=by
 unfold tpF tpC
 split
 .rename_i h2;rw[if_pos h2.2];rfl
 .rename_i h2;rw[if_neg fun q=>h2 ⟨h,q⟩]
structure TmI (s s':PS) (l:List (List C)):Prop where
 q:Stq s s'
 o:s'.op=s.op+1
 p:s'.ps=s.ps
 r:Rw fSt Tt l
 n:2<=l.length/\l.length<=6
 y:(s'.er=0/\∃ns,tpF (s.ns-s.op) (suf s)=tpC ns (6-l.length) (suf s')/\l=nmC ns)\/(s'.er≠0/\tpF (s.ns-s.op) (suf s)=none)
def tmT:Rl Av:=.cons 0 (tA 0) <| .cons 5 (tL 5) .nil
def tmRt:Rl Rt:=.cons 0 (rX 0 fPS) <| .cons 5 (rX 2 (fO 1)) .nil
def tmH (s:PS):Hy:=⟨hPS,[],[],[(6,.iv tmT tmRt (fun q=>TmI s q.2.1 q.2.2.1) fun q=>6-q.2.2.1.length)]⟩
theorem JfS {s:PS}(h:PsI s) (O:(wdA s).k=23):Tot T1 (mkc (rR 1) bPS (fun l s'=>Jam 6 (tpF (s.ns-s.op)) s l s') True) 128 [pPS s]:=vR (tmH s) JcN [(2,0)] [false] Tryz.func128 (BgP s 23/\∀(x:WdS × PS),JaV s x.1 x.2->WdP x.2/\∀(x_1:WdS × PS),TkR (wnB x.2 2) x_1.1 x_1.2->WdP x_1.2/\∀(x:WdS × PS),TkR (wnB x_1.2 25) x.1 x.2->WdP x.2/\∀(x_2:WdS × PS),TkR (wnB x.2 2) x_2.1 x_2.2->TmI s x_2.2 [[C.s x_1.1.s],[C.s x_2.1.s]]/\∀(a:(Unit × Unit × Unit) × PS × List (List C) × Unit),TmI s a.2.1 a.2.2.1->br (decide (↑(List.length a.2.2.1)<(6:Int))) (WdP a.2.1/\∀(x:Int × Unit),x.1=(wdA {L:=a.2.1.L,nx:=a.2.1.nx,op:=a.2.1.op,ns:=a.2.1.ns,ps:=a.2.1.ps,er:=a.2.1.er,pl:=a.2.1.pl}).k->br (decide (x.1=25)) (WdP a.2.1/\∀(x:WdS × PS),TkR a.2.1 x.1 x.2->WdP x.2/\∀(x_3:WdS × PS),TkR (wnB x.2 2) x_3.1 x_3.2->List.length a.2.2.1+1<=4000000000/\TmI s x_3.2 (a.2.2.1 ++(List.replicate 1 [se]).set 0 [C.s x_3.1.s])/\6-(a.2.2.1 ++(List.replicate 1 [se]).set 0 [C.s x_3.1.s]).length<6-List.length a.2.2.1) ((WdP a.2.1/\0<=a.2.1.op/\a.2.1.op<=1000)/\∀(x:Unit × PS),JaE a.2.1 x.2->pln a.2.2.1/\Jam 6 (tpF (s.ns-s.op)) s a.2.2.1 x.2)) (false=false/\(WdP a.2.1/\0<=a.2.1.op/\a.2.1.op<=1000)/\∀(x:Unit × PS),JaE a.2.1 x.2->pln a.2.2.1/\Jam 6 (tpF (s.ns-s.op)) s a.2.2.1 x.2)) (by kernel_rfl) (by
 have h4:hk (suf s)=23:=(Jaf h.w).1.trans O;have B:=h.bg (by rw[O];omega);have h6:=h.op;have h5:=h.ns;refine⟨⟨h.w,O,by omega⟩,fun⟨w,s1⟩ ⟨e1,e2⟩=>?_⟩
 dsimp only at e2 ⊢
 subst e2;generalize avS {bgB s with op:=s.op+1}=s1 at B ⊢;have J:=B.q.i.wt (k:=2) (by omega);refine⟨B.q.i.w,fun⟨w1,s2⟩ ⟨e1,e2⟩=>?_⟩
 dsimp only at e1 e2 ⊢
 subst e1 e2;have h1:hk (suf s1)=2->(wdA (wnB s1 2)).s=hs (suf s1):=fun q=>by rw[Ja6 q B.q.i.w];exact(Jaf B.q.i.w).2.2.symm
 generalize (wdA (wnB s1 2)).s=n1 at h1 ⊢;generalize avS (wnB s1 2)=s2 at J ⊢;have E:=J.q.i.wt (k:=25) (by omega);refine⟨J.q.i.w,fun⟨w2,s3⟩ ⟨e1,e2⟩=>?_⟩
 dsimp only at e2 ⊢
 subst e2;generalize avS (wnB s2 25)=s3 at E ⊢;have M:=E.q.i.wt (k:=2) (by omega);refine⟨E.q.i.w,fun⟨w3,s4⟩ ⟨e1,e2⟩=>?_⟩
 dsimp only at e1 e2 ⊢
 subst e1 e2;have h3:hk (suf s3)=2->(wdA (wnB s3 2)).s=hs (suf s3):=fun q=>by rw[Ja6 q E.q.i.w];exact(Jaf E.q.i.w).2.2.symm
 generalize (wdA (wnB s3 2)).s=n3 at h3 ⊢;generalize avS (wnB s3 2)=s4 at M ⊢;refine⟨⟨((B.q.trans J.q).trans E.q).trans M.q,by rw[M.o,E.o,J.o,B.o],by rw[M.p,E.p,J.p,B.p],Rw.app (Rw.one (S:=fSt) (x:=n1) trivial) (Rw.one (S:=fSt) (x:=n3) trivial),⟨Nat.le_refl _,by simp⟩,?_⟩,fun⟨_,s5,l,_⟩ ⟨q,o,p,r,n,y⟩=>?_⟩
 .rw[Jfe h4]
  by_cases c1:0<s.ns-s.op
  .obtain⟨_,f1,_⟩:=B.y c1
   by_cases P:hk (suf s1)=2
   .obtain⟨_,_,f2,_⟩:=J.y P
    by_cases Z:hk (suf s2)=25
    .obtain⟨_,_,f3,_⟩:=E.y Z
     by_cases V:hk (suf s3)=2
     .obtain⟨_,z4,f4,_⟩:=M.y V
      refine .inl ⟨z4,[n1,n3],?_,rfl⟩;rw[h1 P,h3 V,f4,f3,f2,f1];rw[f1]at P f2;rw[f2]at Z f3;rw[f3]at V;rw[if_pos ⟨c1,P,Z,V⟩];rfl
     .exact .inr ⟨M.n V,if_neg fun q=>V (by rw[f3,f2,f1];exact q.2.2.2)⟩
    .exact .inr ⟨M.q.e (E.n Z),if_neg fun q=>Z (by rw[f2,f1];exact q.2.2.1)⟩
   .exact .inr ⟨M.q.e (E.q.e (J.n P)),if_neg fun q=>P (by rw[f1];exact q.2.1)⟩
  .exact .inr ⟨M.q.e (E.q.e (J.q.e (B.n c1))),if_neg fun q=>c1 q.1⟩
 .dsimp only at q o p r n y ⊢
  have F:=q.i.fn (by rw[o];omega)
  have fin:(¬(hk (suf s5)=25/\l.length<6))->(WdP s5/\0<=s5.op/\s5.op<=1000)/\∀(x:Unit × PS),JaE s5 x.2->pln l/\Jam 6 (tpF (s.ns-s.op)) s l x.2:=fun hq=>by
   refine⟨⟨q.i.w,by omega,by omega⟩,fun⟨_,s6⟩ ⟨e1⟩=>⟨Jbi r,?_⟩⟩
   dsimp only at e1 ⊢
   subst e1;generalize ({avS (wnB s5 24)with op:=s5.op-1}:PS)=s6 at F ⊢;refine⟨q.trans F.q,by rw[F.o,o];omega,F.p.trans p,r,n.2,fun e0=>?_⟩
   rcases y with⟨y1,ns,Y,y3⟩|⟨y1,Y⟩
   .rw[Y,Jfg (by rcases Nat.lt_or_ge l.length 6 with g|g;exact .inr fun e=>hq ⟨e,g⟩;exact .inl (by omega))]
    by_cases c:hk (suf s5)=24
    .obtain⟨_,z,f⟩:=F.y c
     exact .inl ⟨z,ns,by rw[if_pos c,f],y3⟩
    .exact .inr ⟨F.n c,if_neg c⟩
   .exact .inr ⟨F.q.e y1,Y⟩
  refine⟨fun hb=>⟨q.i.w,fun⟨x,_⟩ e=>?_⟩,fun hb=>⟨rfl,fin fun hq=>by have:=df hb;omega⟩⟩;have e:x=(wdA s5).k:=e;subst e
  dsimp only
  refine⟨fun G=>⟨q.i.w,fun⟨w,s6⟩ ⟨e1,e2⟩=>?_⟩,fun G=>fin fun hq=>df G ((Jaf q.i.w).1.symm.trans hq.1)⟩
  dsimp only at e1 e2 ⊢
  subst e1 e2;have hb:=dt hb;have G:=dt G;obtain⟨K,z⟩:=q.i.tk (by rw[G];omega);generalize avS s5=s6 at K ⊢;have W:=K.q.i.wt (k:=2) (by omega);refine⟨K.q.i.w,fun⟨w,s7⟩ ⟨e1,e2⟩=>?_⟩
  dsimp only at e1 e2 ⊢
  subst e1 e2;have ew:hk (suf s6)=2->(wdA (wnB s6 2)).s=hs (suf s6):=fun q=>by rw[Ja6 q K.q.i.w];exact(Jaf K.q.i.w).2.2.symm
  generalize (wdA (wnB s6 2)).s=n1 at ew ⊢;generalize avS (wnB s6 2)=s7 at W ⊢;have ll:(l ++(List.replicate 1 [se]).set 0 [C.s n1]).length=l.length+1:=by rw[List.length_append];rfl
  refine⟨by omega,⟨(q.trans K.q).trans W.q,by rw[W.o,K.o,o],by rw[W.p,K.p,p],r.app (Rw.one (S:=fSt) (x:=n1) trivial),by omega,?_⟩,by omega⟩
  rcases y with⟨y1,ns,Y,y3⟩|⟨y1,Y⟩
  .rw[Y,ll,show 6-l.length=6-(l.length+1)+1 by omega,Jff ((Jaf q.i.w).1.trans G),<-K.f]
   by_cases c:hk (suf s6)=2
   .obtain⟨_,z7,f7,_⟩:=W.y c
    refine .inl ⟨z7,ns ++[n1],?_,?_⟩
    .rw[if_pos c,ew c,f7]
    .rw[y3];unfold nmC;rw[List.map_append];rfl
   .exact .inr ⟨W.n c,if_neg c⟩
  .exact absurd z y1)
end V
end Go.Proofs.YtnhbcdnmfafbiaaGreatDoor
namespace Go.Proofs.YtnhbcdnmfafbiaaGreatDoor
namespace V
open Go.Proofs
abbrev Dp (s:PS):Int:=s.ns-s.op
def adS (s:PS) (x:PqS):PS:={s with ps:=s.ps ++[fPq.f x]}
theorem Jbu (s:PS) (x:PqS):lft (adS s x)=lft s:=rfl
theorem JaL (s:PS) (x:PqS):(adS s x).ps.length=s.ps.length+1:=by unfold adS;simp
theorem Stq.add {s B:PS}(h0:PsI s) (h:Stq s B) {x:PqS}(hx:Jao x) (E:B.ps.length+1+2*lft B<=s.ps.length+2*lft s):Stq s (adS B x):=by
 have pn:=h0.pn;have i:=h.i;have G:B.ps.length+1+2*lft B<=s.ps.length+2*(s.L.length-s.nx).toNat:=E;refine⟨⟨i.l,i.ln,i.nx,i.op,i.oz,i.ns,i.ps.app (Rw.one hx),?_,i.ez,i.pl⟩,h.L,h.ns,h.e,by rw[JaL,Jbu];exact E,h.f⟩;rw[JaL];have:lft B=((adS B x).L.length-(adS B x).nx).toNat:=rfl;omega
theorem Pr.eq {lv B:Lv}{s G:PS}{x:Int}(h:Pr lv s x G) (E:∀t r,Pa (Dp s) B (suf s) t r↔Pa (Dp s) lv (suf s) t r):Pr B s x G:=⟨h.q,h.o,h.st,fun z=>(h.d z).elim (fun⟨a,t,b,c⟩=>.inl ⟨a,t,(E _ _).2 b,c⟩) fun⟨a,b⟩=>.inr ⟨a,fun t r q=>b t r ((E t r).1 q)⟩⟩
theorem Jdx (l:List (List C)):(ntl l).length=l.length:=List.length_map ..
theorem Jcf {s B:PS}{ts:List Te}(h:ntl B.ps=ntl s.ps ++Jag s.ps.length ts):B.ps.length=s.ps.length+szs ts:=by
 have:=congrArg List.length h
 rwa [Jdx,List.length_append,Jdx,Ja8]at this
structure Kd (s s1:PS) (ts:List Te) (ks:List (List C)):Prop where
 p:ntl s1.ps=ntl s.ps ++Jag s.ps.length ts
 k:ks=kix s.ps.length ts
theorem Kd.nil (s:PS):Kd s s [] []:=⟨by rw[Jag,List.append_nil],rfl⟩
theorem Kd.snoc {s E s2:PS}{ts:List Te}{ks:List (List C)}(h:Kd s E ts ks) {s1':PS}(e:s1'.ps=E.ps) {t:Te}{x:Int}(hx:x+1=s2.ps.length) (hp:ntl s2.ps=ntl s1'.ps ++Jan s1'.ps.length t):Kd s s2 (ts ++[t]) (ks ++[[I x]]):=by
 have G:=Jcf h.p;have B:ntl s2.ps=ntl s.ps ++Jag s.ps.length (ts ++[t]):=by rw[hp,e,h.p,Jcg,Jdi,G,List.append_assoc]
 refine⟨B,?_⟩;have J:=Jcf B;rw[Jbz,szs,szs]at J;rw[h.k,Jco];have:x=((s.ps.length+szs ts+sz t:Nat):Int)-1:=by omega
 rw[this];rfl
theorem Kd.on {s B s2:PS}{ts:List Te}{ks:List (List C)}(h:Kd s B ts ks) (e:s2.ps=B.ps):Kd s s2 ts ks:=⟨by rw[e];exact h.p,h.k⟩
theorem Kd.node {s B:PS}{ts:List Te}{ks:List (List C)}(h:Kd s B ts ks) {x:PqS}{ns:List ByteArray}(hm:x.m=nmC ns) (hs:x.s=ks):(B.ps.length:Int)+1=(adS B x).ps.length/\ntl (adS B x).ps=ntl s.ps ++Jan s.ps.length (.n x.k x.w x.n ns ts):=by
 refine⟨by rw[JaL];rfl,?_⟩;unfold adS;rw[Jga,h.p,Jan,List.append_assoc,<-h.k,<-hs,<-hm];rfl
theorem JgL {s:PS}(h:(wdA s).k≠0):0<lft s:=by have:=Jb6 h;unfold lft;omega
theorem Pr.bin {lv G J:Lv}{k:Int}{s B s2:PS}{x y:Int}(h0:PsI s) (E:Pr G s x B) (O:(wdA B).k≠0) (h2:Pr J (avS B) y s2) (hk:0<=k/\k<=34)
 (hn:∀t r,Pa (Dp s) lv (suf s) t r->∃a r1,Pa (Dp s) G (suf s) a r1)
 (hy:∀a,Pa (Dp s) G (suf s) a (suf B)->∀t r,Pa (Dp s) lv (suf s) t r↔∃b,Pa (Dp s) J (suf B).tail b r/\t= .n k (wdA B).k 0 [] [a,b]):Pr lv s s2.ps.length (adS s2 (Jah k x (wdA B) y)):=by
 obtain⟨K,z⟩:=E.q.i.tk O;have q2:Stq s s2:=(E.q.trans K.q).trans h2.q
 have V:s2.ps.length+1+2*lft s2+1<=s.ps.length+2*lft s:=by
  have P:=E.q.b;have a2:=h2.q.b;have a3:=K.l;rw[K.p]at a2;omega
 have ok:Jao (Jah k x (wdA B) y):=⟨hk,by unfold Jah;dsimp only;omega,Rw.nil,by simp[Jah],Rw.app (l:=[[I x]]) (Rw.one (S:=fI) (p:=Tt) (x:=x) trivial) (Rw.one (S:=fI) (x:=y) trivial),by simp[Jah]⟩
 have M:Dp (avS B)=Dp s:=by show B.ns-B.op=s.ns-s.op;rw[E.q.ns,E.o]
 refine⟨q2.add h0 ok (by omega),by show s2.op=s.op;rw[h2.o];exact E.o,fun _=>by rw[JaL,Jbu];omega,fun z0=>?_⟩
 rcases E.d z0 with⟨_,a,b1,b2,b3⟩|⟨b1,b2⟩
 .rw[<-K.f]at hy
  have hy:=hy a b1
  rcases h2.d (K.z.trans z)with⟨c0,b,c1,c2,c3⟩|⟨c1,c2⟩
  .have N:=((Kd.nil s).snoc rfl b2 b3).snoc (s1':=avS B) rfl c2 c3
   obtain⟨n1,n2⟩:=N.node (x:=Jah k x (wdA B) y) (ns:=[]) rfl rfl;exact .inl ⟨c0,_,(hy _ _).2 ⟨b,by rw[<-M];exact c1,rfl⟩,n1,n2⟩
  .refine .inr ⟨c1,fun t r q=>?_⟩
   obtain⟨b,q1,_⟩:=(hy t r).1 q;exact c2 b r (by rw[<-M]at q1;exact q1)
 .exact absurd z b1
theorem Pr.node {lv:Lv}{s B:PS}(h0:PsI s) (q:Stq s B) (E:B.op=s.op) {x:PqS}(hx:Jao x) (G:B.ps.length+2+2*lft B<=s.ps.length+2*lft s) (d:s.er=0->(B.er=0/\∃t,Pa (Dp s) lv (suf s) t (suf B)/\ntl (adS B x).ps=ntl s.ps ++Jan s.ps.length t)\/(B.er≠0/\∀t r,¬Pa (Dp s) lv (suf s) t r)):Pr lv s B.ps.length (adS B x):=⟨q.add h0 hx (by omega),E,fun _=>by rw[JaL,Jbu];omega,fun z=>(d z).imp_left fun⟨a,t,b,c⟩=>⟨a,t,b,by rw[JaL];rfl,c⟩⟩
structure LpI (lv:Lv) (l:Te->Lv) (s s1:PS) (x:Int):Prop where
 q:Stq s s1
 o:s1.op=s.op
 st:0<lft s->s1.ps.length+2*lft s1+1<=s.ps.length+2*lft s
 d:s.er=0->(s1.er=0/\∃a,(∀t r,Pa (Dp s) lv (suf s) t r↔Pa (Dp s) (l a) (suf s1) t r)/\x+1=s1.ps.length/\ntl s1.ps=ntl s.ps ++Jan s.ps.length a)\/(s1.er≠0/\∀t r,¬Pa (Dp s) lv (suf s) t r)
theorem LpI.of {lv E:Lv}{l:Te->Lv}{s J:PS}{x:Int}(h:Pr E s x J) (B:∀t r,Pa (Dp s) lv (suf s) t r↔∃a r1,Pa (Dp s) E (suf s) a r1/\Pa (Dp s) (l a) r1 t r):LpI lv l s J x:=⟨h.q,h.o,h.st,fun z=>(h.d z).elim (fun⟨a,t,b,c⟩=>.inl ⟨a,t,fun t' r'=>(B t' r').trans ⟨fun⟨M,r1,G,p2⟩=>by obtain⟨rfl,rfl⟩:=Pa.det b G;exact p2,fun p=>⟨t,_,b,p⟩⟩,c⟩) fun⟨a,b⟩=>.inr ⟨a,fun t r q=>by obtain⟨M,r1,G,_⟩:=(B t r).1 q;exact b _ _ G⟩⟩
theorem LpI.end {lv:Lv}{l:Te->Lv}{s B:PS}{x:Int}(h:LpI lv l s B x) (E:∀a t r,Pa (Dp s) (l a) (suf B) t r↔t=a/\r=suf B):Pr lv s x B:=⟨h.q,h.o,h.st,fun z=>(h.d z).elim (fun⟨a,t,b,c⟩=>.inl ⟨a,t,(b _ _).2 ((E _ _ _).2 ⟨rfl,rfl⟩),c⟩) .inr⟩
theorem LpI.next {lv J:Lv}{l:Te->Lv}{k:Int}{s B s2:PS}{x y:Int}(h0:PsI s) (E:LpI lv l s B x) (O:(wdA B).k≠0) (h2:Pr J (avS B) y s2) (hk:0<=k/\k<=34)
 (hy:∀a t r,Pa (Dp s) (l a) (suf B) t r↔∃b r1,Pa (Dp s) J (suf B).tail b r1/\Pa (Dp s) (l (.n k (wdA B).k 0 [] [a,b])) r1 t r):LpI lv l s (adS s2 (Jah k x (wdA B) y)) s2.ps.length/\lft s2<lft B:=by
 obtain⟨K,z⟩:=E.q.i.tk O;have q2:Stq s s2:=(E.q.trans K.q).trans h2.q;have a3:=K.l
 have V:s2.ps.length+1+2*lft s2+1<=s.ps.length+2*lft s:=by
  have P:=E.q.b;have a2:=h2.q.b;rw[K.p]at a2;omega
 have ok:Jao (Jah k x (wdA B) y):=⟨hk,by unfold Jah;dsimp only;omega,Rw.nil,by simp[Jah],Rw.app (l:=[[I x]]) (Rw.one (S:=fI) (p:=Tt) (x:=x) trivial) (Rw.one (S:=fI) (x:=y) trivial),by simp[Jah]⟩
 have M:Dp (avS B)=Dp s:=by show B.ns-B.op=s.ns-s.op;rw[E.q.ns,E.o]
 refine⟨⟨q2.add h0 ok (by omega),by show s2.op=s.op;rw[h2.o];exact E.o,fun _=>by rw[JaL,Jbu];omega,fun z0=>?_⟩,by have:=h2.q.f;omega⟩
 rcases E.d z0 with⟨_,a,b1,b2,b3⟩|⟨b1,b2⟩
 .have hy:=hy a
  rw[<-K.f]at hy
  rcases h2.d (K.z.trans z)with⟨c0,b,G,c2,c3⟩|⟨G,c2⟩
  .have N:=((Kd.nil s).snoc rfl b2 b3).snoc (s1':=avS B) rfl c2 c3
   obtain⟨n1,n2⟩:=N.node (x:=Jah k x (wdA B) y) (ns:=[]) rfl rfl;replace G:Pa (Dp s) J (suf (avS B)) b (suf s2):=by rw[<-M];exact G
   exact .inl ⟨c0,_,fun t r=>(b1 t r).trans ((hy t r).trans ⟨fun⟨b',r1,p1,p2⟩=>by obtain⟨rfl,rfl⟩:=Pa.det G p1;exact p2,fun p=>⟨b,_,G,p⟩⟩),n1,n2⟩
  .refine .inr ⟨G,fun t r q=>?_⟩
   obtain⟨b,r1,q1,_⟩:=(hy t r).1 ((b1 t r).1 q);exact c2 b r1 (by rw[<-M]at q1;exact q1)
 .exact absurd z b1
theorem JaW:∀{a b:List ByteArray},nmC a=nmC b->a=b
 |[],[],_=>rfl
 |[],b ::bs,h=>by cases h
 |a ::xs,[],h=>by cases h
 |a ::xs,b ::bs,h=>by
  simp only[nmC,List.map_cons,List.cons.injEq,C.s.injEq,and_true]at h;rw[h.1,JaW h.2]
abbrev Cr:=List Te->List Wd->Te->List Wd->Prop
structure KlI (c:Nat) (lv:Lv) (R:Cr) (D:Int) (s s1:PS) (ks:List (List C)):Prop where
 q:Stq s s1
 b:s1.ps.length+2*lft s1+c<=s.ps.length+2*lft s
 o:s1.ns-s1.op=D
 r:Ri ks
 d:s.er=0->(s1.er=0/\∃ts:List Te,ts.length=ks.length/\(∀t r,Pa (Dp s) lv (suf s) t r↔R ts (suf s1) t r)/\Kd s s1 ts ks)\/(s1.er≠0/\∀t r,¬Pa (Dp s) lv (suf s) t r)
theorem KlI.take {lv:Lv}{R:Cr}{s:PS}(h:PsI s) (B:(wdA s).k≠0) (hy:∀t r,Pa (Dp s) lv (suf s) t r↔R [] (suf s).tail t r):KlI 2 lv R (Dp s) s (avS s) []:=by
 obtain⟨K,z⟩:=h.tk B;have:=K.l;exact⟨K.q,by rw[K.p];omega,rfl,Rw.nil,fun _=>.inl ⟨K.z.trans z,[],rfl,fun t r=>by rw[K.f];exact hy t r,(Kd.nil s).on K.p⟩⟩
theorem KlI.begin {lv:Lv}{R:Cr}{s E:PS}(B:Bgd s E) (hn:¬0<Dp s->∀t r,¬Pa (Dp s) lv (suf s) t r) (hy:0<Dp s->∀t r,Pa (Dp s) lv (suf s) t r↔R [] (suf s).tail t r):KlI 2 lv R (Dp s-1) s E []:=by
 have:=B.l;refine⟨B.q,by rw[B.p];omega,by rw[B.q.ns,B.o];show _=s.ns-s.op-1;omega,Rw.nil,fun _=>?_⟩
 by_cases c:0<Dp s
 .obtain⟨a1,a2,_⟩:=B.y c
  exact .inl ⟨a1,[],rfl,fun t r=>by rw[a2];exact hy c t r,by rw[Jag,List.append_nil,B.p],rfl⟩
 .exact .inr ⟨B.n c,hn c⟩
theorem KlI.next {c c':Nat}{lv M:Lv}{R R':Cr}{D:Int}{s B s1' s2:PS}{ks:List (List C)}{y:Int}(E:KlI c lv R D s B ks) (q':Stq B s1') (V:s1'.op=B.op) (p':s1'.ps=B.ps) (P:s1'.er=B.er) (h2:Pr M s1' y s2) (J:c'<=c\/(c'<=c+1/\0<lft s1'))
 (hy:∀ts:List Te,ts.length=ks.length->∀t r,R ts (suf B) t r↔∃b r1,Pa D M (suf s1') b r1/\R' (ts ++[b]) r1 t r):KlI c' lv R' D s s2 (ks ++[[I y]]):=by
 have O:Dp s1'=D:=by show s1'.ns-s1'.op=D;rw[q'.ns,V];exact E.o
 have b0:=E.b;have b1:=q'.b;have b2:=h2.q.b;refine⟨(E.q.trans q').trans h2.q,?_,by rw[h2.q.ns,h2.o];exact O,E.r.app (Rw.one (S:=fI) (x:=y) trivial),fun z0=>?_⟩
 .rcases J with J|⟨J,hl⟩
  .omega
  .have:=h2.st hl;omega
 rcases E.d z0 with⟨a0,ts,G,a2,a3⟩|⟨G,a2⟩
 .rcases h2.d (P.trans a0)with⟨c0,b,c1,c2,c3⟩|⟨c1,c2⟩
  .replace c1:Pa D M (suf s1') b (suf s2):=by rw[<-O];exact c1
   refine .inl ⟨c0,ts ++[b],by rw[List.length_append,List.length_append,G];rfl,fun t r=>(a2 t r).trans ((hy ts G t r).trans ⟨fun⟨b',r1,p1,p2⟩=>by obtain⟨rfl,rfl⟩:=Pa.det c1 p1;exact p2,fun p=>⟨b,_,c1,p⟩⟩),a3.snoc p' c2 c3⟩
  .refine .inr ⟨c1,fun t r q=>?_⟩
   obtain⟨b,r1,q1,_⟩:=(hy ts G t r).1 ((a2 t r).1 q);exact c2 b r1 (by rw[<-O]at q1;exact q1)
 .exact .inr ⟨h2.q.e (by rw[P];exact G),a2⟩
theorem KlI.want {c:Nat}{lv:Lv}{R R':Cr}{D k:Int}{s B s2:PS}{ks:List (List C)}(h:KlI c lv R D s B ks) (W:Wtd B k s2) (hy:∀(ts:List Te) t r,R ts (suf B) t r↔hk (suf B)=k/\R' ts (suf B).tail t r):KlI c lv R' D s s2 ks:=by
 have b1:=W.q.b;have b0:=h.b;refine⟨h.q.trans W.q,by omega,by rw[W.q.ns,W.o];exact h.o,h.r,fun z0=>?_⟩
 rcases h.d z0 with⟨a0,ts,E,a2,a3⟩|⟨E,a2⟩
 .by_cases hc:hk (suf B)=k
  .obtain⟨_,w1,w2,_⟩:=W.y hc
   exact .inl ⟨w1,ts,E,fun t r=>(a2 t r).trans ((hy ts t r).trans ⟨fun q=>by rw[w2];exact q.2,fun q=>⟨hc,by rw[w2]at q;exact q⟩⟩),a3.on W.p⟩
  .exact .inr ⟨W.n hc,fun t r q=>hc ((hy ts t r).1 ((a2 t r).1 q)).1⟩
 .exact .inr ⟨W.q.e E,a2⟩
theorem KlI.nms {c N:Nat}{F:List Wd->Option (List ByteArray × List Wd)}{lv:Lv}{R:Cr}{R':List ByteArray->Cr}{D:Int}{s B s2:PS}{ks l:List (List C)}(h:KlI c lv R D s B ks) (W:Jam N F B l s2) (hy:∀(ts:List Te) t r,R ts (suf B) t r↔∃ns r0,F (suf B)=some (ns,r0)/\R' ns ts r0 t r):KlI c lv (fun ts ws t r=>∃ns,nmC ns=l/\R' ns ts ws t r) D s s2 ks:=by
 have b1:=W.q.b;have b0:=h.b;refine⟨h.q.trans W.q,by omega,by rw[W.q.ns,W.o];exact h.o,h.r,fun z0=>?_⟩
 rcases h.d z0 with⟨a0,ts,E,a2,a3⟩|⟨E,a2⟩
 .rcases W.y a0 with⟨w1,ns,w2,w3⟩|⟨w1,w2⟩
  .refine .inl ⟨w1,ts,E,fun t r=>(a2 t r).trans ((hy ts t r).trans ⟨fun⟨ns',r0,q1,q2⟩=>?_,fun⟨ns',q1,q2⟩=>⟨ns,_,w2,?_⟩⟩),a3.on W.p⟩
   .rw[w2]at q1;cases q1
    exact⟨ns,w3.symm,q2⟩
   .rw[JaW (q1.trans w3)]at q2;exact q2
  .refine .inr ⟨w1,fun t r q=>?_⟩
   obtain⟨ns,r0,q1,_⟩:=(hy ts t r).1 ((a2 t r).1 q);rw[w2]at q1;cases q1
 .exact .inr ⟨W.q.e E,a2⟩
theorem KlI.node {c:Nat}{lv:Lv}{R:Cr}{s B:PS}{ks:List (List C)}(h0:PsI s) (h:KlI c lv R (Dp s) s B ks) (M:2<=c) {x:PqS}(hk:0<=x.k/\x.k<=34) (hn:0<=x.n/\x.n<=4611686018427387903) (hm:Rw fSt Tt x.m) (ml:x.m.length<=6) (hs:x.s=ks) (hl:ks.length<=6) (G:B.er=0->∃ns,nmC ns=x.m) (hy:∀(ts:List Te) t r,ts.length=ks.length->(R ts (suf B) t r↔∃ns,nmC ns=x.m/\t= .n x.k x.w x.n ns ts/\r=suf B)):Pr lv s B.ps.length (adS B x):=by
 have b:=h.b;have J:B.op=s.op:=by have o:B.ns-B.op=s.ns-s.op:=h.o;have:=h.q.ns;omega
 refine Pr.node h0 h.q J ⟨hk,hn,hm,ml,by rw[hs];exact h.r,by rw[hs];exact hl⟩ (by omega) fun z0=>?_
 rcases h.d z0 with⟨a0,ts,E,a2,a3⟩|⟨E,a2⟩
 .obtain⟨ns,en⟩:=G a0
  exact .inl ⟨a0,_,(a2 _ _).2 ((hy ts _ _ E).2 ⟨ns,en,rfl,rfl⟩),(a3.node en.symm hs).2⟩
 .exact .inr ⟨E,a2⟩
theorem KlI.refl {lv:Lv}{R:Cr}{s:PS}(h:PsI s) (hy:∀t r,Pa (Dp s) lv (suf s) t r↔R [] (suf s) t r):KlI 0 lv R (Dp s) s s []:=⟨Stq.refl h,Nat.le_refl _,rfl,Rw.nil,fun z=>.inl ⟨z,[],rfl,hy,Kd.nil s⟩⟩
theorem KlI.finish {c:Nat}{lv:Lv}{R R':Cr}{D:Int}{s B s2:PS}{ks:List (List C)}(h:KlI c lv R D s B ks) (W:Fnd B s2) (hy:∀(ts:List Te) t r,ts.length=ks.length->(R ts (suf B) t r↔hk (suf B)=24/\R' ts (suf B).tail t r)):KlI c lv R' (D+1) s s2 ks:=by
 have b1:=W.q.b;have b0:=h.b;have G:=h.o;refine⟨h.q.trans W.q,by omega,by rw[W.q.ns,W.o];omega,h.r,fun z0=>?_⟩
 rcases h.d z0 with⟨a0,ts,E,a2,a3⟩|⟨E,a2⟩
 .by_cases hc:hk (suf B)=24
  .obtain⟨_,w1,w2⟩:=W.y hc
   exact .inl ⟨w1,ts,E,fun t r=>(a2 t r).trans ((hy ts t r E).trans ⟨fun q=>by rw[w2];exact q.2,fun q=>⟨hc,by rw[w2]at q;exact q⟩⟩),a3.on W.p⟩
  .exact .inr ⟨W.n hc,fun t r q=>hc ((hy ts t r E).1 ((a2 t r).1 q)).1⟩
 .exact .inr ⟨W.q.e E,a2⟩
theorem KlI.one {c:Nat}{lv:Lv}{R:Cr}{s B:PS}{x:Int}(h:KlI c lv R (Dp s) s B [[I x]]) (E:0<lft s->1<=c) (hy:∀(a t:Te) r,R [a] (suf B) t r↔t=a/\r=suf B):Pr lv s x B:=by
 have b:=h.b;have G:B.op=s.op:=by have o:B.ns-B.op=s.ns-s.op:=h.o;have:=h.q.ns;omega
 refine⟨h.q,G,fun hl=>by have:=E hl;omega,fun z=>(h.d z).imp_left fun⟨a0,ts,a1,a2,a3⟩=>?_⟩
 match ts,a1,a2,a3 with
 |[a],_,a2,a3=>
  refine⟨a0,a,(a2 _ _).2 ((hy _ _ _).2 ⟨rfl,rfl⟩),?_,by rw[<-Jdi];exact a3.p⟩;have l:=Jcf a3.p;have k:=a3.k;simp only[kix,List.cons.injEq,I,C.i.injEq,true_and,and_true]at k;simp only[szs]at l;omega
theorem LpI.idx {s E s2 Z G:PS}{x y:Int}{w:WdS}(h0:PsI s) (O:LpI .o .ol s E x) (c:hk (suf E)=18) (B:Bgd E s2) (h2:Pr .e s2 y Z) (F:Fnd Z G) (hw:0<Dp E->w.k=18):LpI .o .ol s (adS G (Jah 20 x w y)) G.ps.length/\lft G<lft E:=by
 have q:Stq s G:=((O.q.trans B.q).trans h2.q).trans F.q;have b1:=O.q.b;have b2:=B.l;have b3:=h2.q.b;have b4:=F.q.b;have f3:=h2.q.f;have f4:=F.q.f;rw[B.p]at b3;have hb:G.ps.length+1+2*lft G+1<=s.ps.length+2*lft s:=by omega
 have ok:Jao (Jah 20 x w y):=⟨by unfold Jah;dsimp only;omega,by unfold Jah;dsimp only;omega,Rw.nil,by simp[Jah],Rw.app (l:=[[I x]]) (Rw.one (S:=fI) (p:=Tt) (x:=x) trivial) (Rw.one (S:=fI) (x:=y) trivial),by simp[Jah]⟩
 have eo:G.op=s.op:=by rw[F.o,h2.o,B.o,O.o];omega
 have V:Dp E=Dp s:=by show E.ns-E.op=s.ns-s.op;rw[O.q.ns,O.o]
 have h3:Dp s2=Dp s-1:=by show s2.ns-s2.op=_;rw[B.q.ns,B.o];rw[<-V];show _=E.ns-E.op-1;omega
 refine⟨⟨q.add h0 ok (by omega),eo,fun _=>by rw[JaL,Jbu];omega,fun z0=>?_⟩,by omega⟩
 rcases O.d z0 with⟨_,a,a1,a2,a3⟩|⟨a1,_⟩
 .have iff1:∀t r,Pa (Dp s) .o (suf s) t r↔0<Dp s/\∃b P,Pa (Dp s-1) .e (suf E).tail b P/\hk P=24/\Pa (Dp s) (.ol (.n 20 18 0 [] [a,b])) P.tail t r:=fun t r=>(a1 t r).trans (Pa.iff.trans (by simp only[St1];rw[if_pos c]))
  by_cases M:0<Dp s
  .obtain⟨z2,e2,_⟩:=B.y (by rw[<-V]at M;exact M)
   rw[<-e2]at iff1
   rcases h2.d z2 with⟨z3,b,J,c2,c3⟩|⟨z3,J⟩
   .replace J:Pa (Dp s-1) .e (suf s2) b (suf Z):=by rw[<-h3];exact J
    by_cases hc:hk (suf Z)=24
    .obtain⟨_,w1,w2⟩:=F.y hc
     have N:=(((Kd.nil s).snoc rfl a2 a3).snoc (s1':=s2) B.p c2 c3).on F.p;obtain⟨n1,n2⟩:=N.node (x:=Jah 20 x w y) (ns:=[]) rfl rfl;have ew:w.k=18:=hw (by rw[V];exact M);refine .inl ⟨w1,_,fun t r=>(iff1 t r).trans ⟨fun⟨_,b',P,Y,_,p3⟩=>?_,fun p=>⟨M,b,_,J,hc,?_⟩⟩,n1,n2⟩
     .obtain⟨rfl,rfl⟩:=Pa.det J Y
      show Pa (Dp s) (.ol (.n 20 w.k 0 [] [a,b])) (suf G) t r;rw[ew,w2];exact p3
     .replace p:Pa (Dp s) (.ol (.n 20 w.k 0 [] [a,b])) (suf G) t r:=p
      rw[ew,w2]at p;exact p
    .refine .inr ⟨F.n hc,fun t r p=>?_⟩
     obtain⟨_,b',P,Y,p2,_⟩:=(iff1 t r).1 p;obtain⟨rfl,rfl⟩:=Pa.det J Y;exact hc p2
   .refine .inr ⟨F.q.e z3,fun t r p=>?_⟩
    obtain⟨_,b',P,Y,_,_⟩:=(iff1 t r).1 p;exact J b' P (by rw[<-h3]at Y;exact Y)
  .exact .inr ⟨F.q.e (h2.q.e (B.n (by rw[<-V]at M;exact M))),fun t r p=>M ((iff1 t r).1 p).1⟩
 .exact absurd B.z a1
theorem JgS {B:Lv}{D:Int}{ws r:List Wd}{t:Te}(f:Te->Te):(∃b,Pa D B ws b r/\t=f b)↔∃b r1,Pa D B ws b r1/\t=f b/\r=r1:=⟨fun⟨b,q1,q2⟩=>⟨b,r,q1,q2,rfl⟩,fun⟨b,r1,q1,q2,q3⟩=>⟨b,by rw[q3];exact q1,q2⟩⟩
theorem last2 {B:Lv}{D:Int}{ws r:List Wd}{t:Te}{l:List (List C)}{f:List ByteArray->Te->Te}:(∃ns,nmC ns=l/\∃b,Pa D B ws b r/\t=f ns b)↔∃b r1,Pa D B ws b r1/\∃ns,nmC ns=l/\t=f ns b/\r=r1:=⟨fun⟨ns,q0,b,q1,q2⟩=>⟨b,r,q1,ns,q0,q2,rfl⟩,fun⟨b,r1,q1,ns,q0,q2,q3⟩=>⟨ns,q0,b,by rw[q3];exact q1,q2⟩⟩
theorem Jcy {α:Type}{p q:α->Prop}{c:Prop}:(∃x,p x/\c/\q x)↔c/\∃x,p x/\q x:=⟨fun⟨x,a,b,d⟩=>⟨b,x,a,d⟩,fun⟨b,x,a,d⟩=>⟨x,a,b,d⟩⟩
theorem Jbk {k w m:Int}{ts:List Te}{t:Te}{r ws:List Wd}:(t= .n k w m [] ts/\r=ws)↔∃ns,nmC ns=[]/\t= .n k w m ns ts/\r=ws:=⟨fun q=>⟨[],rfl,q⟩,fun⟨ns,q1,q2⟩=>by rw[show ns=[] from JaW (b:=[]) q1]at q2;exact q2⟩
theorem Stq.nz {s B:PS}(h:Stq s B) (z:B.er=0):s.er=0:=Decidable.byContradiction fun q=>h.e q z
theorem Jam.nm {N:Nat}{F:List Wd->Option (List ByteArray × List Wd)}{s B:PS}{l:List (List C)}(h:Jam N F s l B) (E:B.er=0) (z:s.er=0):∃ns,nmC ns=l:=(h.y z).elim (fun⟨_,ns,_,q⟩=>⟨ns,q.symm⟩) fun⟨q,_⟩=>absurd E q
theorem Pr.same {lv E:Lv}{s B:PS}{x:Int}(h:Pr E s x B) (hn:∀t r,Pa (Dp s) lv (suf s) t r->∃a r1,Pa (Dp s) E (suf s) a r1) (hy:∀a,Pa (Dp s) E (suf s) a (suf B)->Pa (Dp s) lv (suf s) a (suf B)):Pr lv s x B:=⟨h.q,h.o,h.st,fun z=>(h.d z).elim (fun⟨a,t,b,c⟩=>.inl ⟨a,t,hy t b,c⟩) fun⟨a,b⟩=>.inr ⟨a,fun t r q=>by obtain⟨G,r1,p⟩:=hn t r q;exact b _ _ p⟩⟩
theorem Jg2 {k:Int}(h:jm6 k=true):jnJ k=false:=by
 unfold jm6 at h;simp only[Bool.or_eq_true,beq_iff_eq]at h;rcases h with rfl|rfl <;> rfl
theorem JdX {k:Int}(h:Jal k=true):jnJ k=false/\jm6 k=false:=by
 unfold Jal at h;simp only[Bool.or_eq_true,beq_iff_eq]at h;rcases h with(rfl|rfl)|rfl <;> exact⟨rfl,rfl⟩
theorem Jdu (k:Int):opK k=17↔jnJ k=true:=by
 unfold opK;cases jnJ k <;> cases jm6 k <;> cases Jal k <;> simp
theorem Jds (k:Int):opK k=16↔jm6 k=true:=by
 unfold opK;cases hs :jm6 k
 .cases jnJ k <;> cases Jal k <;> simp
 .rw[Jg2 hs];simp
theorem Jdt (k:Int):opK k=15↔Jal k=true:=by
 unfold opK;cases hs :Jal k
 .cases jnJ k <;> cases jm6 k <;> simp
 .rw[(JdX hs).1,(JdX hs).2];simp
theorem JbK {k:Int}(h:jnJ k=true\/jm6 k=true\/Jal k=true\/jnc k=true):k≠0:=by
 rintro rfl;rcases h with h|h|h|h <;> cases h
end V
end Go.Proofs.YtnhbcdnmfafbiaaGreatDoor
